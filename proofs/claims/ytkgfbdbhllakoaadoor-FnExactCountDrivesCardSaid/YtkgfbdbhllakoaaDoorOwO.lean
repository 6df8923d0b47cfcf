/-
  Chapter 6: the program's corners of ways, what is driven between two corners, DriveDistance and CountDrives; the model's DriveDistance.
-/
import Derived.Test.YtkgfbdbhllakoaaDoorOwN
import Derived.Test.YtkgfbdbhllakoaaDoorOwM
import Derived.Deep.RegionHeld3
namespace Go.Proofs
open Go.RowKit Av Gm Go.Maps
set_option linter.unusedVariables false
set_option linter.unusedSimpArgs false
def wB (s a : ByteArray) (xs ys : List Int) : Bool := okW s a && isC a.size s.size xs && isC a.size s.size ys && decide (0 ≤ dsW s a (vx s xs) (vx s ys))
def wV (s a : ByteArray) (xs ys : List Int) : Int := if wB s a xs ys then dsW s a (vx s xs) (vx s ys) else 0
/-- how many ways the program's search counts -/
def wcI (s a : ByteArray) (s0 t0 : Nat) : Int := g (fin (nbL (lsW s a 1)) (a.size * s.size) s0) t0
def wcV (s a : ByteArray) (xs ys : List Int) : Int := if wB s a xs ys then wcI s a (vx s xs) (vx s ys) else 0
set_option maxRecDepth 100000 in
set_option maxHeartbeats 1600000 in
theorem Tryd.sDriveDistance (w : World) (s a : ByteArray) (hs : s.size ≤ maxLen) (ha : a.size ≤ maxLen) (Ba : Nat) (la : Value) (xs : List Int) (Bb : Nat) (lb : Value) (ys : List Int) (v : Int) (b : Bool) (hv : wV s a xs ys = v) (hb : wB s a xs ys = b) (hla : OwnI w Ba la xs) (hlb : OwnI w Bb lb ys) :
    Calls Tryd.prog 12 #[.agg #[.string s, .string a], la, lb] w fun e w' => e = .returned (.tuple #[.int .i64 v, .bool b]) ∧ Below w.heap.size w w' := by
  have mixed : Tryd.prog.follows .mixedOrders = true := by kernel_rfl
  subst hv hb
  obtain ⟨b1, h1⟩ : ∃ b1, okW s a = b1 := ⟨_, rfl⟩
  obtain ⟨b2, h2⟩ : ∃ b1, isC a.size s.size xs = b1 := ⟨_, rfl⟩
  obtain ⟨b3, h3⟩ : ∃ b1, isC a.size s.size ys = b1 := ⟨_, rfl⟩
  have HA := Lib.hid (fun (X : World) (g : Gr w X) => Tryd.owAsked X s a hs ha Ba la xs Bb lb ys b1 b2 b3 h1 h2 h3 (hla.gr g) (hlb.gr g))
  cases hall : (b1 && b2 && b3)
  · have e1 : wB s a xs ys = false := by unfold wB; rw [h1, h2, h3, hall]; rfl
    have e2 : wV s a xs ys = 0 := by unfold wV; rw [e1]; rfl
    rw [e1, e2]
    rw [hall] at HA
    clear hla hlb h1 h2 h3 hall e1 e2
    go_enter Tryd.func12, Tryd.ntmps12
    go_wp2_with (first | (go_at_call 33; refine (HA.out _ (by repeat (first | exact Gr.refl _ | refine Gr.alloc ?_ _ | refine Gr.trans ?_ (by assumption) | refine Gr.drew ?_ | refine Gr.drewN ?_ _ | refine Gr.grow ?_ _ | refine Gr.setCell ?_ (by (try simp); (try omega)) _))).mono ?_; rintro e w1 ⟨rfl, hbW⟩; have hcW := (bcell hbW.below).1; have hfW := (bcell hbW.below).2; (try have hzW : w.heap.size < w1.heap.size := by have hq := hbW.below.size; (try simp at hq); omega); (try have hyW : w.heap.size + 1 < w1.heap.size := by have hq := hbW.below.size; (try simp at hq); omega); (try have hxW : w.heap.size + 2 < w1.heap.size := by have hq := hbW.below.size; (try simp at hq); omega)))
    go_ret2
    exact ⟨by simp <;> rfl, Gr.below (by repeat (first | exact Gr.refl _ | refine Gr.alloc ?_ _ | refine Gr.trans ?_ (by assumption) | refine Gr.drew ?_ | refine Gr.drewN ?_ _ | refine Gr.grow ?_ _ | refine Gr.setCell ?_ (by (try simp); (try omega)) _))⟩
  · simp only [Bool.and_eq_true] at hall
    obtain ⟨⟨rfl, rfl⟩, rfl⟩ := hall
    obtain ⟨k1, k2⟩ := okW_and h1
    have l1 := okT_len k1
    have l2 := okT_len k2
    obtain ⟨p1, p2⟩ := isC_vx h2 l1 l2
    obtain ⟨r1, r2⟩ := isC_vx h3 l1 l2
    have e1 : wB s a xs ys = decide (0 ≤ dsW s a (vx s xs) (vx s ys)) := by unfold wB; rw [h1, h2, h3]; rfl
    have e2 : wV s a xs ys = if decide (0 ≤ dsW s a (vx s xs) (vx s ys)) = true then dsW s a (vx s xs) (vx s ys) else 0 := by unfold wV; rw [e1]
    rw [e1, e2]
    clear h2 h3 e1 e2
    generalize vx s xs = s0 at *
    generalize vx s ys = t0 at *
    subst p2 r2
    have HD := Lib.hid (fun (X : World) (g : Below w.heap.size w X) => Tryd.owDistance X s a k1 k2 Ba la s0 Bb lb t0 p1 r1 (OwnI.below hla g (Nat.le_refl _)) (OwnI.below hlb g (Nat.le_refl _)))
    have hbd := dsW_bd (s := s) (a := a) p1 r1
    have hN : a.size * s.size ≤ 64 := Nat.mul_le_mul l2.2 l1.2
    clear hla hlb h1 k1 k2 l1 l2
    obtain ⟨d, hd⟩ : ∃ d, dsW s a s0 t0 = d := ⟨_, rfl⟩
    simp only [hd] at HD hbd ⊢
    have hdu : d ≤ 64 := by omega
    have hdl := hbd.1
    clear hd hbd hN p1 r1
    by_cases hz : d < 0
    · have e1 : decide (0 ≤ d) = false := by simpa using hz
      rw [e1]
      go_enter Tryd.func12, Tryd.ntmps12
      go_wp2_with (first | (go_at_call 33; refine (HA.out _ (by repeat (first | exact Gr.refl _ | refine Gr.alloc ?_ _ | refine Gr.trans ?_ (by assumption) | refine Gr.drew ?_ | refine Gr.drewN ?_ _ | refine Gr.grow ?_ _ | refine Gr.setCell ?_ (by (try simp); (try omega)) _))).mono ?_; rintro e w1 ⟨rfl, hbW⟩; have hcW := (bcell hbW.below).1; have hfW := (bcell hbW.below).2; (try have hzW : w.heap.size < w1.heap.size := by have hq := hbW.below.size; (try simp at hq); omega); (try have hyW : w.heap.size + 1 < w1.heap.size := by have hq := hbW.below.size; (try simp at hq); omega); (try have hxW : w.heap.size + 2 < w1.heap.size := by have hq := hbW.below.size; (try simp at hq); omega)) | (go_at_call 34; refine (HD.out _ (Gr.below (show Gr w _ from (by repeat (first | exact Gr.refl _ | refine Gr.alloc ?_ _ | refine Gr.trans ?_ (by assumption) | refine Gr.drew ?_ | refine Gr.drewN ?_ _ | refine Gr.grow ?_ _ | refine Gr.setCell ?_ (by (try simp); (try omega)) _))))).mono ?_; rintro e w2 ⟨rfl, hb2⟩))
      go_ret2
      exact ⟨by simp <;> rfl, Below.trans (show Below w.heap.size w _ from Gr.below (by repeat (first | exact Gr.refl _ | refine Gr.alloc ?_ _ | refine Gr.trans ?_ (by assumption) | refine Gr.drew ?_ | refine Gr.drewN ?_ _ | refine Gr.grow ?_ _ | refine Gr.setCell ?_ (by (try simp); (try omega)) _))) (hb2.mono (Gr.below (show Gr w _ from (by repeat (first | exact Gr.refl _ | refine Gr.alloc ?_ _ | refine Gr.trans ?_ (by assumption) | refine Gr.drew ?_ | refine Gr.drewN ?_ _ | refine Gr.grow ?_ _ | refine Gr.setCell ?_ (by (try simp); (try omega)) _)))).size)⟩
    · have e1 : decide (0 ≤ d) = true := by simpa using hz
      have e2 : decide (d < 0) = false := by simpa using hz
      rw [e1, if_pos rfl]
      go_enter Tryd.func12, Tryd.ntmps12
      go_wp2_with (first | (go_at_call 33; refine (HA.out _ (by repeat (first | exact Gr.refl _ | refine Gr.alloc ?_ _ | refine Gr.trans ?_ (by assumption) | refine Gr.drew ?_ | refine Gr.drewN ?_ _ | refine Gr.grow ?_ _ | refine Gr.setCell ?_ (by (try simp); (try omega)) _))).mono ?_; rintro e w1 ⟨rfl, hbW⟩; have hcW := (bcell hbW.below).1; have hfW := (bcell hbW.below).2; (try have hzW : w.heap.size < w1.heap.size := by have hq := hbW.below.size; (try simp at hq); omega); (try have hyW : w.heap.size + 1 < w1.heap.size := by have hq := hbW.below.size; (try simp at hq); omega); (try have hxW : w.heap.size + 2 < w1.heap.size := by have hq := hbW.below.size; (try simp at hq); omega)) | (go_at_call 34; refine (HD.out _ hbb).mono ?_; rintro e w3 ⟨rfl, hb3⟩; have hcc := Below.trans hbb (hb3.mono hbb.size)) | (go_at_call 34; refine (HD.out _ (Gr.below (show Gr w _ from (by repeat (first | exact Gr.refl _ | refine Gr.alloc ?_ _ | refine Gr.trans ?_ (by assumption) | refine Gr.drew ?_ | refine Gr.drewN ?_ _ | refine Gr.grow ?_ _ | refine Gr.setCell ?_ (by (try simp); (try omega)) _))))).mono ?_; rintro e w2 ⟨rfl, hb2⟩; have hbb := Below.trans (show Below w.heap.size w w1 from Gr.below (by repeat (first | exact Gr.refl _ | refine Gr.alloc ?_ _ | refine Gr.trans ?_ (by assumption) | refine Gr.drew ?_ | refine Gr.drewN ?_ _ | refine Gr.grow ?_ _ | refine Gr.setCell ?_ (by (try simp); (try omega)) _))) (hb2.mono (Below.size (show Below w.heap.size w w1 from Gr.below (by repeat (first | exact Gr.refl _ | refine Gr.alloc ?_ _ | refine Gr.trans ?_ (by assumption) | refine Gr.drew ?_ | refine Gr.drewN ?_ _ | refine Gr.grow ?_ _ | refine Gr.setCell ?_ (by (try simp); (try omega)) _))))); have gB : Gr (w.alloc (.cells #[.string s, .string a] 28)) w1 := (by repeat (first | exact Gr.refl _ | refine Gr.alloc ?_ _ | refine Gr.trans ?_ (by assumption) | refine Gr.drew ?_ | refine Gr.drewN ?_ _ | refine Gr.grow ?_ _ | refine Gr.setCell ?_ (by (try simp); (try omega)) _)); have q0 := cell_k2 hb2 (gB.keep0 (show (w.alloc (.cells #[.string s, .string a] 28)).cell? ⟨w.heap.size, 0, none⟩ = some (.string s) by simp [go_sem])); have q1 := cell_k2 hb2 (gB.keep0 (show (w.alloc (.cells #[.string s, .string a] 28)).cell? ⟨w.heap.size, 1, none⟩ = some (.string a) by simp [go_sem]))))
      go_ret2
      exact ⟨rfl, hcc⟩
set_option maxRecDepth 100000 in
set_option maxHeartbeats 1600000 in
theorem Tryd.cornerOfWays (w : World) (s a : ByteArray) (hs : s.size ≤ maxLen) (ha : a.size ≤ maxLen) (Ba : Nat) (la : Value) (xs : List Int) (b1 b2 : Bool) (h1 : okW s a = b1) (h2 : isC a.size s.size xs = b2) (hla : OwnI w Ba la xs) :
    Calls Tryd.prog 46 #[.agg #[.string s, .string a], la] w fun e w' => e = .returned (.tuple #[coV (b1 && b2) xs, .bool (b1 && b2)]) ∧ Gr w w' := by
  have HA := Lib.hid (fun (X : World) => Tryd.iAreWays X s a hs ha b1 h1)
  have HY := Lib.hid (fun (W : World) => Tryd.city W s a)
  cases b1
  · clear hla h1 h2 hs ha
    simp only [Bool.false_and]
    go_enter Tryd.func46, Tryd.ntmps46
    go_wp2_with (first | (go_at_call 53; refine (HA.out _).mono ?_; rintro e w1 ⟨rfl, hbW⟩; have hcW := (bcell hbW.below).1; have hfW := (bcell hbW.below).2; (try have hzW : w.heap.size < w1.heap.size := by have hq := hbW.below.size; (try simp at hq); omega); (try have hyW : w.heap.size + 1 < w1.heap.size := by have hq := hbW.below.size; (try simp at hq); omega); (try have hxW : w.heap.size + 2 < w1.heap.size := by have hq := hbW.below.size; (try simp at hq); omega)))
    obtain ⟨q0, q1⟩ := resSet (w := w) hbW (.int .i64 0) (.int .i64 0)
    refine bodyPost_ret (v := .tuple #[coV false xs, .bool false]) ?_ rfl ⟨rfl, ?_⟩
    · simp [results, Tryd.results46, go_sem, q0, q1, coV, coX, coY]
    · exact by repeat (first | exact Gr.refl _ | refine Gr.alloc ?_ _ | refine Gr.trans ?_ (by assumption) | refine Gr.drew ?_ | refine Gr.drewN ?_ _ | refine Gr.grow ?_ _ | refine Gr.setCell ?_ (by (try simp); (try omega)) _)
  · have l1 := okT_len (okW_and h1).1
    have l2 := okT_len (okW_and h1).2
    have hok : okB a.size s.size [] = true := by unfold okB; exact decide_eq_true ⟨by omega, by omega, by omega, by omega, by simp, by simp, List.Pairwise.nil⟩
    have HC := Lib.hid (fun (X : World) (g : Gr w X) => Tryd.cornerOf X a.size s.size 0 (.slice none 0 0) [] Ba la xs true b2 hok h2 (by decide) (OwnE.nil _ _ _ _ _) (hla.gr g))
    simp only [Bool.true_and] at HC ⊢
    unfold coV at HC ⊢
    generalize coX b2 xs = x1 at *
    generalize coY b2 xs = y1 at *
    clear hla h1 h2 hs ha l1 l2 hok
    go_enter Tryd.func46, Tryd.ntmps46
    go_wp2_with (first | (go_at_call 53; refine (HA.out _).mono ?_; rintro e w1 ⟨rfl, hbW⟩; have hcW := (bcell hbW.below).1; have hfW := (bcell hbW.below).2; (try have hzW : w.heap.size < w1.heap.size := by have hq := hbW.below.size; (try simp at hq); omega); (try have hyW : w.heap.size + 1 < w1.heap.size := by have hq := hbW.below.size; (try simp at hq); omega); (try have hxW : w.heap.size + 2 < w1.heap.size := by have hq := hbW.below.size; (try simp at hq); omega)) | (go_at_call 48; refine (HY.out _).mono ?_; rintro e w1 ⟨rfl, hbW⟩; have hcW := (bcell hbW.below).1; have hfW := (bcell hbW.below).2; (try have hzW : w.heap.size < w1.heap.size := by have hq := hbW.below.size; (try simp at hq); omega); (try have hyW : w.heap.size + 1 < w1.heap.size := by have hq := hbW.below.size; (try simp at hq); omega); (try have hxW : w.heap.size + 2 < w1.heap.size := by have hq := hbW.below.size; (try simp at hq); omega)) | (go_at_call 62; refine (HC.out _ (by repeat (first | exact Gr.refl _ | refine Gr.alloc ?_ _ | refine Gr.trans ?_ (by assumption) | refine Gr.drew ?_ | refine Gr.drewN ?_ _ | refine Gr.grow ?_ _ | refine Gr.setCell ?_ (by (try simp); (try omega)) _))).mono ?_; rintro e w1 ⟨rfl, hbW⟩; have hcW := (bcell hbW.below).1; have hfW := (bcell hbW.below).2; (try have hzW : w.heap.size < w1.heap.size := by have hq := hbW.below.size; (try simp at hq); omega); (try have hyW : w.heap.size + 1 < w1.heap.size := by have hq := hbW.below.size; (try simp at hq); omega); (try have hxW : w.heap.size + 2 < w1.heap.size := by have hq := hbW.below.size; (try simp at hq); omega)))
    have g2 : Gr ((w.alloc (.cells #[.string s, .string a] 28)).alloc (.cells #[.int .i64 0, .int .i64 0] 55)) w1 := by repeat (first | assumption | exact Gr.refl _ | refine Gr.trans ?_ (by assumption))
    obtain ⟨q0, q1⟩ := resSet g2 (.int .i64 x1) (.int .i64 y1)
    refine bodyPost_ret (v := .tuple #[.agg #[.int .i64 x1, .int .i64 y1], .bool b2]) ?_ rfl ⟨rfl, ?_⟩
    · simp [results, Tryd.results46, go_sem, q0, q1]
    · exact by repeat (first | exact Gr.refl _ | refine Gr.alloc ?_ _ | refine Gr.trans ?_ (by assumption) | refine Gr.drew ?_ | refine Gr.drewN ?_ _ | refine Gr.grow ?_ _ | refine Gr.setCell ?_ (by (try simp); (try omega)) _)
end Go.Proofs
