/-
  Chapter 6: there and back, how many corners are driven to, both functions.
-/
import Derived.Test.YtkgfbdbhllakoaaDoorOwP
import Derived.Test.YtkgfbdbhllakoaaDoorGrCnt
import Derived.Deep.RegionHeld3
namespace Go.Proofs
open Go.RowKit Av Gm Go.Maps
set_option linter.unusedVariables false
set_option linter.unusedSimpArgs false
/-- the first k, those that are found -/
def cnk (l : List Int) (k : Nat) : Nat := ((l.take k).filter (fun d => decide (0 ≤ d))).length
theorem cnk_succ (l : List Int) (k : Nat) (h : k < l.length) : cnk l (k + 1) = if 0 ≤ l.getD k 0 then cnk l k + 1 else cnk l k := by
  unfold cnk
  rw [← List.take_append_getElem h, List.filter_append, List.length_append]
  have e : l.getD k 0 = l[k] := by simp [List.getD, h]
  rw [e]
  by_cases q : 0 ≤ l[k]
  · simp [q]
  · simp [q]
theorem cnk_le (l : List Int) (k : Nat) : cnk l k ≤ k := by
  unfold cnk
  exact Nat.le_trans (List.length_filter_le _ _) (by simp; omega)
def tbB (s a : ByteArray) (xs ys : List Int) : Bool := wB s a xs ys && wB s a ys xs
def tbV (s a : ByteArray) (xs ys : List Int) : Int := if tbB s a xs ys then wV s a xs ys + wV s a ys xs else 0
theorem ksb {w w' : World} {b : Nat} {x y : Value} (g : Below w.heap.size w w') (h : w.cell? ⟨b, 0, none⟩ = some x ∧ w.cell? ⟨b, 1, none⟩ = some y) : w'.cell? ⟨b, 0, none⟩ = some x ∧ w'.cell? ⟨b, 1, none⟩ = some y := ⟨cell_k2 g h.1, cell_k2 g h.2⟩
theorem wV_bd (s a : ByteArray) (xs ys : List Int) : 0 ≤ wV s a xs ys ∧ wV s a xs ys ≤ 64 := by
  unfold wV
  cases h : wB s a xs ys
  · simp
  · rw [if_pos rfl]
    unfold wB at h
    simp only [Bool.and_eq_true, decide_eq_true_eq] at h
    obtain ⟨⟨⟨h1, h2⟩, h3⟩, h4⟩ := h
    obtain ⟨k1, k2⟩ := okW_and h1
    have l1 := okT_len k1
    have l2 := okT_len k2
    have hN : a.size * s.size ≤ 64 := Nat.mul_le_mul l2.2 l1.2
    have := dsW_bd (s := s) (a := a) (isC_vx h2 l1 l2).1 (isC_vx h3 l1 l2).1
    omega
set_option maxRecDepth 100000 in
set_option maxHeartbeats 1600000 in
theorem Tryd.iThereAndBack (w : World) (s a : ByteArray) (hs : s.size ≤ maxLen) (ha : a.size ≤ maxLen) (Ba : Nat) (la : Value) (xs : List Int) (Bb : Nat) (lb : Value) (ys : List Int) (v : Int) (b : Bool) (hv : tbV s a xs ys = v) (hb : tbB s a xs ys = b) (hla : OwnI w Ba la xs) (hlb : OwnI w Bb lb ys) :
    Calls Tryd.prog 24 #[.agg #[.string s, .string a], la, lb] w fun e w' => e = .returned (.tuple #[.int .i64 v, .bool b]) ∧ Below w.heap.size w w' := by
  obtain ⟨b1, h1⟩ : ∃ b1, wB s a xs ys = b1 := ⟨_, rfl⟩
  obtain ⟨b2, h2⟩ : ∃ b1, wB s a ys xs = b1 := ⟨_, rfl⟩
  have HA := Lib.hid (fun (X : World) (g : Below w.heap.size w X) => Tryd.iDriveDistance X s a hs ha Ba la xs Bb lb ys _ b1 rfl h1 (hla.below g (Nat.le_refl _)) (hlb.below g (Nat.le_refl _)))
  have HB := Lib.hid (fun (X : World) (g : Below w.heap.size w X) => Tryd.iDriveDistance X s a hs ha Bb lb ys Ba la xs _ b2 rfl h2 (hlb.below g (Nat.le_refl _)) (hla.below g (Nat.le_refl _)))
  have d1 := wV_bd s a xs ys
  have d2 := wV_bd s a ys xs
  unfold tbB at hb
  have hv' : (if b1 && b2 then wV s a xs ys + wV s a ys xs else 0) = v := by rw [← hv]; unfold tbV tbB; rw [h1, h2]
  rw [h1, h2] at hb
  obtain ⟨Aa, ca, rfl⟩ := hla.form
  obtain ⟨Ab, cb, rfl⟩ := hlb.form
  generalize wV s a xs ys = v1 at *
  generalize wV s a ys xs = v2 at *
  subst hb hv'
  clear hv h1 h2 hla hlb hs ha
  obtain ⟨d1, d1'⟩ := d1
  obtain ⟨d2, d2'⟩ := d2
  have gA : Gr w (w.alloc (.cells #[.string s, .string a] 28)) := Gr.alloc (Gr.refl _) _
  have k0 : (w.alloc (.cells #[.string s, .string a] 28)).cell? ⟨w.heap.size, 0, none⟩ = some (.string s) := by simp [go_sem]
  have k1 : (w.alloc (.cells #[.string s, .string a] 28)).cell? ⟨w.heap.size, 1, none⟩ = some (.string a) := by simp [go_sem]
  have HK := Lib.hid (And.intro gA (And.intro k0 k1))
  clear gA k0 k1
  cases b1 <;> cases b2
  all_goals
    go_enter Tryd.func24, Tryd.ntmps24
    go_wp2_with fail
    refine (HA.out _ HK.out.1.below).mono ?_
    rintro e w1 ⟨rfl, g1⟩
    have e0 := cell_k2 g1 HK.out.2.1
    have e1 := cell_k2 g1 HK.out.2.2
    have B1 := HK.out.1.below.trans (g1.mono HK.out.1.below.size)
    go_wp2_with fail
    refine (HB.out _ B1).mono ?_
    rintro e w2 ⟨rfl, g2⟩
    have B2 := B1.trans (g2.mono B1.size)
    go_wp2
    go_ret2
    exact ⟨by simp <;> rfl, B2⟩
set_option maxRecDepth 100000 in
set_option maxHeartbeats 1600000 in
theorem Tryd.sThereAndBack (w : World) (s a : ByteArray) (hs : s.size ≤ maxLen) (ha : a.size ≤ maxLen) (Ba : Nat) (la : Value) (xs : List Int) (Bb : Nat) (lb : Value) (ys : List Int) (v : Int) (b : Bool) (hv : tbV s a xs ys = v) (hb : tbB s a xs ys = b) (hla : OwnI w Ba la xs) (hlb : OwnI w Bb lb ys) :
    Calls Tryd.prog 23 #[.agg #[.string s, .string a], la, lb] w fun e w' => e = .returned (.tuple #[.int .i64 v, .bool b]) ∧ Below w.heap.size w w' := by
  subst hv hb
  obtain ⟨b1, h1⟩ : ∃ b1, okW s a = b1 := ⟨_, rfl⟩
  obtain ⟨b2, h2⟩ : ∃ b1, isC a.size s.size xs = b1 := ⟨_, rfl⟩
  obtain ⟨b3, h3⟩ : ∃ b1, isC a.size s.size ys = b1 := ⟨_, rfl⟩
  have HA := Lib.hid (fun (X : World) (g : Gr w X) => Tryd.owAsked X s a hs ha Ba la xs Bb lb ys b1 b2 b3 h1 h2 h3 (hla.gr g) (hlb.gr g))
  have gA : Gr w (w.alloc (.cells #[.string s, .string a] 28)) := Gr.alloc (Gr.refl _) _
  have k0 : (w.alloc (.cells #[.string s, .string a] 28)).cell? ⟨w.heap.size, 0, none⟩ = some (.string s) := by simp [go_sem]
  have k1 : (w.alloc (.cells #[.string s, .string a] 28)).cell? ⟨w.heap.size, 1, none⟩ = some (.string a) := by simp [go_sem]
  have HK := Lib.hid (And.intro gA (And.intro k0 k1))
  clear gA k0 k1
  cases hall : (b1 && b2 && b3)
  · have e1 : tbB s a xs ys = false := by unfold tbB wB; rw [h1, h2, h3, hall]; rfl
    have e2 : tbV s a xs ys = 0 := by unfold tbV; rw [e1]; rfl
    rw [e1, e2]
    rw [hall] at HA
    obtain ⟨Aa, ca, rfl⟩ := hla.form
    obtain ⟨Ab, cb, rfl⟩ := hlb.form
    clear hla hlb h1 h2 h3 hall e1 e2 hs ha
    go_enter Tryd.func23, Tryd.ntmps23
    go_wp2_with (first | (go_at_call 33; refine (HA.out _ (by repeat (first | exact Gr.refl _ | refine Gr.alloc ?_ _ | refine Gr.trans ?_ (by assumption) | refine Gr.drew ?_ | refine Gr.drewN ?_ _ | refine Gr.grow ?_ _ | refine Gr.setCell ?_ (by (try simp); (try omega)) _))).mono ?_; rintro e w1 ⟨rfl, hbW⟩; have hcW := (bcell hbW.below).1; have hfW := (bcell hbW.below).2; (try have hzW : w.heap.size < w1.heap.size := by have hq := hbW.below.size; (try simp at hq); omega); (try have hyW : w.heap.size + 1 < w1.heap.size := by have hq := hbW.below.size; (try simp at hq); omega); (try have hxW : w.heap.size + 2 < w1.heap.size := by have hq := hbW.below.size; (try simp at hq); omega)))
    go_ret2
    exact ⟨by simp <;> rfl, Gr.below (by repeat (first | exact Gr.refl _ | refine Gr.alloc ?_ _ | refine Gr.trans ?_ (by assumption) | refine Gr.drew ?_ | refine Gr.drewN ?_ _ | refine Gr.grow ?_ _ | refine Gr.setCell ?_ (by (try simp); (try omega)) _))⟩
  · simp only [Bool.and_eq_true] at hall
    obtain ⟨⟨rfl, rfl⟩, rfl⟩ := hall
    obtain ⟨k1, k2⟩ := okW_and h1
    have l1 := okT_len k1
    have l2 := okT_len k2
    obtain ⟨p1, p2⟩ := isC_vx h2 l1 l2
    obtain ⟨r1, r2⟩ := isC_vx h3 l1 l2
    have e1 : tbB s a xs ys = (decide (0 ≤ dsW s a (vx s xs) (vx s ys)) && decide (0 ≤ dsW s a (vx s ys) (vx s xs))) := by unfold tbB wB; rw [h1, h2, h3]; rfl
    have e2 : tbV s a xs ys = if (decide (0 ≤ dsW s a (vx s xs) (vx s ys)) && decide (0 ≤ dsW s a (vx s ys) (vx s xs))) then dsW s a (vx s xs) (vx s ys) + dsW s a (vx s ys) (vx s xs) else 0 := by
      unfold tbV wV
      rw [e1]
      unfold wB
      rw [h1, h2, h3]
      by_cases q1 : 0 ≤ dsW s a (vx s xs) (vx s ys) <;> by_cases q2 : 0 ≤ dsW s a (vx s ys) (vx s xs) <;> simp [q1, q2]
    rw [e1, e2]
    clear e1 e2 h2 h3
    generalize vx s xs = s0 at *
    generalize vx s ys = t0 at *
    subst p2 r2
    have HD := Lib.hid (fun (X : World) (g : Below w.heap.size w X) => Tryd.owDistance X s a k1 k2 Ba la s0 Bb lb t0 p1 r1 (hla.below g (Nat.le_refl _)) (hlb.below g (Nat.le_refl _)))
    have HE := Lib.hid (fun (X : World) (g : Below w.heap.size w X) => Tryd.owDistance X s a k1 k2 Bb lb t0 Ba la s0 r1 p1 (hlb.below g (Nat.le_refl _)) (hla.below g (Nat.le_refl _)))
    have hN : a.size * s.size ≤ 64 := Nat.mul_le_mul l2.2 l1.2
    obtain ⟨d1, d1'⟩ := dsW_bd (s := s) (a := a) p1 r1
    obtain ⟨d2, d2'⟩ := dsW_bd (s := s) (a := a) r1 p1
    generalize dsW s a s0 t0 = v1 at *
    generalize dsW s a t0 s0 = v2 at *
    have f1 : v1 ≤ 64 := by omega
    have f2 : v2 ≤ 64 := by omega
    obtain ⟨Aa, ca, rfl⟩ := hla.form
    obtain ⟨Ab, cb, rfl⟩ := hlb.form
    clear hla hlb h1 k1 k2 l1 l2 hN d1' d2' p1 r1 hs ha
    simp only [Bool.and_self] at HA
    by_cases z1 : v1 < 0
    · have y1 : decide (0 ≤ v1) = false := by simpa using z1
      rw [y1]
      simp only [Bool.false_and, Bool.false_eq_true, if_false]
      go_enter Tryd.func23, Tryd.ntmps23
      go_wp2_with fail
      refine (HA.out _ (by repeat (first | exact Gr.refl _ | refine Gr.alloc ?_ _ | refine Gr.trans ?_ (by assumption) | refine Gr.drew ?_ | refine Gr.drewN ?_ _ | refine Gr.grow ?_ _ | refine Gr.setCell ?_ (by (try simp); (try omega)) _))).mono ?_
      rintro e w1 ⟨rfl, g1⟩
      have e0 := g1.keep0 HK.out.2.1
      have e1 := g1.keep0 HK.out.2.2
      have B1 := (HK.out.1.trans g1).below
      go_wp2_with fail
      refine (HD.out _ B1).mono ?_
      rintro e w2 ⟨rfl, g2⟩
      have B2 := B1.trans (g2.mono B1.size)
      go_wp2
      go_ret2
      exact ⟨by simp <;> rfl, B2⟩
    · have y1 : decide (0 ≤ v1) = true := by simpa using z1
      have x1 : decide (v1 < 0) = false := by simpa using z1
      by_cases z2 : v2 < 0
      · have y2 : decide (0 ≤ v2) = false := by simpa using z2
        rw [y1, y2]
        simp only [Bool.and_false, Bool.false_eq_true, if_false]
        go_enter Tryd.func23, Tryd.ntmps23
        go_wp2_with fail
        refine (HA.out _ (by repeat (first | exact Gr.refl _ | refine Gr.alloc ?_ _ | refine Gr.trans ?_ (by assumption) | refine Gr.drew ?_ | refine Gr.drewN ?_ _ | refine Gr.grow ?_ _ | refine Gr.setCell ?_ (by (try simp); (try omega)) _))).mono ?_
        rintro e w1 ⟨rfl, g1⟩
        have e0 := g1.keep0 HK.out.2.1
        have e1 := g1.keep0 HK.out.2.2
        have B1 := (HK.out.1.trans g1).below
        go_wp2_with fail
        refine (HD.out _ B1).mono ?_
        rintro e w2 ⟨rfl, g2⟩
        have B2 := B1.trans (g2.mono B1.size)
        have e2 := cell_k2 g2 e0
        have e3 := cell_k2 g2 e1
        clear e0 e1
        go_wp2_with fail
        refine (HE.out _ B2).mono ?_
        rintro e w3 ⟨rfl, g3⟩
        have B3 := B2.trans (g3.mono B2.size)
        go_wp2
        go_ret2
        exact ⟨by simp <;> rfl, B3⟩
      · have y2 : decide (0 ≤ v2) = true := by simpa using z2
        have x2 : decide (v2 < 0) = false := by simpa using z2
        rw [y1, y2]
        simp only [Bool.and_self, if_true]
        go_enter Tryd.func23, Tryd.ntmps23
        go_wp2_with fail
        refine (HA.out _ (by repeat (first | exact Gr.refl _ | refine Gr.alloc ?_ _ | refine Gr.trans ?_ (by assumption) | refine Gr.drew ?_ | refine Gr.drewN ?_ _ | refine Gr.grow ?_ _ | refine Gr.setCell ?_ (by (try simp); (try omega)) _))).mono ?_
        rintro e w1 ⟨rfl, g1⟩
        have e0 := g1.keep0 HK.out.2.1
        have e1 := g1.keep0 HK.out.2.2
        have B1 := (HK.out.1.trans g1).below
        go_wp2_with fail
        refine (HD.out _ B1).mono ?_
        rintro e w2 ⟨rfl, g2⟩
        have B2 := B1.trans (g2.mono B1.size)
        have e2 := cell_k2 g2 e0
        have e3 := cell_k2 g2 e1
        clear e0 e1
        go_wp2_with fail
        refine (HE.out _ B2).mono ?_
        rintro e w3 ⟨rfl, g3⟩
        have B3 := B2.trans (g3.mono B2.size)
        have e4 := cell_k2 g3 e2
        have e5 := cell_k2 g3 e3
        clear e2 e3
        go_wp2_with fail
        have HS0 := And.intro e4 e5
        have HB3 := Lib.hid B3
        clear B1 B2 B3 e4 e5
        go_region_held3 (fun W' => W'.cell? ⟨w.heap.size, 0, none⟩ = some (.string s) ∧ W'.cell? ⟨w.heap.size, 1, none⟩ = some (.string a))
          (first | assumption | (refine ksb (Below.drew (Below.refl _ _)) ?_; assumption; done))
          (first | (have hm := mk1; go_at_call 34; refine (HE.out _ (HB4.out.trans (Below.mono (Gr.below (show Gr w4 _ from (by repeat (first | exact Gr.refl _ | refine Gr.alloc ?_ _ | refine Gr.trans ?_ (by assumption) | refine Gr.drew ?_ | refine Gr.drewN ?_ _ | refine Gr.grow ?_ _ | refine Gr.setCell ?_ (by (try simp); (try omega)) _)))) HB4.out.size))).mono ?_; rintro e w5 ⟨rfl, g5⟩; have HS2 := ksb g5 (by assumption); have HB5 := Lib.hid ((HB4.out.trans (Below.mono (Gr.below (show Gr w4 _ from (by repeat (first | exact Gr.refl _ | refine Gr.alloc ?_ _ | refine Gr.trans ?_ (by assumption) | refine Gr.drew ?_ | refine Gr.drewN ?_ _ | refine Gr.grow ?_ _ | refine Gr.setCell ?_ (by (try simp); (try omega)) _)))) HB4.out.size)).trans (g5.mono (Nat.le_trans HB4.out.size (Gr.below (show Gr w4 _ from (by repeat (first | exact Gr.refl _ | refine Gr.alloc ?_ _ | refine Gr.trans ?_ (by assumption) | refine Gr.drew ?_ | refine Gr.drewN ?_ _ | refine Gr.grow ?_ _ | refine Gr.setCell ?_ (by (try simp); (try omega)) _)))).size)))) | (go_at_call 34; refine (HD.out _ (HB3.out.trans (Below.mono (Gr.below (show Gr w3 _ from (by repeat (first | exact Gr.refl _ | refine Gr.alloc ?_ _ | refine Gr.trans ?_ (by assumption) | refine Gr.drew ?_ | refine Gr.drewN ?_ _ | refine Gr.grow ?_ _ | refine Gr.setCell ?_ (by (try simp); (try omega)) _)))) HB3.out.size))).mono ?_; rintro e w4 ⟨rfl, g4⟩; have HS1 := ksb g4 (by assumption); have HB4 := Lib.hid ((HB3.out.trans (Below.mono (Gr.below (show Gr w3 _ from (by repeat (first | exact Gr.refl _ | refine Gr.alloc ?_ _ | refine Gr.trans ?_ (by assumption) | refine Gr.drew ?_ | refine Gr.drewN ?_ _ | refine Gr.grow ?_ _ | refine Gr.setCell ?_ (by (try simp); (try omega)) _)))) HB3.out.size)).trans (g4.mono (Nat.le_trans HB3.out.size (Gr.below (show Gr w3 _ from (by repeat (first | exact Gr.refl _ | refine Gr.alloc ?_ _ | refine Gr.trans ?_ (by assumption) | refine Gr.drew ?_ | refine Gr.drewN ?_ _ | refine Gr.grow ?_ _ | refine Gr.setCell ?_ (by (try simp); (try omega)) _)))).size))); have mk1 := trivial))
        go_wp2
        go_ret2
        exact ⟨by simp; exact IntWalk.i64_in _ (by omega), HB5.out⟩
def drB (s a : ByteArray) (xs : List Int) : Bool := okW s a && isC a.size s.size xs
def drN (s a : ByteArray) (xs : List Int) : Nat := (fin (nbW s a) (a.size * s.size) (vx s xs)).q.length
def drV (s a : ByteArray) (xs : List Int) : Int := if drB s a xs then drN s a xs else 0
/-- as many are found -/
theorem q_same {s a : ByteArray} {s0 : Nat} (hs : s0 < a.size * s.size) : (fin (nbL (lsW s a 1)) (a.size * s.size) s0).q.length = (fin (nbW s a) (a.size * s.size) s0).q.length := by
  have h1 := (fin_bf (nbL_valid (lsW_valid (s := s) (a := a) 1)) hs).inv
  have h2 := (fin_bf (@nbW_valid s a) hs).inv
  rw [← cnt_q h1, ← cnt_q h2, far_map h1.fl, far_map h2.fl]
  congr 2
  apply List.map_congr_left
  intro v hv
  exact far_same hs v (List.mem_range.1 hv)
set_option maxRecDepth 100000 in
set_option maxHeartbeats 1600000 in
theorem Tryd.owReached (w : World) (s a : ByteArray) (h1 : okT 101 119 s = true) (h2 : okT 110 115 a = true) (s0 : Nat) (Ba : Nat) (la : Value) (hs : s0 < a.size * s.size) (hla : OwnI w Ba la [(crn s.size s0).1, (crn s.size s0).2]) :
    Calls Tryd.prog 45 #[.agg #[.string s, .string a], la] w fun e w' => e = .returned (.int .i64 ((fin (nbW s a) (a.size * s.size) s0).q.length : Nat)) ∧ Below w.heap.size w w' := by
  have HF := Lib.hid (fun (X : World) (g : Below w.heap.size w X) => Tryd.owFar X s a h1 h2 s0 Ba la hs (OwnI.below hla g (Nat.le_refl _)))
  have hI := (fin_bf (@nbW_valid s a) hs).inv
  have l1 := okT_len h1
  have l2 := okT_len h2
  have hcn := cnt_q hI
  have hfl := hI.fl
  have hN : a.size * s.size ≤ 64 := Nat.mul_le_mul l2.2 l1.2
  rw [← hcn]
  have hQ : ∀ l : List Int, (l.filter (fun d => decide (0 ≤ d))).length = cnk l l.length := fun l => by unfold cnk; rw [List.take_length]
  rw [hQ]
  generalize (fin (nbW s a) (a.size * s.size) s0).far = fr at *
  have HV := Lib.hid (show ∀ (w3 : World) (B3 : Nat) (v : Value), OwnI w3 B3 v fr → ∃ g c, v = .slice (some ⟨g, 0, none⟩) (a.size * s.size) c ∧ ∀ k, k < a.size * s.size → w3.cell? ⟨g, k, none⟩ = some (.int .i64 (fr.getD k 0)) from fun w3 B3 v ho => by
    rcases ho.view with ⟨hx, _⟩ | ⟨_, g, c, rfl, _, _, _, hc, _⟩
    · rw [hx] at hfl; simp at hfl; omega
    · exact ⟨g, c, by rw [hfl], fun k hk => hc k (by omega)⟩)
  generalize a.size * s.size = N at *
  obtain ⟨Aa, ca, rfl⟩ := hla.form
  clear hla h1 h2 hI hcn hQ hs l1 l2
  go_enter Tryd.func45, Tryd.ntmps45
  go_wp2_with (first | (go_at_call 36; refine (HF.out _ (Gr.below (show Gr w _ from (by repeat (first | exact Gr.refl _ | refine Gr.alloc ?_ _ | refine Gr.trans ?_ (by assumption) | refine Gr.drew ?_ | refine Gr.drewN ?_ _ | refine Gr.grow ?_ _ | refine Gr.setCell ?_ (by (try simp); (try omega)) _))))).mono ?_; rintro e w3 ⟨v3, rfl, hown3, hb3⟩; obtain ⟨g3, c3, rfl, hr3⟩ := HV.out _ _ _ hown3))
  have HB3 := Lib.hid (Below.trans (show Below w.heap.size w _ from Gr.below (by repeat (first | exact Gr.refl _ | refine Gr.alloc ?_ _ | refine Gr.trans ?_ (by assumption) | refine Gr.drew ?_ | refine Gr.drewN ?_ _ | refine Gr.grow ?_ _ | refine Gr.setCell ?_ (by (try simp); (try omega)) _))) (hb3.mono (show Gr w _ from (by repeat (first | exact Gr.refl _ | refine Gr.alloc ?_ _ | refine Gr.trans ?_ (by assumption) | refine Gr.drew ?_ | refine Gr.drewN ?_ _ | refine Gr.grow ?_ _ | refine Gr.setCell ?_ (by (try simp); (try omega)) _))).below.size))
  have HR3 := Lib.hid hr3
  clear hr3 hown3 hb3
  rename World => wo
  go_loopw [5, 12] (fun nv iv wr => wr = wo ∧ ∃ k : Nat, iv = .int .i64 k ∧ k ≤ N ∧ nv = .int .i64 (cnk fr k)) (fun _ i _ => N - (intOf i).toNat)
  case atStart => exact ⟨rfl, 0, rfl, Nat.zero_le _, by simp [cnk]⟩
  case round =>
    obtain ⟨rfl, k, rfl, hk, rfl⟩ := hrel
    by_cases hlt : k < N
    · have e1 := HR3.out k hlt
      have z0 : (0 : Int) ≤ (k : Int) := by omega
      have z1 : (k : Int) < (N : Int) := by omega
      have hc := cnk_succ fr k (by omega)
      have hle := cnk_le fr k
      generalize fr.getD k 0 = d at *
      by_cases hd : 0 ≤ d
      · rw [if_pos hd] at hc
        go_wp2
        go_roundw
        case rel => exact ⟨trivial, k + 1, by go_num, by omega, by rw [hc]; go_num⟩
        case measure => simp [intOf]; omega
      · rw [if_neg hd] at hc
        go_wp2
        go_roundw
        case rel => exact ⟨trivial, k + 1, by go_num, by omega, by rw [hc]⟩
        case measure => simp [intOf]; omega
    · obtain rfl : k = N := by omega
      go_wp2
      go_ret
      exact ⟨by rw [hfl]; rfl, HB3.out⟩
set_option maxRecDepth 100000 in
set_option maxHeartbeats 1600000 in
theorem Tryd.sDrivenFrom (w : World) (s a : ByteArray) (hs : s.size ≤ maxLen) (ha : a.size ≤ maxLen) (Ba : Nat) (la : Value) (xs : List Int) (v : Int) (b : Bool) (hv : drV s a xs = v) (hb : drB s a xs = b) (hla : OwnI w Ba la xs) :
    Calls Tryd.prog 25 #[.agg #[.string s, .string a], la] w fun e w' => e = .returned (.tuple #[.int .i64 v, .bool b]) ∧ Below w.heap.size w w' := by
  obtain ⟨b1, h1⟩ : ∃ b1, okW s a = b1 := ⟨_, rfl⟩
  obtain ⟨b2, h2⟩ : ∃ b1, isC a.size s.size xs = b1 := ⟨_, rfl⟩
  have HA := Lib.hid (fun (X : World) => Tryd.owGood X s a hs ha b1 h1)
  have HC := Lib.hid (fun (X : World) (g : Gr w X) hH hW => Tryd.owCorner X s a hH hW Ba la xs b2 h2 (hla.gr g))
  subst hv hb
  have hcb : drB s a xs = (b1 && b2) := by unfold drB; rw [h1, h2]
  have e2 : drV s a xs = if (b1 && b2) then (drN s a xs : Int) else 0 := by unfold drV; rw [hcb]
  rw [hcb, e2]
  clear hcb e2
  cases b1
  · obtain ⟨Aa, ca, rfl⟩ := hla.form
    clear hla h1 h2 hs ha
    go_enter Tryd.func25, Tryd.ntmps25
    go_wp2_with (first | (go_at_call 43; refine (HA.out _).mono ?_; rintro e w1 ⟨rfl, hbW⟩; have hcW := (bcell hbW.below).1; have hfW := (bcell hbW.below).2; (try have hzW : w.heap.size < w1.heap.size := by have hq := hbW.below.size; (try simp at hq); omega); (try have hyW : w.heap.size + 1 < w1.heap.size := by have hq := hbW.below.size; (try simp at hq); omega); (try have hxW : w.heap.size + 2 < w1.heap.size := by have hq := hbW.below.size; (try simp at hq); omega)))
    go_ret2
    exact ⟨rfl, Gr.below (by repeat (first | exact Gr.refl _ | refine Gr.alloc ?_ _ | refine Gr.trans ?_ (by assumption) | refine Gr.drew ?_ | refine Gr.drewN ?_ _ | refine Gr.grow ?_ _ | refine Gr.setCell ?_ (by (try simp); (try omega)) _))⟩
  · obtain ⟨k1, k2⟩ := okW_and h1
    have l1 := okT_len k1
    have l2 := okT_len k2
    cases b2
    · obtain ⟨Aa, ca, rfl⟩ := hla.form
      clear hla h1 h2 hs ha k1 k2
      go_enter Tryd.func25, Tryd.ntmps25
      go_wp2_with (first | (go_at_call 43; refine (HA.out _).mono ?_; rintro e w1 ⟨rfl, hbW⟩; have hcW := (bcell hbW.below).1; have hfW := (bcell hbW.below).2; (try have hzW : w.heap.size < w1.heap.size := by have hq := hbW.below.size; (try simp at hq); omega); (try have hyW : w.heap.size + 1 < w1.heap.size := by have hq := hbW.below.size; (try simp at hq); omega); (try have hxW : w.heap.size + 2 < w1.heap.size := by have hq := hbW.below.size; (try simp at hq); omega)) | (go_at_call 44; refine (HC.out _ (by repeat (first | exact Gr.refl _ | refine Gr.alloc ?_ _ | refine Gr.trans ?_ (by assumption) | refine Gr.drew ?_ | refine Gr.drewN ?_ _ | refine Gr.grow ?_ _ | refine Gr.setCell ?_ (by (try simp); (try omega)) _)) l1 l2).mono ?_; rintro e w1 ⟨rfl, hbW⟩; have hcW := (bcell hbW.below).1; have hfW := (bcell hbW.below).2; (try have hzW : w.heap.size < w1.heap.size := by have hq := hbW.below.size; (try simp at hq); omega); (try have hyW : w.heap.size + 1 < w1.heap.size := by have hq := hbW.below.size; (try simp at hq); omega); (try have hxW : w.heap.size + 2 < w1.heap.size := by have hq := hbW.below.size; (try simp at hq); omega)))
      go_ret2
      exact ⟨rfl, Gr.below (by repeat (first | exact Gr.refl _ | refine Gr.alloc ?_ _ | refine Gr.trans ?_ (by assumption) | refine Gr.drew ?_ | refine Gr.drewN ?_ _ | refine Gr.grow ?_ _ | refine Gr.setCell ?_ (by (try simp); (try omega)) _))⟩
    · obtain ⟨p1, p2⟩ := isC_vx h2 l1 l2
      unfold drN
      generalize vx s xs = s0 at *
      subst p2
      have HR := Lib.hid (fun (X : World) (g : Gr w X) => Tryd.owReached X s a k1 k2 s0 Ba la p1 (hla.gr g))
      generalize (fin (nbW s a) (a.size * s.size) s0).q.length = N at *
      obtain ⟨Aa, ca, rfl⟩ := hla.form
      clear hla h1 h2 hs ha k1 k2 p1
      go_enter Tryd.func25, Tryd.ntmps25
      go_wp2_with (first | (go_at_call 43; refine (HA.out _).mono ?_; rintro e w1 ⟨rfl, hbW⟩; have hcW := (bcell hbW.below).1; have hfW := (bcell hbW.below).2; (try have hzW : w.heap.size < w1.heap.size := by have hq := hbW.below.size; (try simp at hq); omega); (try have hyW : w.heap.size + 1 < w1.heap.size := by have hq := hbW.below.size; (try simp at hq); omega); (try have hxW : w.heap.size + 2 < w1.heap.size := by have hq := hbW.below.size; (try simp at hq); omega)) | (go_at_call 44; refine (HC.out _ (by repeat (first | exact Gr.refl _ | refine Gr.alloc ?_ _ | refine Gr.trans ?_ (by assumption) | refine Gr.drew ?_ | refine Gr.drewN ?_ _ | refine Gr.grow ?_ _ | refine Gr.setCell ?_ (by (try simp); (try omega)) _)) l1 l2).mono ?_; rintro e w1 ⟨rfl, hbW⟩; have hcW := (bcell hbW.below).1; have hfW := (bcell hbW.below).2; (try have hzW : w.heap.size < w1.heap.size := by have hq := hbW.below.size; (try simp at hq); omega); (try have hyW : w.heap.size + 1 < w1.heap.size := by have hq := hbW.below.size; (try simp at hq); omega); (try have hxW : w.heap.size + 2 < w1.heap.size := by have hq := hbW.below.size; (try simp at hq); omega)) | (go_at_call 45; refine (HR.out _ (by repeat (first | exact Gr.refl _ | refine Gr.alloc ?_ _ | refine Gr.trans ?_ (by assumption) | refine Gr.drew ?_ | refine Gr.drewN ?_ _ | refine Gr.grow ?_ _ | refine Gr.setCell ?_ (by (try simp); (try omega)) _))).mono ?_; rintro e w5 ⟨rfl, hb5⟩))
      go_ret2
      exact ⟨rfl, Below.trans (show Below w.heap.size w _ from Gr.below (by repeat (first | exact Gr.refl _ | refine Gr.alloc ?_ _ | refine Gr.trans ?_ (by assumption) | refine Gr.drew ?_ | refine Gr.drewN ?_ _ | refine Gr.grow ?_ _ | refine Gr.setCell ?_ (by (try simp); (try omega)) _))) (hb5.mono (Gr.below (show Gr w _ from (by repeat (first | exact Gr.refl _ | refine Gr.alloc ?_ _ | refine Gr.trans ?_ (by assumption) | refine Gr.drew ?_ | refine Gr.drewN ?_ _ | refine Gr.grow ?_ _ | refine Gr.setCell ?_ (by (try simp); (try omega)) _)))).size)⟩
set_option maxRecDepth 100000 in
set_option maxHeartbeats 1600000 in
theorem Tryd.iDrivenFrom (w : World) (s a : ByteArray) (hs : s.size ≤ maxLen) (ha : a.size ≤ maxLen) (Ba : Nat) (la : Value) (xs : List Int) (v : Int) (b : Bool) (hv : drV s a xs = v) (hb : drB s a xs = b) (hla : OwnI w Ba la xs) :
    Calls Tryd.prog 26 #[.agg #[.string s, .string a], la] w fun e w' => e = .returned (.tuple #[.int .i64 v, .bool b]) ∧ Below w.heap.size w w' := by
  obtain ⟨b1, h1⟩ : ∃ b1, okW s a = b1 := ⟨_, rfl⟩
  obtain ⟨b2, h2⟩ : ∃ b1, isC a.size s.size xs = b1 := ⟨_, rfl⟩
  have HA := Lib.hid (fun (X : World) (g : Gr w X) => Tryd.cornerOfWays X s a hs ha Ba la xs b1 b2 h1 h2 (hla.gr g))
  subst hv hb
  have hcb : drB s a xs = (b1 && b2) := by unfold drB; rw [h1, h2]
  have e2 : drV s a xs = if (b1 && b2) then (drN s a xs : Int) else 0 := by unfold drV; rw [hcb]
  rw [hcb, e2]
  clear hcb e2
  cases hall : (b1 && b2)
  · rw [hall] at HA
    unfold coV at HA
    generalize coX false xs = x1 at *
    generalize coY false xs = y1 at *
    obtain ⟨Aa, ca, rfl⟩ := hla.form
    clear hla h1 h2 hall hs ha
    go_enter Tryd.func26, Tryd.ntmps26
    go_wp2_with (first | (go_at_call 46; refine (HA.out _ (by repeat (first | exact Gr.refl _ | refine Gr.alloc ?_ _ | refine Gr.trans ?_ (by assumption) | refine Gr.drew ?_ | refine Gr.drewN ?_ _ | refine Gr.grow ?_ _ | refine Gr.setCell ?_ (by (try simp); (try omega)) _))).mono ?_; rintro e w1 ⟨rfl, hbW⟩; have hcW := (bcell hbW.below).1; have hfW := (bcell hbW.below).2; (try have hzW : w.heap.size < w1.heap.size := by have hq := hbW.below.size; (try simp at hq); omega); (try have hyW : w.heap.size + 1 < w1.heap.size := by have hq := hbW.below.size; (try simp at hq); omega); (try have hxW : w.heap.size + 2 < w1.heap.size := by have hq := hbW.below.size; (try simp at hq); omega)))
    go_ret2
    exact ⟨rfl, Gr.below (by repeat (first | exact Gr.refl _ | refine Gr.alloc ?_ _ | refine Gr.trans ?_ (by assumption) | refine Gr.drew ?_ | refine Gr.drewN ?_ _ | refine Gr.grow ?_ _ | refine Gr.setCell ?_ (by (try simp); (try omega)) _))⟩
  · simp only [Bool.and_eq_true] at hall
    obtain ⟨rfl, rfl⟩ := hall
    obtain ⟨k1, k2⟩ := okW_and h1
    have l1 := okT_len k1
    have l2 := okT_len k2
    obtain ⟨p1, p2⟩ := isC_vx h2 l1 l2
    unfold coV coX coY at HA
    simp only [Bool.and_self, if_true] at HA
    unfold drN
    generalize vx s xs = s0 at *
    subst p2
    simp only [List.getD_cons_zero, List.getD_cons_succ] at HA
    have HR := Lib.hid (fun (X : World) => Tryd.drivenFrom X s a k1 k2 s0 p1)
    rw [← q_same p1]
    generalize fin (nbL (lsW s a 1)) (a.size * s.size) s0 = st at *
    obtain ⟨Aa, ca, rfl⟩ := hla.form
    clear hla h1 h2 p1 k1 k2 l1 l2 hs ha
    obtain ⟨x1, hx1⟩ : ∃ x, (crn s.size s0).1 = x := ⟨_, rfl⟩
    obtain ⟨y1, hy1⟩ : ∃ x, (crn s.size s0).2 = x := ⟨_, rfl⟩
    simp only [hx1, hy1] at HA HR
    go_enter Tryd.func26, Tryd.ntmps26
    go_wp2_with (first | (go_at_call 46; refine (HA.out _ (by repeat (first | exact Gr.refl _ | refine Gr.alloc ?_ _ | refine Gr.trans ?_ (by assumption) | refine Gr.drew ?_ | refine Gr.drewN ?_ _ | refine Gr.grow ?_ _ | refine Gr.setCell ?_ (by (try simp); (try omega)) _))).mono ?_; rintro e w1 ⟨rfl, hbW⟩; have hcW := (bcell hbW.below).1; have hfW := (bcell hbW.below).2; (try have hzW : w.heap.size < w1.heap.size := by have hq := hbW.below.size; (try simp at hq); omega); (try have hyW : w.heap.size + 1 < w1.heap.size := by have hq := hbW.below.size; (try simp at hq); omega); (try have hxW : w.heap.size + 2 < w1.heap.size := by have hq := hbW.below.size; (try simp at hq); omega)) | (go_at_call 40; refine (HR.out _).mono ?_; rintro e w3 ⟨b3, n3, D3, rfl, hown3, hM3, hb3⟩; have hlen := hown3.len Tryd.underlying58 3; rw [hM3.size] at hlen))
    go_ret2
    refine ⟨rfl, Below.trans (show Gr w _ from ?_).below (hb3.mono (show Gr w _ from ?_).below.size)⟩
    all_goals exact by repeat (first | exact Gr.refl _ | refine Gr.alloc ?_ _ | refine Gr.trans ?_ (by assumption) | refine Gr.drew ?_ | refine Gr.drewN ?_ _ | refine Gr.grow ?_ _ | refine Gr.setCell ?_ (by (try simp); (try omega)) _)
end Go.Proofs
