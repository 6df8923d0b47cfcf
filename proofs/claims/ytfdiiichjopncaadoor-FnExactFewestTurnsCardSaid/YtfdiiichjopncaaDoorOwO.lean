/-
  Chapter 6: the program's corners of ways, what is driven between two corners, DriveDistance and CountDrives; the model's DriveDistance.
-/
import Derived.Test.YtfdiiichjopncaaDoorOwN
import Derived.Test.YtfdiiichjopncaaDoorOwM
import Derived.Deep.RegionHeld3
namespace Go.Proofs
open Go.RowKit Av Gm Go.Maps
set_option linter.unusedVariables false
set_option linter.unusedSimpArgs false
def wB (s a : ByteArray) (xs ys : List Int) : Bool := okW s a && isC a.size s.size xs && isC a.size s.size ys && decide (0 ≤ dsW s a (vx s xs) (vx s ys))
def wV (s a : ByteArray) (xs ys : List Int) : Int := if wB s a xs ys then dsW s a (vx s xs) (vx s ys) else 0
/-- how many ways the program's search counts -/
def wcI (s a : ByteArray) (s0 t0 : Nat) : Int := g (fin (nbL (lsW s a 1)) (a.size * s.size) s0) t0
def wcV (s a : ByteArray) (xs ys : List Int) : Int := if wB s a xs ys then wcI s a (vx s xs) (vx s ys) else 0
set_option maxRecDepth 100000 in
set_option maxHeartbeats 1600000 in
theorem Tryd.cornerOfWays (w : World) (s a : ByteArray) (hs : s.size ≤ maxLen) (ha : a.size ≤ maxLen) (Ba : Nat) (la : Value) (xs : List Int) (b1 b2 : Bool) (h1 : okW s a = b1) (h2 : isC a.size s.size xs = b2) (hla : OwnI w Ba la xs) :
    Calls Tryd.prog 18 #[.agg #[.string s, .string a], la] w fun e w' => e = .returned (.tuple #[coV (b1 && b2) xs, .bool (b1 && b2)]) ∧ Gr w w' := by
  have HA := Lib.hid (fun (X : World) => Tryd.iAreWays X s a hs ha b1 h1)
  have HY := Lib.hid (fun (W : World) => Tryd.city W s a)
  cases b1
  · clear hla h1 h2 hs ha
    simp only [Bool.false_and]
    go_enter Tryd.func18, Tryd.ntmps18
    go_wp2_with (first | (go_at_call 22; refine (HA.out _).mono ?_; rintro e w1 ⟨rfl, hbW⟩; have hcW := (bcell hbW.below).1; have hfW := (bcell hbW.below).2; (try have hzW : w.heap.size < w1.heap.size := by have hq := hbW.below.size; (try simp at hq); omega); (try have hyW : w.heap.size + 1 < w1.heap.size := by have hq := hbW.below.size; (try simp at hq); omega); (try have hxW : w.heap.size + 2 < w1.heap.size := by have hq := hbW.below.size; (try simp at hq); omega)))
    obtain ⟨q0, q1⟩ := resSet (w := w) hbW (.int .i64 0) (.int .i64 0)
    refine bodyPost_ret (v := .tuple #[coV false xs, .bool false]) ?_ rfl ⟨rfl, ?_⟩
    · simp [results, Tryd.results18, go_sem, q0, q1, coV, coX, coY]
    · exact by repeat (first | exact Gr.refl _ | refine Gr.alloc ?_ _ | refine Gr.trans ?_ (by assumption) | refine Gr.drew ?_ | refine Gr.drewN ?_ _ | refine Gr.grow ?_ _ | refine Gr.setCell ?_ (by (try simp); (try omega)) _)
  · have l1 := okT_len (okW_and h1).1
    have l2 := okT_len (okW_and h1).2
    have hok : okB a.size s.size [] = true := by unfold okB; exact decide_eq_true ⟨by omega, by omega, by omega, by omega, by simp, by simp, List.Pairwise.nil⟩
    have HC := Lib.hid (fun (X : World) (g : Gr w X) => Tryd.cornerOf X a.size s.size 0 (.slice none 0 0) [] Ba la xs true b2 hok h2 (by decide) (OwnE.nil _ _ _ _ _) (hla.gr g))
    simp only [Bool.true_and] at HC ⊢
    unfold coV at HC ⊢
    generalize coX b2 xs = x1 at *
    generalize coY b2 xs = y1 at *
    clear hla h1 h2 hs ha l1 l2 hok
    go_enter Tryd.func18, Tryd.ntmps18
    go_wp2_with (first | (go_at_call 22; refine (HA.out _).mono ?_; rintro e w1 ⟨rfl, hbW⟩; have hcW := (bcell hbW.below).1; have hfW := (bcell hbW.below).2; (try have hzW : w.heap.size < w1.heap.size := by have hq := hbW.below.size; (try simp at hq); omega); (try have hyW : w.heap.size + 1 < w1.heap.size := by have hq := hbW.below.size; (try simp at hq); omega); (try have hxW : w.heap.size + 2 < w1.heap.size := by have hq := hbW.below.size; (try simp at hq); omega)) | (go_at_call 24; refine (HY.out _).mono ?_; rintro e w1 ⟨rfl, hbW⟩; have hcW := (bcell hbW.below).1; have hfW := (bcell hbW.below).2; (try have hzW : w.heap.size < w1.heap.size := by have hq := hbW.below.size; (try simp at hq); omega); (try have hyW : w.heap.size + 1 < w1.heap.size := by have hq := hbW.below.size; (try simp at hq); omega); (try have hxW : w.heap.size + 2 < w1.heap.size := by have hq := hbW.below.size; (try simp at hq); omega)) | (go_at_call 23; refine (HC.out _ (by repeat (first | exact Gr.refl _ | refine Gr.alloc ?_ _ | refine Gr.trans ?_ (by assumption) | refine Gr.drew ?_ | refine Gr.drewN ?_ _ | refine Gr.grow ?_ _ | refine Gr.setCell ?_ (by (try simp); (try omega)) _))).mono ?_; rintro e w1 ⟨rfl, hbW⟩; have hcW := (bcell hbW.below).1; have hfW := (bcell hbW.below).2; (try have hzW : w.heap.size < w1.heap.size := by have hq := hbW.below.size; (try simp at hq); omega); (try have hyW : w.heap.size + 1 < w1.heap.size := by have hq := hbW.below.size; (try simp at hq); omega); (try have hxW : w.heap.size + 2 < w1.heap.size := by have hq := hbW.below.size; (try simp at hq); omega)))
    have g2 : Gr ((w.alloc (.cells #[.string s, .string a] 28)).alloc (.cells #[.int .i64 0, .int .i64 0] 47)) w1 := by repeat (first | assumption | exact Gr.refl _ | refine Gr.trans ?_ (by assumption))
    obtain ⟨q0, q1⟩ := resSet g2 (.int .i64 x1) (.int .i64 y1)
    refine bodyPost_ret (v := .tuple #[.agg #[.int .i64 x1, .int .i64 y1], .bool b2]) ?_ rfl ⟨rfl, ?_⟩
    · simp [results, Tryd.results18, go_sem, q0, q1]
    · exact by repeat (first | exact Gr.refl _ | refine Gr.alloc ?_ _ | refine Gr.trans ?_ (by assumption) | refine Gr.drew ?_ | refine Gr.drewN ?_ _ | refine Gr.grow ?_ _ | refine Gr.setCell ?_ (by (try simp); (try omega)) _)
end Go.Proofs
