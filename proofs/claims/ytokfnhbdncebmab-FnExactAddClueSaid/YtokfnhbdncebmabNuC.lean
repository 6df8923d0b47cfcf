/-
  Contracts of chapter 1, third part: opposite houses, walks between houses.
-/
import Derived.Test.YtokfnhbdncebmabNuB
namespace Go.Proofs
open Go.RowKit
set_option linter.unusedVariables false
set_option linter.unusedSimpArgs false
def opB (k p n : Int) : Bool := asB k p n && decide (k ≠ 0)
def opV (k p n : Int) : Int := if opB k p n then num k p (1 - sdo k p n) (plo k p n) else 0
theorem sdo_bd (k p n : Int) (h4 : 1 ≤ n) : 0 ≤ sdo k p n ∧ sdo k p n ≤ 1 := by unfold sdo; omega
theorem plo_bd (k p n : Int) (h2 : 1 ≤ p) (h4 : 1 ≤ n) (h5 : n ≤ hs k p) : 0 ≤ plo k p n ∧ plo k p n ≤ p - 1 := by unfold hs at h5; unfold plo; omega
theorem op_na (k p n : Int) (h : asB k p n = true) : naB k p (1 - sdo k p n) (plo k p n) = opB k p n ∧ naV k p (1 - sdo k p n) (plo k p n) = opV k p n := by
  obtain ⟨hgd, h4, h5⟩ := asB_t h
  obtain ⟨h0, h1, h2, h3⟩ := gd_t hgd
  have hp := plo_bd k p n h2 h4 h5
  have e : naB k p (1 - sdo k p n) (plo k p n) = opB k p n := by
    unfold naB opB
    rw [hgd, h, inn_t hp.1 hp.2]
    simp only [Bool.true_and, Bool.and_true]
    unfold hsd
    refine decide_eq_decide.2 ?_
    unfold sdo
    unfold hs at h5
    omega
  exact ⟨e, by unfold naV opV; rw [e]⟩
theorem Try.otherSide (sd : Int) (w : World) (h0 : 0 ≤ sd) (h1 : sd ≤ 1) :
    Calls Try.prog 53 #[.int .i64 sd] w fun e w' => e = .returned (.int .i64 (1 - sd)) ∧ w = w' := by
  go_enter Try.func53, Try.ntmps53
  go_wp2
  go_ret
  exact ⟨ri (by first | rfl | omega | (unfold wrap64; omega)), rfl⟩
set_option maxHeartbeats 400000 in
theorem Try.iOppositeOf (k p n : Int) (w : World) :
    Calls Try.prog 44 #[.agg #[.int .i64 k, .int .i64 p], .int .i64 n] w fun e w' => e = .returned (.tuple #[.int .i64 (opV k p n), .bool (opB k p n)]) ∧ Gr w w' := by
  cases hg : asB k p n
  · have e : opB k p n = false := by simp [opB, hg]
    rw [show opV k p n = 0 by simp [opV, e], e]
    have H := Lib.hid hg
    clear hg e
    go_enter Try.func44, Try.ntmps44
    go_wp2_with (go_at_call 21; refine (Try.hasHouse _ _ _ _ H.out _).mono ?_; rintro e w1 ⟨rfl, hbW⟩; have hcW := (bcell hbW.below).1; have hfW := (bcell hbW.below).2; (try have hzW : w.heap.size < w1.heap.size := by have hq := hbW.below.size; (try simp at hq); omega); (try have hyW : w.heap.size + 1 < w1.heap.size := by have hq := hbW.below.size; (try simp at hq); omega); (try have hxW : w.heap.size + 2 < w1.heap.size := by have hq := hbW.below.size; (try simp at hq); omega))
    go_ret2
    exact ⟨rfl, by repeat (first | exact Gr.refl _ | refine Gr.alloc ?_ _ | refine Gr.trans ?_ (by assumption) | refine Gr.drew ?_ | refine Gr.drewN ?_ _ | refine Gr.grow ?_ _ | refine Gr.setCell ?_ (by (try simp); (try omega)) _)⟩
  · obtain ⟨hgd, h4, h5⟩ := asB_t hg
    obtain ⟨h0, h1, h2, h3⟩ := gd_t hgd
    obtain ⟨e1, e2⟩ := op_na k p n hg
    have hs1 := sdo_bd k p n h4
    rw [← e1, ← e2]
    have H := Lib.hid hg
    clear hg e1 e2 hgd
    have mixed : Try.prog.follows .mixedOrders = true := by kernel_rfl
    have HS := Lib.hid hs1
    go_enter Try.func44, Try.ntmps44
    go_wp2_with (first | (go_at_call 21; refine (Try.hasHouse _ _ _ _ H.out _).mono ?_; rintro e w1 ⟨rfl, hbW⟩; have hcW := (bcell hbW.below).1; have hfW := (bcell hbW.below).2; (try have hzW : w.heap.size < w1.heap.size := by have hq := hbW.below.size; (try simp at hq); omega); (try have hyW : w.heap.size + 1 < w1.heap.size := by have hq := hbW.below.size; (try simp at hq); omega); (try have hxW : w.heap.size + 2 < w1.heap.size := by have hq := hbW.below.size; (try simp at hq); omega)) | (go_at_call 42; refine (Try.placeOf _ _ _ _ h0 h1 h2 h3 h4 h5).mono ?_; rintro e w1 ⟨rfl, hbW⟩; have hcW := (bcell hbW.below).1; have hfW := (bcell hbW.below).2; (try have hzW : w.heap.size < w1.heap.size := by have hq := hbW.below.size; (try simp at hq); omega); (try have hyW : w.heap.size + 1 < w1.heap.size := by have hq := hbW.below.size; (try simp at hq); omega); (try have hxW : w.heap.size + 2 < w1.heap.size := by have hq := hbW.below.size; (try simp at hq); omega)))
    have gw : Gr (w.alloc (.cells #[.int .i64 k, .int .i64 p] 24)) w1 := (by repeat (first | exact Gr.refl _ | refine Gr.alloc ?_ _ | refine Gr.trans ?_ (by assumption) | refine Gr.drew ?_ | refine Gr.drewN ?_ _ | refine Gr.grow ?_ _ | refine Gr.setCell ?_ (by (try simp); (try omega)) _))
    have ga : Gr w1 (w1.alloc (.cells #[.int .i64 (sdo k p n), .int .i64 (plo k p n)] 68)) := Gr.alloc (Gr.refl _) _
    obtain ⟨f0, f1⟩ := boxG (w := w) (W := (w1.alloc (.cells #[.int .i64 (sdo k p n), .int .i64 (plo k p n)] 68))) (gw.trans ga)
    obtain ⟨f2, f3⟩ := boxG (w := w1) (Gr.refl (w1.alloc (.cells #[.int .i64 (sdo k p n), .int .i64 (plo k p n)] 68)))
    have GW := Lib.hid gw
    clear hcW hfW hbW gw ga
    (refine wp_region_quiet_grown mixed (by kernel_rfl) ?_; (repeat (first | go_big_quiet_step ((first | (go_at_call 53; exact Calls.grown_of (same_gr (Try.otherSide _ _ HS.out.1 HS.out.2))) | (go_at_call 52; exact Calls.grown_of (Try.iNumberAt _ _ _ _ _)))) | quiet_step ((first | (go_at_call 53; exact Calls.grown_of (same_gr (Try.otherSide _ _ HS.out.1 HS.out.2))) | (go_at_call 52; exact Calls.grown_of (Try.iNumberAt _ _ _ _ _)))))); refine wpQuiet_nil ?_; intro _ hw'; obtain ⟨⟨nq, osq⟩, hw''⟩ := hw'; subst hw'')
    go_wp2
    go_ret2
    exact ⟨rfl, Gr.trans (Gr.alloc (Gr.refl _) _) (GW.out.trans (by repeat (first | exact Gr.refl _ | refine Gr.alloc ?_ _ | refine Gr.trans ?_ (by assumption) | refine Gr.drew ?_ | refine Gr.drewN ?_ _ | refine Gr.grow ?_ _ | refine Gr.setCell ?_ (by (try simp); (try omega)) _)))⟩

/-! ## Walks between houses -/
def wkB (k p a b x : Int) : Bool := asB k p a && asB k p b && inn x 0 1000
def wkD (k p a b x : Int) : Int := (if plo k p a ≤ plo k p b then plo k p b - plo k p a else plo k p a - plo k p b) + (if sdo k p a = sdo k p b then 0 else x)
def wkV (k p a b x : Int) : Int := if wkB k p a b x then wkD k p a b x else 0
def abv (n : Int) : Int := if 0 ≤ n then n else -n
end Go.Proofs
