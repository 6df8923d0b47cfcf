/-
  Contracts of chapter 1, second part: places, opposite houses.
-/
import Derived.Test.YtokfnhbdncebmabNuA
namespace Go.Proofs
open Go.RowKit
set_option linter.unusedVariables false
set_option linter.unusedSimpArgs false
theorem wr64 (x : Int) (h : -9000000000000000000 ≤ x) (g : x ≤ 9000000000000000000) : IntKind.i64.wrap x = x := IntWalk.i64_in _ (by omega)
set_option maxHeartbeats 400000 in
theorem Try.numberAt (k p sd pl : Int) (w : World) (h0 : 0 ≤ k) (h1 : k ≤ 2) (h2 : 1 ≤ p) (h3 : p ≤ 1000) (h4 : 0 ≤ sd) (h5 : sd ≤ 1) (h6 : 0 ≤ pl) (h7 : pl ≤ p - 1) (h8 : sd = 1 → 0 < k) :
    Calls Try.prog 57 #[.agg #[.int .i64 k, .int .i64 p], .agg #[.int .i64 sd, .int .i64 pl]] w fun e w' => e = .returned (.int .i64 (num k p sd pl)) ∧ Gr w w' := by
  have mixed : Try.prog.follows .mixedOrders = true := by kernel_rfl
  have hq := hs_bd k p h0 h2 h3
  obtain ⟨b0, b1, b2, b3⟩ := boxes w (.int .i64 k) (.int .i64 p) (.int .i64 sd) (.int .i64 pl) 24 68
  have H8 := Lib.hid h8
  clear h8
  have e1 := wr64 (hs k p - pl) (by omega) (by omega)
  go_enter Try.func57, Try.ntmps57
  go_wp2
  all_goals try ((refine wp_region_quiet_grown mixed (by kernel_rfl) ?_; (repeat (first | go_big_quiet_step ((first | (go_at_call 41; exact Calls.grown_of (Try.houses _ _ _ h0 h1 h2 h3)))) | quiet_step ((first | (go_at_call 41; exact Calls.grown_of (Try.houses _ _ _ h0 h1 h2 h3)))))); refine wpQuiet_nil ?_; intro _ hw'; obtain ⟨⟨nq, osq⟩, hw''⟩ := hw'; subst hw''); go_wp2)
  all_goals
    go_ret
    have h8 := H8.out
    refine ⟨ri ?_, by repeat (first | exact Gr.refl _ | refine Gr.alloc ?_ _ | refine Gr.trans ?_ (by assumption) | refine Gr.drew ?_ | refine Gr.drewN ?_ _ | refine Gr.grow ?_ _ | refine Gr.setCell ?_ (by (try simp); (try omega)) _)⟩
    clear e1 b0 b1 b2 b3
    exact (by (try simp only [beq_iff_eq, beq_eq_false_iff_ne, bne_iff_ne, ne_eq, decide_eq_true_eq, decide_eq_false_iff_not] at *); (try unfold num); (try unfold hs); omega)
set_option maxHeartbeats 400000 in
theorem Try.iNumberAt (k p sd pl : Int) (w : World) :
    Calls Try.prog 52 #[.agg #[.int .i64 k, .int .i64 p], .int .i64 sd, .int .i64 pl] w fun e w' => e = .returned (.tuple #[.int .i64 (naV k p sd pl), .bool (naB k p sd pl)]) ∧ Gr w w' := by
  cases hn : naB k p sd pl
  · have hv : naV k p sd pl = 0 := by simp [naV, hn]
    rw [hv]
    clear hv
    have H := Lib.hid hn
    clear hn
    go_enter Try.func52, Try.ntmps52
    go_wp2_with (first | (go_at_call 56; refine (Try.hasPlace _ _ _ _ _ H.out _).mono ?_; rintro e w1 ⟨rfl, hbW⟩; have hcW := (bcell hbW.below).1; have hfW := (bcell hbW.below).2; (try have hzW : w.heap.size < w1.heap.size := by have hq := hbW.below.size; (try simp at hq); omega); (try have hyW : w.heap.size + 1 < w1.heap.size := by have hq := hbW.below.size; (try simp at hq); omega); (try have hxW : w.heap.size + 2 < w1.heap.size := by have hq := hbW.below.size; (try simp at hq); omega)))
    go_ret2
    exact ⟨rfl, by repeat (first | exact Gr.refl _ | refine Gr.alloc ?_ _ | refine Gr.trans ?_ (by assumption) | refine Gr.drew ?_ | refine Gr.drewN ?_ _ | refine Gr.grow ?_ _ | refine Gr.setCell ?_ (by (try simp); (try omega)) _)⟩
  · have hv : naV k p sd pl = num k p sd pl := by simp [naV, hn]
    rw [hv]
    clear hv
    obtain ⟨⟨hg, hh⟩, hi⟩ : (gd k p = true ∧ hsd k sd = true) ∧ inn pl 0 (p - 1) = true := by simpa [naB] using hn
    obtain ⟨h0, h1, h2, h3⟩ := gd_t hg
    obtain ⟨h4, h5⟩ := hsd_t hh
    obtain ⟨h6, h7⟩ := inn_e hi
    have h8 : sd = 1 → 0 < k := fun e => by have := of_decide_eq_true (p := sd = 0 ∨ sd = 1 ∧ 0 < k) hh; omega
    have H := Lib.hid hn
    have H8 := Lib.hid h8
    clear hh hg hn hi h8
    go_enter Try.func52, Try.ntmps52
    go_wp2_with (first | (go_at_call 56; refine (Try.hasPlace _ _ _ _ _ H.out _).mono ?_; rintro e w1 ⟨rfl, hbW⟩; have hcW := (bcell hbW.below).1; have hfW := (bcell hbW.below).2; (try have hzW : w.heap.size < w1.heap.size := by have hq := hbW.below.size; (try simp at hq); omega); (try have hyW : w.heap.size + 1 < w1.heap.size := by have hq := hbW.below.size; (try simp at hq); omega); (try have hxW : w.heap.size + 2 < w1.heap.size := by have hq := hbW.below.size; (try simp at hq); omega)) | (go_at_call 57; refine (Try.numberAt _ _ _ _ _ h0 h1 h2 h3 h4 h5 h6 h7 H8.out).mono ?_; rintro e w1 ⟨rfl, hbW⟩; have hcW := (bcell hbW.below).1; have hfW := (bcell hbW.below).2; (try have hzW : w.heap.size < w1.heap.size := by have hq := hbW.below.size; (try simp at hq); omega); (try have hyW : w.heap.size + 1 < w1.heap.size := by have hq := hbW.below.size; (try simp at hq); omega); (try have hxW : w.heap.size + 2 < w1.heap.size := by have hq := hbW.below.size; (try simp at hq); omega)))
    go_ret2
    exact ⟨rfl, by repeat (first | exact Gr.refl _ | refine Gr.alloc ?_ _ | refine Gr.trans ?_ (by assumption) | refine Gr.drew ?_ | refine Gr.drewN ?_ _ | refine Gr.grow ?_ _ | refine Gr.setCell ?_ (by (try simp); (try omega)) _)⟩
set_option maxHeartbeats 400000 in
theorem Try.placeOf (k p n : Int) (w : World) (h0 : 0 ≤ k) (h1 : k ≤ 2) (h2 : 1 ≤ p) (h3 : p ≤ 1000) (h4 : 1 ≤ n) (h5 : n ≤ hs k p) :
    Calls Try.prog 42 #[.agg #[.int .i64 k, .int .i64 p], .int .i64 n] w fun e w' => e = .returned (.agg #[.int .i64 (sdo k p n), .int .i64 (plo k p n)]) ∧ Gr w w' := by
  have mixed : Try.prog.follows .mixedOrders = true := by kernel_rfl
  have hq := hs_bd k p h0 h2 h3
  have h6 : n ≤ 2000 := by omega
  have H5 := Lib.hid h5
  clear h5
  have e1 := wr64 (hs k p - n) (by omega) (by omega)
  go_enter Try.func42, Try.ntmps42
  go_wp2_with (first | (go_at_call 41; refine (Try.houses _ _ _ h0 h1 h2 h3).mono ?_; rintro e w1 ⟨rfl, hbW⟩; have hcW := (bcell hbW.below).1; have hfW := (bcell hbW.below).2; (try have hzW : w.heap.size < w1.heap.size := by have hq := hbW.below.size; (try simp at hq); omega); (try have hyW : w.heap.size + 1 < w1.heap.size := by have hq := hbW.below.size; (try simp at hq); omega); (try have hxW : w.heap.size + 2 < w1.heap.size := by have hq := hbW.below.size; (try simp at hq); omega)))
  · have es : sdo k p n = (n - 1) % 2 := (by (try simp only [beq_iff_eq, beq_eq_false_iff_ne, bne_iff_ne, ne_eq, decide_eq_true_eq, decide_eq_false_iff_not] at *); (try unfold sdo); omega)
    have ep : plo k p n = (n - 1) / 2 := (by (try simp only [beq_iff_eq, beq_eq_false_iff_ne, bne_iff_ne, ne_eq, decide_eq_true_eq, decide_eq_false_iff_not] at *); (try unfold plo); omega)
    rw [es, ep]
    exact bodyPost_ret (v := .agg #[.int .i64 ((n - 1) % 2), .int .i64 ((n - 1) / 2)]) (by simp [results, Try.results42, go_sem]) rfl ⟨rfl, by repeat (first | exact Gr.refl _ | refine Gr.alloc ?_ _ | refine Gr.trans ?_ (by assumption) | refine Gr.drew ?_ | refine Gr.drewN ?_ _ | refine Gr.grow ?_ _ | refine Gr.setCell ?_ (by (try simp); (try omega)) _)⟩
  · have es : sdo k p n = 1 := by have h5 := H5.out; clear e1; exact (by (try simp only [beq_iff_eq, beq_eq_false_iff_ne, bne_iff_ne, ne_eq, decide_eq_true_eq, decide_eq_false_iff_not] at *); (try unfold sdo); omega)
    have ep : plo k p n = hs k p - n := by have h5 := H5.out; have hd : hs k p = (if k = 0 then p else 2 * p) := rfl; clear e1; exact (by (try simp only [beq_iff_eq, beq_eq_false_iff_ne, bne_iff_ne, ne_eq, decide_eq_true_eq, decide_eq_false_iff_not] at *); (try unfold plo); omega)
    rw [es, ep]
    refine bodyPost_ret (v := .agg #[.int .i64 1, .int .i64 (hs k p - n)]) ?_ rfl ⟨rfl, ?_⟩
    · simp [results, Try.results42, go_sem, hcW, hfW, hyW]
    · refine Gr.setCell (Gr.setCell ?_ (by simp) _) (by simp) _
      exact (by repeat (first | exact Gr.refl _ | refine Gr.alloc ?_ _ | refine Gr.trans ?_ (by assumption) | refine Gr.drew ?_ | refine Gr.drewN ?_ _ | refine Gr.grow ?_ _ | refine Gr.setCell ?_ (by (try simp); (try omega)) _))
  · have es : sdo k p n = 0 := (by (try simp only [beq_iff_eq, beq_eq_false_iff_ne, bne_iff_ne, ne_eq, decide_eq_true_eq, decide_eq_false_iff_not] at *); (try unfold sdo); omega)
    have ep : plo k p n = n - 1 := (by (try simp only [beq_iff_eq, beq_eq_false_iff_ne, bne_iff_ne, ne_eq, decide_eq_true_eq, decide_eq_false_iff_not] at *); (try unfold plo); omega)
    rw [es, ep]
    exact bodyPost_ret (v := .agg #[.int .i64 0, .int .i64 (n - 1)]) (by simp [results, Try.results42, go_sem]) rfl ⟨rfl, by repeat (first | exact Gr.refl _ | refine Gr.alloc ?_ _ | refine Gr.trans ?_ (by assumption) | refine Gr.drew ?_ | refine Gr.drewN ?_ _ | refine Gr.grow ?_ _ | refine Gr.setCell ?_ (by (try simp); (try omega)) _)⟩
def asB (k p n : Int) : Bool := decide (Asked k p n)
theorem asB_t {k p n : Int} (h : asB k p n = true) : gd k p = true ∧ 1 ≤ n ∧ n ≤ hs k p := by
  have := of_decide_eq_true (p := Asked k p n) h
  exact ⟨decide_eq_true (p := Gd k p) this.1, this.2⟩
def sdV (k p n : Int) : Int := if asB k p n then sdo k p n else 0
def plV (k p n : Int) : Int := if asB k p n then plo k p n else 0
end Go.Proofs
