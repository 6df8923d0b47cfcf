/-
  Chapter 9: what puzzles are made of, both sides.
-/
import Derived.Test.YtokfnhbdncebmabPzT
namespace Go.Proofs
open Go.RowKit
set_option linter.unusedVariables false
set_option linter.unusedSimpArgs false
theorem nxz_bd (z : Int) : 0 ≤ nxz z ∧ nxz z ≤ 10006 := by unfold nxz; omega
theorem yA_ok {x y : Int} (h0 : 0 ≤ x) (h5 : x ≤ 5) (hy : 0 ≤ y) : KindOk x (yA x y) := by
  refine ⟨h0, h5, fun h => ?_⟩
  subst h
  unfold yA
  rw [if_pos rfl]
  omega
set_option maxHeartbeats 400000 in
theorem Try.pzNext (z : Int) (h0 : 0 ≤ z) (h1 : z ≤ 10006) (w : World) :
    Calls Try.prog 18 #[.int .i64 z] w fun e w' => e = .returned (.int .i64 (nxz z)) ∧ w = w' := by
  have b := nxz_bd z
  have em : (233 * z + 1871).tmod 10007 = nxz z := by rw [Int.tmod_eq_emod_of_nonneg (by omega)]; unfold nxz; omega
  have e1 : IntKind.i64.wrap (233 * z) = 233 * z := wr64 _ (by omega) (by omega)
  have e2 : IntKind.i64.wrap (233 * z + 1871) = 233 * z + 1871 := wr64 _ (by omega) (by omega)
  have e3 : IntKind.i64.wrap (nxz z) = nxz z := wr64 _ (by omega) (by omega)
  go_enter Try.func18, Try.ntmps18
  go_wp2
  go_ret
  exact ⟨rfl, rfl⟩
set_option maxHeartbeats 400000 in
theorem Try.nextMade (z : Int) (h0 : 0 ≤ z) (h1 : z ≤ 10006) (w : World) :
    Calls Try.prog 23 #[.int .i64 z] w fun e w' => e = .returned (.int .i64 (nxz z)) ∧ w = w' := by
  have b := nxz_bd z
  have em : (z * 233 + 1871).tmod 10007 = nxz z := by rw [Int.tmod_eq_emod_of_nonneg (by omega)]; unfold nxz; omega
  have e1 : IntKind.i64.wrap (z * 233) = z * 233 := wr64 _ (by omega) (by omega)
  have e2 : IntKind.i64.wrap (z * 233 + 1871) = z * 233 + 1871 := wr64 _ (by omega) (by omega)
  have e3 : IntKind.i64.wrap (nxz z) = nxz z := wr64 _ (by omega) (by omega)
  go_enter Try.func23, Try.ntmps23
  go_wp2
  go_ret
  exact ⟨rfl, rfl⟩
theorem Try.pick (x y : Int) (h0 : 0 ≤ y) (h1 : y ≤ 10006) (w : World) :
    Calls Try.prog 26 #[spV (spA x), .int .i64 y] w fun e w' => e = .returned (.int .i64 (yA x y)) ∧ Gr w w' := by
  have e1 : y.tmod 1 = 0 := by rw [Int.tmod_eq_emod_of_nonneg (by omega)]; omega
  have e8 : y.tmod 8 = y % 8 := by rw [Int.tmod_eq_emod_of_nonneg (by omega)]
  have e40 : y.tmod 40 = y % 40 := by rw [Int.tmod_eq_emod_of_nonneg (by omega)]
  have m8 := Int.emod_nonneg y (show (8 : Int) ≠ 0 by omega)
  have n8 := Int.emod_lt_of_pos y (show (0 : Int) < 8 by omega)
  have m40 := Int.emod_nonneg y (show (40 : Int) ≠ 0 by omega)
  have n40 := Int.emod_lt_of_pos y (show (0 : Int) < 40 by omega)
  have w8 : IntKind.i64.wrap (y % 8) = y % 8 := wr64 _ (by omega) (by omega)
  have w40 : IntKind.i64.wrap (y % 40) = y % 40 := wr64 _ (by omega) (by omega)
  have v8 : IntKind.i64.wrap (2 + y % 8) = 2 + y % 8 := wr64 _ (by omega) (by omega)
  have v40 : IntKind.i64.wrap (1 + y % 40) = 1 + y % 40 := wr64 _ (by omega) (by omega)
  by_cases h2 : x = 2
  · subst h2
    rw [show spA 2 = (2, 9) from rfl, show yA 2 y = 2 + y % 8 by unfold yA; rw [if_pos rfl]; omega]
    unfold spV
    go_enter Try.func26, Try.ntmps26
    go_wp2
    go_region
    go_wp2
    go_ret
    exact ⟨rfl, by repeat (first | exact Gr.refl _ | refine Gr.alloc ?_ _ | refine Gr.trans ?_ (by assumption) | refine Gr.drew ?_ | refine Gr.drewN ?_ _ | refine Gr.grow ?_ _ | refine Gr.setCell ?_ (by (try simp); (try omega)) _)⟩
  · by_cases h4 : x = 4
    · subst h4
      rw [show spA 4 = (1, 40) from rfl, show yA 4 y = 1 + y % 40 by unfold yA; rw [if_neg (by decide), if_pos rfl]; omega]
      unfold spV
      go_enter Try.func26, Try.ntmps26
      go_wp2
      go_region
      go_wp2
      go_ret
      exact ⟨rfl, by repeat (first | exact Gr.refl _ | refine Gr.alloc ?_ _ | refine Gr.trans ?_ (by assumption) | refine Gr.drew ?_ | refine Gr.drewN ?_ _ | refine Gr.grow ?_ _ | refine Gr.setCell ?_ (by (try simp); (try omega)) _)⟩
    · rw [show spA x = (0, 0) by unfold spA; rw [if_neg h2, if_neg h4], show yA x y = 0 by unfold yA; rw [if_neg h2, if_neg h4]]
      unfold spV
      go_enter Try.func26, Try.ntmps26
      go_wp2
      go_region
      go_wp2
      go_ret
      exact ⟨rfl, by repeat (first | exact Gr.refl _ | refine Gr.alloc ?_ _ | refine Gr.trans ?_ (by assumption) | refine Gr.drew ?_ | refine Gr.drewN ?_ _ | refine Gr.grow ?_ _ | refine Gr.setCell ?_ (by (try simp); (try omega)) _)⟩
set_option maxRecDepth 100000 in
set_option maxHeartbeats 1600000 in
theorem Try.pzOf (k p n x y : Int) (w : World) (h0 : 0 ≤ k) (h1 : k ≤ 2) (h2 : 1 ≤ p) (h3 : p ≤ 1000) (h4 : 1 ≤ n) (h5 : n ≤ hs k p) (hx0 : 0 ≤ x) (hx5 : x ≤ 5) (hy0 : 0 ≤ y) (hy1 : y ≤ 10006) :
    Calls Try.prog 19 #[.agg #[.int .i64 k, .int .i64 p], .int .i64 x, .int .i64 y, .int .i64 n] w fun e w' => e = .returned (.agg #[.int .i64 x, .int .i64 (yA x y), .int .i64 (pval k p x (yA x y) n)]) ∧ Gr w w' := by
  have PV := Lib.hid (fun (w : World) => Try.pzValue k p x (yA x y) n w h0 h1 h2 h3 h4 h5 (yA_ok hx0 hx5 hy0))
  have e8 : y.tmod 8 = y % 8 := by rw [Int.tmod_eq_emod_of_nonneg (by omega)]
  have e40 : y.tmod 40 = y % 40 := by rw [Int.tmod_eq_emod_of_nonneg (by omega)]
  have m8 := Int.emod_nonneg y (show (8 : Int) ≠ 0 by omega)
  have n8 := Int.emod_lt_of_pos y (show (0 : Int) < 8 by omega)
  have m40 := Int.emod_nonneg y (show (40 : Int) ≠ 0 by omega)
  have n40 := Int.emod_lt_of_pos y (show (0 : Int) < 40 by omega)
  have w8 : IntKind.i64.wrap (y % 8) = y % 8 := wr64 _ (by omega) (by omega)
  have w40 : IntKind.i64.wrap (y % 40) = y % 40 := wr64 _ (by omega) (by omega)
  have v8 : IntKind.i64.wrap (y % 8 + 2) = y % 8 + 2 := wr64 _ (by omega) (by omega)
  have v40 : IntKind.i64.wrap (y % 40 + 1) = y % 40 + 1 := wr64 _ (by omega) (by omega)
  generalize hz : pval k p x (yA x y) n = v at PV
  clear hz
  by_cases c2 : x = 2
  · subst c2
    rw [show yA 2 y = y % 8 + 2 by unfold yA; rw [if_pos rfl]] at PV ⊢
    go_enter Try.func19, Try.ntmps19
    go_wp2_with (first | (go_at_call 39; refine (PV.out _).mono ?_; rintro e w1 ⟨rfl, hbW⟩; have hcW := (bcell hbW.below).1; have hfW := (bcell hbW.below).2; (try have hzW : w.heap.size < w1.heap.size := by have hq := hbW.below.size; (try simp at hq); omega); (try have hyW : w.heap.size + 1 < w1.heap.size := by have hq := hbW.below.size; (try simp at hq); omega); (try have hxW : w.heap.size + 2 < w1.heap.size := by have hq := hbW.below.size; (try simp at hq); omega)))
    refine bodyPost_ret (v := .agg #[.int .i64 2, .int .i64 (y % 8 + 2), .int .i64 v]) ?_ rfl ⟨rfl, ?_⟩
    · simp [results, Try.results19, go_sem, hcW, hfW]
    · exact (by repeat (first | exact Gr.refl _ | refine Gr.alloc ?_ _ | refine Gr.trans ?_ (by assumption) | refine Gr.drew ?_ | refine Gr.drewN ?_ _ | refine Gr.grow ?_ _ | refine Gr.setCell ?_ (by (try simp); (try omega)) _))
  · by_cases c4 : x = 4
    · subst c4
      rw [show yA 4 y = y % 40 + 1 by unfold yA; rw [if_neg (by decide), if_pos rfl]] at PV ⊢
      go_enter Try.func19, Try.ntmps19
      go_wp2_with (first | (go_at_call 39; refine (PV.out _).mono ?_; rintro e w1 ⟨rfl, hbW⟩; have hcW := (bcell hbW.below).1; have hfW := (bcell hbW.below).2; (try have hzW : w.heap.size < w1.heap.size := by have hq := hbW.below.size; (try simp at hq); omega); (try have hyW : w.heap.size + 1 < w1.heap.size := by have hq := hbW.below.size; (try simp at hq); omega); (try have hxW : w.heap.size + 2 < w1.heap.size := by have hq := hbW.below.size; (try simp at hq); omega)))
      refine bodyPost_ret (v := .agg #[.int .i64 4, .int .i64 (y % 40 + 1), .int .i64 v]) ?_ rfl ⟨rfl, ?_⟩
      · simp [results, Try.results19, go_sem, hcW, hfW]
      · exact (by repeat (first | exact Gr.refl _ | refine Gr.alloc ?_ _ | refine Gr.trans ?_ (by assumption) | refine Gr.drew ?_ | refine Gr.drewN ?_ _ | refine Gr.grow ?_ _ | refine Gr.setCell ?_ (by (try simp); (try omega)) _))
    · rw [show yA x y = 0 by unfold yA; rw [if_neg c2, if_neg c4]] at PV ⊢
      go_enter Try.func19, Try.ntmps19
      go_wp2_with (first | (go_at_call 39; refine (PV.out _).mono ?_; rintro e w1 ⟨rfl, hbW⟩; have hcW := (bcell hbW.below).1; have hfW := (bcell hbW.below).2; (try have hzW : w.heap.size < w1.heap.size := by have hq := hbW.below.size; (try simp at hq); omega); (try have hyW : w.heap.size + 1 < w1.heap.size := by have hq := hbW.below.size; (try simp at hq); omega); (try have hxW : w.heap.size + 2 < w1.heap.size := by have hq := hbW.below.size; (try simp at hq); omega)))
      refine bodyPost_ret (v := .agg #[.int .i64 x, .int .i64 0, .int .i64 v]) ?_ rfl ⟨rfl, ?_⟩
      · simp [results, Try.results19, go_sem, hcW, hfW]
      · exact (by repeat (first | exact Gr.refl _ | refine Gr.alloc ?_ _ | refine Gr.trans ?_ (by assumption) | refine Gr.drew ?_ | refine Gr.drewN ?_ _ | refine Gr.grow ?_ _ | refine Gr.setCell ?_ (by (try simp); (try omega)) _))
end Go.Proofs
