/-
  Chapter 9: whether a house fits a clue, both sides (spec.pzFits, DoesFit; impl.doesFit, DoesFit); slices.IndexFunc and ContainsFunc over clues with whatever closure.
-/
import Derived.Test.YtbnabjnpdkmbhaaPzE
import Derived.Laws.StructEq
namespace Go.Proofs
open Go.RowKit
set_option linter.unusedVariables false
set_option linter.unusedSimpArgs false
open Go.Sort in
/-- a street and a clue lie in blocks behind, in whatever world behind them -/
theorem boxes23 (w : World) (a b c d e : Value) (t t2 : TypeId) :
    (∀ n os, (grow (((w.alloc (.cells #[a, b] t)).alloc (.cells #[c, d, e] t2)).drewN n) os).cell? ⟨w.heap.size, 0, none⟩ = some a) ∧
    (∀ n os, (grow (((w.alloc (.cells #[a, b] t)).alloc (.cells #[c, d, e] t2)).drewN n) os).cell? ⟨w.heap.size, 1, none⟩ = some b) ∧
    (∀ n os, (grow (((w.alloc (.cells #[a, b] t)).alloc (.cells #[c, d, e] t2)).drewN n) os).cell? ⟨w.heap.size + 1, 0, none⟩ = some c) ∧
    (∀ n os, (grow (((w.alloc (.cells #[a, b] t)).alloc (.cells #[c, d, e] t2)).drewN n) os).cell? ⟨w.heap.size + 1, 1, none⟩ = some d) ∧
    (∀ n os, (grow (((w.alloc (.cells #[a, b] t)).alloc (.cells #[c, d, e] t2)).drewN n) os).cell? ⟨w.heap.size + 1, 2, none⟩ = some e) := by
  have g := Gr.refl ((w.alloc (.cells #[a, b] t)).alloc (.cells #[c, d, e] t2))
  exact ⟨gr_all g (by simp [go_sem]), gr_all g (by simp [go_sem]), gr_all g (by simp [go_sem]), gr_all g (by simp [go_sem]), gr_all g (by simp [go_sem])⟩
set_option maxHeartbeats 800000 in
theorem Try.pzFits (k p x y z n : Int) (w : World) (h0 : 0 ≤ k) (h1 : k ≤ 2) (h2 : 1 ≤ p) (h3 : p ≤ 1000) (h4 : 1 ≤ n) (h5 : n ≤ hs k p) (hk : KindOk x y) :
    Calls Try.prog 68 #[.agg #[.int .i64 k, .int .i64 p], .agg #[.int .i64 x, .int .i64 y, .int .i64 z], .int .i64 n] w fun e w' => e = .returned (.bool (pfit k p (x, y, z) n)) ∧ Gr w w' := by
  have mixed : Try.prog.follows .mixedOrders = true := by kernel_rfl
  have PV := Lib.hid (fun (w : World) => Try.pzValue k p x y n w h0 h1 h2 h3 h4 h5 hk)
  have er : pfit k p (x, y, z) n = (pval k p x y n == z) := by unfold pfit; rw [Bool.eq_iff_iff]; simp
  rw [er]
  generalize pval k p x y n = pv at *
  obtain ⟨b0, b1, b2, b3, b4⟩ := boxes23 w (.int .i64 k) (.int .i64 p) (.int .i64 x) (.int .i64 y) (.int .i64 z) 27 29
  clear er hk h5
  go_enter Try.func68, Try.ntmps68
  go_wp2
  (refine wp_region_quiet_grown mixed (by kernel_rfl) ?_; (repeat (first | go_big_quiet_step ((first | (go_at_call 95; exact Calls.grown_of (PV.out _)))) | quiet_step ((first | (go_at_call 95; exact Calls.grown_of (PV.out _)))))); refine wpQuiet_nil ?_; intro _ hw'; obtain ⟨⟨nq, osq⟩, hw''⟩ := hw'; subst hw'')
  go_wp2
  go_ret
  exact ⟨rfl, by repeat (first | exact Gr.refl _ | refine Gr.alloc ?_ _ | refine Gr.trans ?_ (by assumption) | refine Gr.drew ?_ | refine Gr.drewN ?_ _ | refine Gr.grow ?_ _ | refine Gr.setCell ?_ (by (try simp); (try omega)) _)⟩
theorem Try.eqlC (x y z z' : Int) (w : World) : Sem.run Try.prog (binOp .eql 29 (.agg #[.int .i64 x, .int .i64 y, .int .i64 z]) (.agg #[.int .i64 x, .int .i64 y, .int .i64 z'])) w = .ok (.bool (z' == z)) w := by
  have u3 := Try.underlying3
  have a3 := Try.isAgg3
  have z3 := Try.sizeOf3
  have hS : Try.prog.underlying 29 = some (.struct (Try.prog.fieldsOf 29)) := by kernel_rfl
  have hp : Try.prog.stoodInHeld 29 = false := by kernel_rfl
  rw [run_eql_struct, show (10000 : Nat) = 9999 + 1 from rfl, run_equalIn_agg w 9999 29 _ _ hS hp]
  simp only [Program.fieldsOf, Try.underlying29]
  go_simp
  by_cases h1 : z' = z
  · simp [h1]
  · have : ¬ z = z' := fun e => h1 e.symm
    simp [h1, this]
set_option maxRecDepth 100000 in
set_option maxHeartbeats 800000 in
theorem Try.doesFit (k p x y z n : Int) (w : World) (h0 : 0 ≤ k) (h1 : k ≤ 2) (h2 : 1 ≤ p) (h3 : p ≤ 1000) (h4 : 1 ≤ n) (h5 : n ≤ hs k p) (hk : KindOk x y) :
    Calls Try.prog 70 #[.agg #[.int .i64 k, .int .i64 p], .agg #[.int .i64 x, .int .i64 y, .int .i64 z], .int .i64 n] w fun e w' => e = .returned (.bool (pfit k p (x, y, z) n)) ∧ Gr w w' := by
  have mixed : Try.prog.follows .mixedOrders = true := by kernel_rfl
  have PV := Lib.hid (fun (w : World) => Try.clueOf k p n x y w h0 h1 h2 h3 h4 h5 hk)
  have er : pfit k p (x, y, z) n = (pval k p x y n == z) := by unfold pfit; rw [Bool.eq_iff_iff]; simp
  rw [er]
  generalize pval k p x y n = pv at *
  have heq := Try.eqlC x y z pv
  obtain ⟨b0, b1, b2, b3, b4⟩ := boxes23 w (.int .i64 k) (.int .i64 p) (.int .i64 x) (.int .i64 y) (.int .i64 z) 27 29
  clear er hk h5
  go_enter Try.func70, Try.ntmps70
  go_wp2
  (refine wp_region_quiet_grown mixed (by kernel_rfl) ?_; (repeat (first | go_big_quiet_step ((first | (go_at_call 87; exact Calls.grown_of (PV.out _)))) | quiet_step ((first | (go_at_call 87; exact Calls.grown_of (PV.out _)))))); refine wpQuiet_nil ?_; intro _ hw'; obtain ⟨⟨nq, osq⟩, hw''⟩ := hw'; subst hw'')
  go_wp2
  go_ret
  exact ⟨rfl, by repeat (first | exact Gr.refl _ | refine Gr.alloc ?_ _ | refine Gr.trans ?_ (by assumption) | refine Gr.drew ?_ | refine Gr.drewN ?_ _ | refine Gr.grow ?_ _ | refine Gr.setCell ?_ (by (try simp); (try omega)) _)⟩
theorem cok_KindOk {x y z : Int} (h : cok (x, y, z) = true) : KindOk x y := ⟨(cok_kind h).1, (cok_kind h).2, cok_a h⟩
set_option maxHeartbeats 800000 in
theorem Try.leftBy1 (k p x y z n : Int) (q b : Nat) (w : World) (h0 : 0 ≤ k) (h1 : k ≤ 2) (h2 : 1 ≤ p) (h3 : p ≤ 1000) (h4 : 1 ≤ n) (h5 : n ≤ hs k p) (hk : cok (x, y, z) = true)
    (c0 : w.cell? ⟨q, 0, none⟩ = some (.int .i64 k)) (c1 : w.cell? ⟨q, 1, none⟩ = some (.int .i64 p)) (c2 : w.cell? ⟨b, 0, none⟩ = some (.int .i64 n)) :
    Calls Try.prog 97 (#[.agg #[.int .i64 x, .int .i64 y, .int .i64 z]] ++ #[.pointer (some ⟨q, 0, none⟩), .pointer (some ⟨b, 0, none⟩)]) w fun e w' => e = .returned (.bool (!(pfit k p (x, y, z) n))) ∧ Gr w w' := by
  have PV := Lib.hid (fun (w : World) => Try.doesFit k p x y z n w h0 h1 h2 h3 h4 h5 (cok_KindOk hk))
  have G := Gr.alloc (Gr.refl w) (.cells #[.int .i64 x, .int .i64 y, .int .i64 z] 29)
  have e0 := G.keep0 c0
  have e1 := G.keep0 c1
  have e2 := G.keep0 c2
  clear hk h5 c0 c1 c2 G
  go_enter Try.func97, Try.ntmps97
  go_wp2_with (first | (go_at_call 70; refine (PV.out _).mono ?_; rintro e w1 ⟨rfl, hbW⟩; have hcW := (bcell hbW.below).1; have hfW := (bcell hbW.below).2; (try have hzW : w.heap.size < w1.heap.size := by have hq := hbW.below.size; (try simp at hq); omega); (try have hyW : w.heap.size + 1 < w1.heap.size := by have hq := hbW.below.size; (try simp at hq); omega); (try have hxW : w.heap.size + 2 < w1.heap.size := by have hq := hbW.below.size; (try simp at hq); omega)))
  go_ret
  exact ⟨rfl, by repeat (first | exact Gr.refl _ | refine Gr.alloc ?_ _ | refine Gr.trans ?_ (by assumption) | refine Gr.drew ?_ | refine Gr.drewN ?_ _ | refine Gr.grow ?_ _ | refine Gr.setCell ?_ (by (try simp); (try omega)) _)⟩
end Go.Proofs
