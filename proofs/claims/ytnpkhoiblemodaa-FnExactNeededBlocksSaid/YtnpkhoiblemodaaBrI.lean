/-
  Contracts of chapter 4: slices.Grow of no blocks, slices.Concat of two lists of blocks.
-/
import Derived.Test.YtnpkhoiblemodaaBrA
import Derived.Lib.AppendZerosOnto
import Derived.OwnWalk
namespace Go.Proofs
open Go.RowKit Av
set_option linter.unusedVariables false
set_option linter.unusedSimpArgs false
set_option maxRecDepth 100000 in
set_option maxHeartbeats 1600000 in
theorem Try.growB (w : World) (n : Nat) (h0 : 0 < n) (hn : n ≤ 1000) :
    Calls Try.prog 70 #[.slice none 0 0, .int .i64 n] w fun e w' => ∃ v', e = .returned v' ∧ OwnB w' w.heap.size v' [] ∧ Below w.heap.size w w' := by
  have z0 : (0 : Int) < (n : Int) := by omega
  have z1 : (0 : Int) ≤ (n : Int) := by omega
  obtain ⟨i, hi, hz, hsz, hby⟩ := info_parts Try.infoB
  have hG0 := grownCap_ge w n 0 34
  have hG1 := grownCap_le_maxLen w n 0 34 (by unfold maxLen; omega)
  have hrz := fun ty => Lib.run_append_nil_zeros (P := Try.prog) w 28 3 ty 34 i (.agg #[.int .i64 0, .int .i64 0, .bool false]) .i64 .i64 Try.underlying28 Try.underlying3 hi hz n h0 (by omega) (by omega) (by rw [hby]; omega)
  generalize grownCap w n 0 34 = G at *
  have zG : (n : Int) ≤ (G : Int) := by omega
  have zG0 : (0 : Int) ≤ (G : Int) := by omega
  have HRZ := Lib.hid hrz
  clear hi hz hrz
  go_enter Try.func70, Try.ntmps70
  go_wp2_with (at_builtin; refine Lib.wpList_append_run _ rfl _ _ _ _ rfl _ _ rfl rfl _ _ (HRZ.out _) ?_)
  go_ret
  refine ⟨_, rfl, ⟨rfl, .inr ⟨w.heap.size, G, _, rfl, Nat.le_refl _, heap_new' rfl, Nat.zero_le _, hG1, ?_, rfl⟩⟩, ?_⟩
  · simp [size_zeroCells, Value.cells]; omega
  · exact Gr.below (by repeat (first | exact Gr.refl _ | refine Gr.alloc ?_ _ | refine Gr.trans ?_ (by assumption) | refine Gr.drew ?_ | refine Gr.drewN ?_ _ | refine Gr.grow ?_ _ | refine Gr.setCell ?_ (by (try simp); (try omega)) _))
set_option maxRecDepth 100000 in
set_option maxHeartbeats 1600000 in
theorem Try.growB0 (w : World) :
    Calls Try.prog 70 #[.slice none 0 0, .int .i64 0] w fun e w' => ∃ v', e = .returned v' ∧ OwnB w' w.heap.size v' [] ∧ Below w.heap.size w w' := by
  go_enter Try.func70, Try.ntmps70
  go_wp2
  go_ret
  exact ⟨_, rfl, OwnE.nil _ _ _ _ _, Gr.below (by repeat (first | exact Gr.refl _ | refine Gr.alloc ?_ _ | refine Gr.trans ?_ (by assumption) | refine Gr.drew ?_ | refine Gr.drewN ?_ _ | refine Gr.grow ?_ _ | refine Gr.setCell ?_ (by (try simp); (try omega)) _))⟩
theorem Try.growBn (w : World) (n : Nat) (hn : n ≤ 1000) :
    Calls Try.prog 70 #[.slice none 0 0, .int .i64 n] w fun e w' => ∃ v', e = .returned v' ∧ OwnB w' w.heap.size v' [] ∧ Below w.heap.size w w' := by
  rcases Nat.eq_zero_or_pos n with e | e
  · subst e; exact Try.growB0 w
  · exact Try.growB w n e hn
set_option maxRecDepth 100000 in
set_option maxHeartbeats 1600000 in
theorem Try.concatB (w : World) (b : Nat) (a1 a2 : Addr) (m1 c1 m2 c2 : Nat) (q1 q2 : List Blk) (h1 : q1.length = m1) (h2 : q2.length = m2) (hl1 : m1 ≤ 100) (hl2 : m2 ≤ 100)
    (hc0 : w.cell? ⟨b, 0, none⟩ = some (.slice (some a1) m1 c1)) (hc1 : w.cell? ⟨b, 1, none⟩ = some (.slice (some a2) m2 c2))
    (hq1 : ∀ j u, (ecs bcs q1)[j]? = some u → w.cell? (a1.add j) = some u) (hq2 : ∀ j u, (ecs bcs q2)[j]? = some u → w.cell? (a2.add j) = some u) :
    Calls Try.prog 57 #[.slice (some ⟨b, 0, none⟩) 2 2] w fun e w' => ∃ v', e = .returned v' ∧ OwnB w' w.heap.size v' (q1 ++ q2) ∧ Below w.heap.size w w' := by
  have HQ1 := Lib.hid hq1
  have HQ2 := Lib.hid hq2
  have H1 := Lib.hid h1
  have H2 := Lib.hid h2
  have z1 : (0 : Int) ≤ (m1 : Int) := by omega
  have z2 : (0 : Int) ≤ (m2 : Int) := by omega
  have z3 : (0 : Int) ≤ (m1 : Int) + (m2 : Int) := by omega
  have HG := Lib.hid (fun (W : World) => (by have q := Try.growBn W (m1 + m2) (by omega); rwa [Int.natCast_add] at q : Calls Try.prog 70 #[.slice none 0 0, .int .i64 ((m1 : Int) + (m2 : Int))] W fun e w' => ∃ v', e = .returned v' ∧ OwnB w' W.heap.size v' [] ∧ Below W.heap.size W w'))
  clear hq1 hq2 h1 h2
  go_enter Try.func57, Try.ntmps57
  go_wp2
  refine wp_loop_rounds 3 ?_
  rw [rounds_succ]
  go_wp2
  rw [rounds_succ]
  go_wp2
  rw [rounds_succ]
  go_wp2_with (first | (go_at_call 70; refine (HG.out _).mono ?_; rintro e w1 ⟨v1, rfl, ho1, hb1⟩))
  have HO1 := Lib.hid ho1
  have HB1 := Lib.hid hb1
  have k0 := cell_k2 hb1 hc0
  have k1 := cell_k2 hb1 hc1
  clear ho1 hb1
  refine wp_loop_rounds 3 ?_
  rw [rounds_succ]
  go_wp2_with (at_builtin; refine wpList_appE bcs_len bcs_one rfl _ _ 28 rfl 34 Try.underlying28 Try.infoB rfl (by decide) (by decide) w.heap.size _ _ rfl HO1.out a1 m1 c1 q1 rfl H1.out (fun j u hu => cell_k2 HB1.out (HQ1.out j u hu)) (by simp) (by have := H1.out; omega) HB1.out.size ?_; intro v2 w2 ho2 hb2 _ _)
  have HO2 := Lib.hid ho2
  have HB2 := Lib.hid (HB1.out.trans hb2)
  have l0 := cell_k2 HB2.out hc0
  have l1 := cell_k2 HB2.out hc1
  clear ho2 hb2
  rw [rounds_succ]
  go_wp2_with (at_builtin; refine wpList_appE bcs_len bcs_one rfl _ _ 28 rfl 34 Try.underlying28 Try.infoB rfl (by decide) (by decide) w.heap.size _ _ rfl HO2.out a2 m2 c2 q2 rfl H2.out (fun j u hu => cell_k2 HB2.out (HQ2.out j u hu)) (by have := H1.out; simp; omega) (by have := H2.out; omega) HB2.out.size ?_; intro v3 w3 ho3 hb3 _ _)
  rw [rounds_succ]
  go_wp2
  go_ret
  exact ⟨_, rfl, by simpa using ho3, HB2.out.trans hb3⟩
end Go.Proofs
