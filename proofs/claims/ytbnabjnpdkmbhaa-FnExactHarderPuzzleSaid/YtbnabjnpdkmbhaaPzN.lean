/-
  Chapter 9: clues without one, both sides (slices.Grow, Concat, Clone of clues; impl.without, spec.pzWithout).
-/
import Derived.Test.YtbnabjnpdkmbhaaPzJ
import Derived.Lib.AppendZerosOnto
import Derived.OwnWalk
import Derived.Deep.RegionHeld3
namespace Go.Proofs
open Go.RowKit
set_option linter.unusedVariables false
set_option linter.unusedSimpArgs false
/-- some clues of a row, one behind the other, can be read where they lie -/
theorem clu_reads {w : World} {g o : Nat} {cs : List Clu} (hc : ∀ j, j < cs.length → w.cell? ⟨g, o + j * 3, none⟩ = some (.int .i64 (cs.getD j cl0).1) ∧ w.cell? ⟨g, o + j * 3 + 1, none⟩ = some (.int .i64 (cs.getD j cl0).2.1) ∧ w.cell? ⟨g, o + j * 3 + 2, none⟩ = some (.int .i64 (cs.getD j cl0).2.2))
    (m l : Nat) (hm : m + l ≤ cs.length) : ∀ j u, (ecs ccs ((cs.drop m).take l))[j]? = some u → w.cell? ((⟨g, o + m * 3, none⟩ : Addr).add j) = some u := by
  intro j u hu
  have hlen : ((cs.drop m).take l).length = l := by simp; omega
  have hj : j < l * 3 := by
    have := (List.getElem?_eq_some_iff.1 hu).1
    rw [ecs_len ccs_len, hlen] at this
    exact this
  rw [show (⟨g, o + m * 3, none⟩ : Addr).add j = ⟨g, o + m * 3 + j, none⟩ from Addr.add_lit _ _ _]
  have hd : j / 3 < l := by omega
  have ge := ecs_get ccs_len cl0 ((cs.drop m).take l) (j / 3) (j % 3) (by omega) (Nat.mod_lt _ (by decide))
  rw [show j / 3 * 3 + j % 3 = j by omega, hu] at ge
  have hgd : ((cs.drop m).take l).getD (j / 3) cl0 = cs.getD (m + j / 3) cl0 := by
    simp [List.getD, List.getElem?_take, hd, List.getElem?_drop]
  rw [hgd] at ge
  obtain ⟨c0, c1, c2⟩ := hc (m + j / 3) (by omega)
  rcases (show j % 3 = 0 ∨ j % 3 = 1 ∨ j % 3 = 2 by omega) with e | e | e
  · rw [e] at ge; simp [ccs] at ge; rw [ge, show o + m * 3 + j = o + (m + j / 3) * 3 by omega]; exact c0
  · rw [e] at ge; simp [ccs] at ge; rw [ge, show o + m * 3 + j = o + (m + j / 3) * 3 + 1 by omega]; exact c1
  · rw [e] at ge; simp [ccs] at ge; rw [ge, show o + m * 3 + j = o + (m + j / 3) * 3 + 2 by omega]; exact c2
theorem clu_reads_all {w : World} {g o : Nat} {cs : List Clu} (hc : ∀ j, j < cs.length → w.cell? ⟨g, o + j * 3, none⟩ = some (.int .i64 (cs.getD j cl0).1) ∧ w.cell? ⟨g, o + j * 3 + 1, none⟩ = some (.int .i64 (cs.getD j cl0).2.1) ∧ w.cell? ⟨g, o + j * 3 + 2, none⟩ = some (.int .i64 (cs.getD j cl0).2.2)) :
    ∀ j u, (ecs ccs cs)[j]? = some u → w.cell? ((⟨g, o, none⟩ : Addr).add j) = some u := by
  have := clu_reads hc 0 cs.length (by omega)
  simpa using this
set_option maxRecDepth 100000 in
set_option maxHeartbeats 1600000 in
theorem Try.growC (w : World) (n : Nat) (h0 : 0 < n) (hn : n ≤ 1000) :
    Calls Try.prog 109 #[.slice none 0 0, .int .i64 n] w fun e w' => ∃ v', e = .returned v' ∧ OwnC w' w.heap.size v' [] ∧ Below w.heap.size w w' := by
  have z0 : (0 : Int) < (n : Int) := by omega
  have z1 : (0 : Int) ≤ (n : Int) := by omega
  obtain ⟨i, hi, hz, hsz, hby⟩ := info_parts Try.infoC
  have hG0 := grownCap_ge w n 0 29
  have hG1 := grownCap_le_maxLen w n 0 29 (by unfold maxLen; omega)
  have hrz := fun ty => Lib.run_append_nil_zeros (P := Try.prog) w 37 3 ty 29 i (.agg #[.int .i64 0, .int .i64 0, .int .i64 0]) .i64 .i64 Try.underlying37 Try.underlying3 hi hz n h0 (by omega) (by omega) (by rw [hby]; omega)
  generalize grownCap w n 0 29 = G at *
  have zG : (n : Int) ≤ (G : Int) := by omega
  have zG0 : (0 : Int) ≤ (G : Int) := by omega
  have HRZ := Lib.hid hrz
  clear hi hz hrz
  go_enter Try.func109, Try.ntmps109
  go_wp2_with (at_builtin; refine Lib.wpList_append_run _ rfl _ _ _ _ rfl _ _ rfl rfl _ _ (HRZ.out _) ?_)
  go_ret
  refine ⟨_, rfl, ⟨rfl, .inr ⟨w.heap.size, G, _, rfl, Nat.le_refl _, heap_new' rfl, Nat.zero_le _, hG1, ?_, rfl⟩⟩, ?_⟩
  · simp [size_zeroCells, Value.cells]; omega
  · exact Gr.below (by repeat (first | exact Gr.refl _ | refine Gr.alloc ?_ _ | refine Gr.trans ?_ (by assumption) | refine Gr.drew ?_ | refine Gr.drewN ?_ _ | refine Gr.grow ?_ _ | refine Gr.setCell ?_ (by (try simp); (try omega)) _))
set_option maxRecDepth 100000 in
set_option maxHeartbeats 1600000 in
theorem Try.growC0 (w : World) :
    Calls Try.prog 109 #[.slice none 0 0, .int .i64 0] w fun e w' => ∃ v', e = .returned v' ∧ OwnC w' w.heap.size v' [] ∧ Below w.heap.size w w' := by
  go_enter Try.func109, Try.ntmps109
  go_wp2
  go_ret
  exact ⟨_, rfl, OwnE.nil _ _ _ _ _, Gr.below (by repeat (first | exact Gr.refl _ | refine Gr.alloc ?_ _ | refine Gr.trans ?_ (by assumption) | refine Gr.drew ?_ | refine Gr.drewN ?_ _ | refine Gr.grow ?_ _ | refine Gr.setCell ?_ (by (try simp); (try omega)) _))⟩
theorem Try.growCn (w : World) (n : Nat) (hn : n ≤ 1000) :
    Calls Try.prog 109 #[.slice none 0 0, .int .i64 n] w fun e w' => ∃ v', e = .returned v' ∧ OwnC w' w.heap.size v' [] ∧ Below w.heap.size w w' := by
  rcases Nat.eq_zero_or_pos n with e | e
  · subst e; exact Try.growC0 w
  · exact Try.growC w n e hn
set_option maxRecDepth 100000 in
set_option maxHeartbeats 1600000 in
theorem Try.concatC (w : World) (b : Nat) (a1 a2 : Addr) (m1 c1 m2 c2 : Nat) (q1 q2 : List Clu) (h1 : q1.length = m1) (h2 : q2.length = m2) (hl1 : m1 ≤ 100) (hl2 : m2 ≤ 100)
    (hc0 : w.cell? ⟨b, 0, none⟩ = some (.slice (some a1) m1 c1)) (hc1 : w.cell? ⟨b, 1, none⟩ = some (.slice (some a2) m2 c2))
    (hq1 : ∀ j u, (ecs ccs q1)[j]? = some u → w.cell? (a1.add j) = some u) (hq2 : ∀ j u, (ecs ccs q2)[j]? = some u → w.cell? (a2.add j) = some u) :
    Calls Try.prog 99 #[.slice (some ⟨b, 0, none⟩) 2 2] w fun e w' => ∃ v', e = .returned v' ∧ OwnC w' w.heap.size v' (q1 ++ q2) ∧ Below w.heap.size w w' := by
  have HQ1 := Lib.hid hq1
  have HQ2 := Lib.hid hq2
  have H1 := Lib.hid h1
  have H2 := Lib.hid h2
  have z1 : (0 : Int) ≤ (m1 : Int) := by omega
  have z2 : (0 : Int) ≤ (m2 : Int) := by omega
  have z3 : (0 : Int) ≤ (m1 : Int) + (m2 : Int) := by omega
  have HG := Lib.hid (fun (W : World) => (by have q := Try.growCn W (m1 + m2) (by omega); rwa [Int.natCast_add] at q : Calls Try.prog 109 #[.slice none 0 0, .int .i64 ((m1 : Int) + (m2 : Int))] W fun e w' => ∃ v', e = .returned v' ∧ OwnC w' W.heap.size v' [] ∧ Below W.heap.size W w'))
  clear hq1 hq2 h1 h2
  go_enter Try.func99, Try.ntmps99
  go_wp2
  refine wp_loop_rounds 3 ?_
  rw [rounds_succ]
  go_wp2
  rw [rounds_succ]
  go_wp2
  rw [rounds_succ]
  go_wp2_with (first | (go_at_call 109; refine (HG.out _).mono ?_; rintro e w1 ⟨v1, rfl, ho1, hb1⟩))
  have HO1 := Lib.hid ho1
  have HB1 := Lib.hid hb1
  have k0 := cell_k2 hb1 hc0
  have k1 := cell_k2 hb1 hc1
  clear ho1 hb1
  refine wp_loop_rounds 3 ?_
  rw [rounds_succ]
  go_wp2_with (at_builtin; refine wpList_appE ccs_len ccs_one rfl _ _ 37 rfl _ Try.underlying37 Try.infoC rfl (by decide) (by decide) w.heap.size _ _ rfl HO1.out a1 m1 c1 q1 rfl H1.out (fun j u hu => cell_k2 HB1.out (HQ1.out j u hu)) (by simp) (by have := H1.out; omega) HB1.out.size ?_; intro v2 w2 ho2 hb2 _ _)
  have HO2 := Lib.hid ho2
  have HB2 := Lib.hid (HB1.out.trans hb2)
  have l0 := cell_k2 HB2.out hc0
  have l1 := cell_k2 HB2.out hc1
  clear ho2 hb2
  rw [rounds_succ]
  go_wp2_with (at_builtin; refine wpList_appE ccs_len ccs_one rfl _ _ 37 rfl _ Try.underlying37 Try.infoC rfl (by decide) (by decide) w.heap.size _ _ rfl HO2.out a2 m2 c2 q2 rfl H2.out (fun j u hu => cell_k2 HB2.out (HQ2.out j u hu)) (by have := H1.out; simp; omega) (by have := H2.out; omega) HB2.out.size ?_; intro v3 w3 ho3 hb3 _ _)
  rw [rounds_succ]
  go_wp2
  go_ret
  exact ⟨_, rfl, by simpa using ho3, HB2.out.trans hb3⟩
end Go.Proofs
