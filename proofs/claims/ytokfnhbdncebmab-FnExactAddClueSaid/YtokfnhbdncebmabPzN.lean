/-
  Chapter 9: clues without one, both sides (slices.Grow, Concat, Clone of clues; impl.without, spec.pzWithout).
-/
import Derived.Test.YtokfnhbdncebmabPzJ
import Derived.Lib.AppendZerosOnto
import Derived.OwnWalk
import Derived.Deep.RegionHeld3
namespace Go.Proofs
open Go.RowKit
set_option linter.unusedVariables false
set_option linter.unusedSimpArgs false
/-- some clues of a row, one behind the other, can be read where they lie -/
theorem clu_reads {w : World} {g o : Nat} {cs : List Clu} (hc : ∀ j, j < cs.length → w.cell? ⟨g, o + j * 3, none⟩ = some (.int .i64 (cs.getD j cl0).1) ∧ w.cell? ⟨g, o + j * 3 + 1, none⟩ = some (.int .i64 (cs.getD j cl0).2.1) ∧ w.cell? ⟨g, o + j * 3 + 2, none⟩ = some (.int .i64 (cs.getD j cl0).2.2))
    (m l : Nat) (hm : m + l ≤ cs.length) : ∀ j u, (ecs ccs ((cs.drop m).take l))[j]? = some u → w.cell? ((⟨g, o + m * 3, none⟩ : Addr).add j) = some u := by
  intro j u hu
  have hlen : ((cs.drop m).take l).length = l := by simp; omega
  have hj : j < l * 3 := by
    have := (List.getElem?_eq_some_iff.1 hu).1
    rw [ecs_len ccs_len, hlen] at this
    exact this
  rw [show (⟨g, o + m * 3, none⟩ : Addr).add j = ⟨g, o + m * 3 + j, none⟩ from Addr.add_lit _ _ _]
  have hd : j / 3 < l := by omega
  have ge := ecs_get ccs_len cl0 ((cs.drop m).take l) (j / 3) (j % 3) (by omega) (Nat.mod_lt _ (by decide))
  rw [show j / 3 * 3 + j % 3 = j by omega, hu] at ge
  have hgd : ((cs.drop m).take l).getD (j / 3) cl0 = cs.getD (m + j / 3) cl0 := by
    simp [List.getD, List.getElem?_take, hd, List.getElem?_drop]
  rw [hgd] at ge
  obtain ⟨c0, c1, c2⟩ := hc (m + j / 3) (by omega)
  rcases (show j % 3 = 0 ∨ j % 3 = 1 ∨ j % 3 = 2 by omega) with e | e | e
  · rw [e] at ge; simp [ccs] at ge; rw [ge, show o + m * 3 + j = o + (m + j / 3) * 3 by omega]; exact c0
  · rw [e] at ge; simp [ccs] at ge; rw [ge, show o + m * 3 + j = o + (m + j / 3) * 3 + 1 by omega]; exact c1
  · rw [e] at ge; simp [ccs] at ge; rw [ge, show o + m * 3 + j = o + (m + j / 3) * 3 + 2 by omega]; exact c2
theorem clu_reads_all {w : World} {g o : Nat} {cs : List Clu} (hc : ∀ j, j < cs.length → w.cell? ⟨g, o + j * 3, none⟩ = some (.int .i64 (cs.getD j cl0).1) ∧ w.cell? ⟨g, o + j * 3 + 1, none⟩ = some (.int .i64 (cs.getD j cl0).2.1) ∧ w.cell? ⟨g, o + j * 3 + 2, none⟩ = some (.int .i64 (cs.getD j cl0).2.2)) :
    ∀ j u, (ecs ccs cs)[j]? = some u → w.cell? ((⟨g, o, none⟩ : Addr).add j) = some u := by
  have := clu_reads hc 0 cs.length (by omega)
  simpa using this
end Go.Proofs
