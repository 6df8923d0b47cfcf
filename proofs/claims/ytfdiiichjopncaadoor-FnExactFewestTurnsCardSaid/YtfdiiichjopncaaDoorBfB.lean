/-
  Searches in a city: what is looked up in the map of what is reached; the map at the beginning; the signs of the four directions.
-/
import Derived.Test.YtfdiiichjopncaaDoorQuA
namespace Go.Proofs
open Go.RowKit Av Gm Go.Maps
set_option linter.unusedVariables false
set_option linter.unusedSimpArgs false
theorem Tryd.zeroReach (w : World) : (zeroValue 38).run Tryd.prog w = .ok (.agg #[.int .i64 0, .int .i64 0]) w := by kernel_rfl
theorem agg_inj {a b c d : Int} (h : (DataW.agg [.lit (.int .i64 a), .lit (.int .i64 b)] : DataW Unit) = .agg [.lit (.int .i64 c), .lit (.int .i64 d)]) : a = c ∧ b = d := by
  simpa using h
section
variable {Wn Hn n b nn : Nat} {D : DataW Unit} {s : St} {w : World}
theorem Tryd.lookF (hW : Wn ≤ 8) (hH : Hn ≤ 8) (hown : w.ownsMap Tryd.prog 47 rElem b nn D) (h : MapIs Hn (Wn * Hn) D s) (hn : n < Wn * Hn) (h0 : 0 ≤ f s n) (W : World) (g' : Gr w W) :
    (Instr.lookup 50 (.map (some b)) (.agg #[.int .i64 (crn Hn n).1, .int .i64 (crn Hn n).2]) false).run Tryd.prog W = .ok (.agg #[.int .i64 (f s n), .int .i64 (g s n)]) W := by
  have hown' : W.ownsMap Tryd.prog 47 rElem b nn D := hown.kept ⟨g'.below.os, g'.below.tape, g'.below.output, g'.below.size, fun k hk _ => g'.below.block k hk⟩ (row := none) (by simp)
  obtain ⟨v, ps, hrun, hv⟩ := hown'.lookup Tryd.cLaw Tryd.underlying50 (Tryd.zeroReach W) (rElem_mk 0 0) (Tryd.keyOfC (crn Hn n) (crn_wf hW hH hn))
  obtain ⟨p, q, rfl, e⟩ := rElem_inv hv
  rw [h.val n hn h0] at e
  obtain ⟨rfl, rfl⟩ := agg_inj e
  exact hrun
theorem Tryd.lookOk (hW : Wn ≤ 8) (hH : Hn ≤ 8) (hown : w.ownsMap Tryd.prog 47 rElem b nn D) (h : MapIs Hn (Wn * Hn) D s) (hn : n < Wn * Hn) (W : World) (g' : Gr w W) :
    (Instr.lookup 50 (.map (some b)) (.agg #[.int .i64 (crn Hn n).1, .int .i64 (crn Hn n).2]) true).run Tryd.prog W =
      .ok (.tuple #[.agg #[.int .i64 (if 0 ≤ f s n then f s n else 0), .int .i64 (if 0 ≤ f s n then g s n else 0)], .bool (decide (0 ≤ f s n))]) W := by
  have hown' : W.ownsMap Tryd.prog 47 rElem b nn D := hown.kept ⟨g'.below.os, g'.below.tape, g'.below.output, g'.below.size, fun k hk _ => g'.below.block k hk⟩ (row := none) (by simp)
  obtain ⟨v, ps, hrun, hv⟩ := hown'.look_ok Tryd.cLaw Tryd.underlying50 (Tryd.zeroReach W) (rElem_mk 0 0) (Tryd.keyOfC (crn Hn n) (crn_wf hW hH hn))
  obtain ⟨p, q, rfl, e⟩ := rElem_inv hv
  rw [h.has n hn] at hrun
  by_cases h0 : 0 ≤ f s n
  · rw [h.val n hn h0] at e
    obtain ⟨rfl, rfl⟩ := agg_inj e
    rw [if_pos h0, if_pos h0]
    exact hrun
  · have hh := h.has n hn
    rw [decide_eq_false h0] at hh
    rw [atKey_of_not_has hh] at e
    obtain ⟨rfl, rfl⟩ := agg_inj e
    rw [if_neg h0, if_neg h0]
    exact hrun
theorem Tryd.mapStart {s0 : Nat} (hW : Wn ≤ 8) (hH : Hn ≤ 8) (hs : s0 < Wn * Hn) : MapIs Hn (Wn * Hn) ((DataW.map [] : DataW Unit).put (klc (crn Hn s0)) (.agg [.lit (.int .i64 0), .lit (.int .i64 1)])) (Gm.start (Wn * Hn) s0) := by
  obtain ⟨hI, hf, hg⟩ := start_inv hs
  have hkey : WideAt.IsKeyLit (klc (crn Hn s0)) := trivial
  have hother : ∀ n, n < Wn * Hn → n ≠ s0 → f (Gm.start (Wn * Hn) s0) n = -1 := fun n hn hne => by
    unfold f Gm.start
    simp only
    rw [getD_set _ _ _ _ _ (by simpa using hs), if_neg (Ne.symm hne)]
    simp [List.getD, hn]
  have other : ∀ n, n < Wn * Hn → n ≠ s0 → klc (crn Hn n) ≠ klc (crn Hn s0) := fun n hn hne e => hne (crn_inj (Tryd.klc_inj (crn_wf hW hH hn) (crn_wf hW hH hs) e))
  refine ⟨?_, fun n hn => ?_, fun n hn h0 z => ?_, ?_⟩
  · refine ⟨_, rfl, ?_⟩
    simp [DataW.insert]
  · by_cases e : n = s0
    · subst e; rw [has_put_same isMap_empty hkey, hf]; rfl
    · rw [has_put_other (other n hn e), hother n hn e]; rfl
  · by_cases e : n = s0
    · subst e; rw [atKey_put_same isMap_empty hkey, hf, hg]
    · rw [hother n hn e] at h0; omega
  · rw [size_put tidy_empty]; rfl
end
/-- the signs -/
def sgB : ByteArray := ⟨#[101, 110, 115, 119]⟩
theorem sgB_size : sgB.size = 4 := rfl
theorem sgB_at (j : Fin 4) : (((sgB[j.1]'(by rw [sgB_size]; exact j.2)).toNat : Nat) : Int) = sgn j.1 := by revert j; decide
theorem sgB_lt (j : Fin 4) : (sgB[j.1]'(by rw [sgB_size]; exact j.2)).toNat < 128 := by revert j; decide
def itAt (b : Nat) (w : World) : Nat := match w.heap[b]? with | some (.stringIter _ p) => p | _ => 0
theorem itAt_of {w : World} {b p : Nat} {s : ByteArray} (h : w.heap[b]? = some (.stringIter s p)) : itAt b w = p := by unfold itAt; rw [h]
end Go.Proofs
