/-
  Plain mathematics of a search: how many vertices are found. No program here.
-/
import Derived.Test.YtmklniikhdfaiaaDoorGrMath
namespace Go.Proofs.Gm
open Go
set_option linter.unusedVariables false
set_option linter.unusedSimpArgs false
theorem far_map {N : Nat} {s : St} (h : s.far.length = N) : s.far = (List.range N).map (f s) := by
  apply List.ext_getElem
  · simp [h]
  · intro i h1 h2
    simp [f, List.getD, h1]
/-- so many are found as stand in the queue -/
theorem cnt_q {N : Nat} {s : St} (h : Inv N s) : (s.far.filter (fun d => decide (0 ≤ d))).length = s.q.length := by
  rw [far_map h.fl, List.filter_map, List.length_map]
  refine List.Perm.length_eq ((List.perm_ext_iff_of_nodup (List.Pairwise.filter _ List.nodup_range) h.nd).2 fun a => ?_)
  simp only [List.mem_filter, List.mem_range, Function.comp, decide_eq_true_eq]
  constructor
  · rintro ⟨h1, h2⟩
    exact (h.fq a h1).1 h2
  · intro hq
    have := h.qn a hq
    exact ⟨this, (h.fq a this).2 hq⟩
theorem q_le {N : Nat} {s : St} (h : Inv N s) : s.q.length ≤ N := h.len
/-- all are found -/
theorem all_q {N : Nat} {s : St} (h : Inv N s) : (-1 : Int) ∈ s.far ↔ s.q.length ≠ N := by
  constructor
  · intro hm e
    obtain ⟨i, hi, e1⟩ := List.mem_iff_getElem.1 hm
    have h1 : (s.far.filter (fun d => decide (0 ≤ d))).length = s.far.length := by rw [cnt_q h, e, h.fl]
    have h2 := List.length_filter_eq_length_iff.1 h1 _ hm
    simp at h2
  · intro hne
    refine Decidable.byContradiction fun hm => hne ?_
    rw [← cnt_q h, ← h.fl]
    refine List.length_filter_eq_length_iff.2 fun d hd => ?_
    obtain ⟨i, hi, e1⟩ := List.mem_iff_getElem.1 hd
    have := h.fm i (by rw [← h.fl]; exact hi)
    have e2 : f s i = d := by simp [f, List.getD, hi, e1]
    rw [e2] at this
    have hd1 : d ≠ -1 := fun e => hm (e ▸ hd)
    simp
    omega
end Go.Proofs.Gm
