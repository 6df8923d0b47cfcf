/-
  Plain mathematics of a search with up to sixteen directions: who is reached within one step more. No program here.
-/
import Derived.Test.YtfdiiichjopncaaDoorGrLs
import Derived.Test.YtfdiiichjopncaaDoorGsMath
namespace Go.Proofs.Gs
open Go Go.Proofs.Gm
set_option linter.unusedVariables false
set_option linter.unusedSimpArgs false
theorem Dist.lay {nb : Nat → Nat → Option Nat} {N s0 : Nat} {F : Nat → Int} (hF : Dist nb N s0 F) {v : Nat} (hv : v < N) (t : Nat) :
    (0 ≤ F v ∧ F v ≤ (t + 1 : Nat)) ↔ (0 ≤ F v ∧ F v ≤ t) ∨ ∃ u i, u < N ∧ i < 16 ∧ 0 ≤ F u ∧ F u ≤ t ∧ nb u i = some v := by
  constructor
  · rintro ⟨h0, h1⟩
    by_cases h : F v ≤ t
    · exact .inl ⟨h0, h⟩
    · obtain ⟨u, i, hu, hi, e, f⟩ := hF.pr v hv (by omega)
      exact .inr ⟨u, i, hu, hi, by omega, by omega, e⟩
  · rintro (⟨h0, h1⟩ | ⟨u, i, hu, hi, h0, h1, e⟩)
    · exact ⟨h0, by omega⟩
    · obtain ⟨a, b⟩ := hF.re u i v hu hi h0 e
      exact ⟨a, by omega⟩
/-- told by lists -/
theorem Dist.layL {ls : Nat → List Nat} {N s0 : Nat} {F : Nat → Int} (hF : Dist (nbL ls) N s0 F) (hl : ∀ u, (ls u).length ≤ 16) {v : Nat} (hv : v < N) (t : Nat) :
    (0 ≤ F v ∧ F v ≤ (t + 1 : Nat)) ↔ (0 ≤ F v ∧ F v ≤ t) ∨ ∃ u, u < N ∧ 0 ≤ F u ∧ F u ≤ t ∧ v ∈ ls u := by
  rw [hF.lay hv t]
  constructor
  · rintro (h | ⟨u, i, hu, hi, h0, h1, e⟩)
    · exact .inl h
    · exact .inr ⟨u, hu, h0, h1, List.mem_of_getElem? e⟩
  · rintro (h | ⟨u, hu, h0, h1, e⟩)
    · exact .inl h
    · obtain ⟨i, hi, e'⟩ := List.mem_iff_getElem.1 e
      exact .inr ⟨u, i, hu, by have := hl u; omega, h0, h1, by unfold nbL; rw [List.getElem?_eq_getElem hi, e']⟩
end Go.Proofs.Gs
