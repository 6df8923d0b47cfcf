/-
  Contracts of chapter 2: one of a list of plates is asked for; the room behind it; old plates.
-/
import Derived.Test.YtcmlojidcpomjaaDoorPlG
namespace Go.Proofs
open Go.RowKit Pl
set_option linter.unusedVariables false
set_option linter.unusedSimpArgs false
instance (ps : List Pi2) : Decidable (Ok ps) := by unfold Ok Up; infer_instance
def okB (ps : List Pi2) : Bool := decide (Ok ps)
theorem okB_iff (ps : List Pi2) : okB ps = true ↔ Ok ps := decide_eq_true_iff
theorem okB_i (ps : List Pi2) (v : Bool) (h : okB ps = v) : v = true ↔ Ok ps := by rw [← h]; exact okB_iff ps
def askB (ps : List Pi2) (k : Int) : Bool := okB ps && inn k 0 ((ps.length : Int) - 1)
theorem askB_t {ps : List Pi2} {k : Int} (h : askB ps k = true) : Ok ps ∧ ∃ m : Nat, k = m ∧ m < ps.length := by
  obtain ⟨h1, h2⟩ : okB ps = true ∧ inn k 0 ((ps.length : Int) - 1) = true := by simpa [askB] using h
  obtain ⟨a, b⟩ := inn_e h2
  exact ⟨(okB_iff ps).1 h1, k.toNat, by omega, by omega⟩
theorem OwnP.eta {T : TypeId} {w : World} {B : Nat} {v : Value} {ps : List Pi2} (h : OwnP T w B v ps) : ∃ A c, v = .slice A ps.length c ∧ OwnP T w B (.slice A ps.length c) ps := by
  obtain ⟨A, c, rfl⟩ := h.slice
  exact ⟨A, c, rfl, h⟩
end Go.Proofs
