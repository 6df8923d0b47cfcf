/-
  Chapter 9: slices.IndexFunc and ContainsFunc over clues with whatever closure; the houses that fit all clues, both sides (impl.leftBy, spec.pzAll).
-/
import Derived.Test.YtokfnhbdncebmabPzF
import Derived.Test.YtokfnhbdncebmabInts2
namespace Go.Proofs
open Go.RowKit
set_option linter.unusedVariables false
set_option linter.unusedSimpArgs false
theorem exbZ (p : Prop) : ∃ b : Bool, b = true ↔ p := ⟨@decide p (Classical.propDecidable p), @decide_eq_true_iff p (Classical.propDecidable p)⟩
theorem not_trueZ {b : Bool} {p : Prop} (hb : b = true ↔ p) (h : ¬ p) : b = false := by
  cases q : b
  · rfl
  · exact absurd (hb.1 q) h
def IRelC (p : Clu → Bool) (cs : List Clu) (w : World) (i : Value) (wr : World) : Prop := Gr w wr ∧ ∃ k : Nat, k ≤ cs.length ∧ i = .int .i64 k ∧ ∀ j, j < k → p (cs.getD j cl0) = false
theorem fst_exC (p : Nat → Bool) (n : Nat) : ∃ r : Int, ((r = -1 ∧ ∀ k, k < n → p k = false) ∨ ∃ k, k < n ∧ r = k ∧ p k = true ∧ ∀ j, j < k → p j = false) := by
  induction n with
  | zero => exact ⟨-1, .inl ⟨rfl, fun k hk => absurd hk (Nat.not_lt_zero _)⟩⟩
  | succ n ih =>
    obtain ⟨r, h | ⟨k, hk, e, a, b⟩⟩ := ih
    · cases hp : p n
      · exact ⟨-1, .inl ⟨rfl, all_snocC h.2 hp⟩⟩
      · exact ⟨n, .inr ⟨n, by omega, rfl, hp, h.2⟩⟩
    · exact ⟨r, .inr ⟨k, by omega, e, a, b⟩⟩
end Go.Proofs
