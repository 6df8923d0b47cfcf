/-
  Contracts of chapter 5: the least longest walk with so many boxes (both sides); sort.Search.
-/
import Derived.Test.YtkhjjafeoijaaaaMdR
namespace Go.Proofs
open Go.RowKit
set_option linter.unusedVariables false
set_option linter.unusedSimpArgs false
def BRelM (n l : Int) (w : World) (a b : Value) (wr : World) : Prop := Gr w wr ∧ ∃ lo hi : Int, 0 ≤ lo ∧ lo ≤ l ∧ l ≤ hi ∧ hi ≤ n ∧ a = .int .i64 lo ∧ b = .int .i64 hi
def LeastF (xs : List Int) (n : Int) (L : Nat) : Prop := L ≤ 30 ∧ ndI xs (L : Int) ≤ n ∧ ∀ i : Nat, i < L → n < ndI xs (i : Int)
theorem leastF_ex {xs : List Int} {n : Int} (h : ManyP xs n) : ∃ L, LeastF xs n L := by
  have h30 : ndI xs ((30 : Nat) : Int) ≤ n := by have := ndI_one xs h.1.1.2; have := h.2.1; have e : ((30 : Nat) : Int) = 30 := rfl; rw [e]; omega
  have key : ∀ m : Nat, m ≤ 30 → (∃ L, LeastF xs n L) ∨ ∀ i : Nat, i < m → n < ndI xs (i : Int) := by
    intro m
    induction m with
    | zero => intro _; right; intro i hi; omega
    | succ m ih =>
      intro hm
      rcases ih (by omega) with q | q
      · exact .inl q
      · by_cases c : ndI xs (m : Int) ≤ n
        · exact .inl ⟨m, by omega, c, q⟩
        · right
          intro i hi
          rcases Nat.lt_or_eq_of_le (Nat.le_of_lt_succ hi) with d | d
          · exact q i d
          · subst d; omega
  rcases key 30 (Nat.le_refl _) with q | q
  · exact q
  · exact ⟨30, Nat.le_refl _, h30, q⟩
theorem LeastF.iff {xs : List Int} {n : Int} {L : Nat} (h : LeastF xs n L) (i : Nat) : ndI xs (i : Int) ≤ n ↔ L ≤ i := by
  constructor
  · intro c
    rcases Nat.lt_or_ge i L with d | d
    · have := h.2.2 i d; omega
    · exact d
  · intro c
    have := ndI_mono xs (L : Int) (i : Int) (by omega) (by omega)
    have := h.2.1
    omega
end Go.Proofs
