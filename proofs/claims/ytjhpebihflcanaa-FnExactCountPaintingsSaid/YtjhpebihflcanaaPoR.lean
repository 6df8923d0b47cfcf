/-
  Lists of numbers that rise (as in PoA, over Inn).
-/
import Derived.Test.YtjhpebihflcanaaInn
import Derived.Test.YtjhpebihflcanaaInts3
import Derived.Test.YtjhpebihflcanaaQTail
import Derived.IntWalk
namespace Go.Proofs
open Go.RowKit
set_option linter.unusedVariables false
set_option linter.unusedSimpArgs false
def stepR (xs : List Int) (lo hi : Int) (j : Nat) : Prop := (lo ≤ xs.getD j 0 ∧ xs.getD j 0 ≤ hi) ∧ (0 < j → xs.getD (j - 1) 0 < xs.getD j 0)
def RisI (xs : List Int) (lo hi : Int) : Prop := ∀ j, j < xs.length → stepR xs lo hi j
theorem ris_snoc {xs : List Int} {lo hi : Int} {k : Nat} (h : ∀ j, j < k → stepR xs lo hi j) (s : stepR xs lo hi k) : ∀ j, j < k + 1 → stepR xs lo hi j := fun j hj => by
  rcases Nat.lt_or_eq_of_le (Nat.le_of_lt_succ hj) with c | c
  · exact h j c
  · rw [c]; exact s
theorem ris_false {xs : List Int} {lo hi : Int} {b : Bool} {k : Nat} (hb : b = true ↔ RisI xs lo hi) (hk : k < xs.length) (h : ¬ stepR xs lo hi k) : b = false := by
  cases q : b
  · rfl
  · exact absurd (hb.1 q k hk) h
def RRel (xs : List Int) (lo hi : Int) (w : World) (i : Value) (wr : World) : Prop := Gr w wr ∧ ∃ k : Nat, k ≤ xs.length ∧ i = .int .i64 k ∧ ∀ j, j < k → stepR xs lo hi j
end Go.Proofs
