/-
  Chapters 5 and 7, the program: whether a list is a strictly increasing one of some of so many houses.
-/
import Derived.Test.YtjhpebihflcanaaPoR
namespace Go.Proofs
open Go.RowKit
set_option linter.unusedVariables false
set_option linter.unusedSimpArgs false
def HRelH (xs : List Int) (hi : Int) (w : World) (i : Value) (wr : World) : Prop := Gr w wr ∧ ∃ k : Nat, k ≤ xs.length ∧ i = .int .i64 k ∧ ∀ j, j < k → stepR xs 0 hi j
end Go.Proofs
