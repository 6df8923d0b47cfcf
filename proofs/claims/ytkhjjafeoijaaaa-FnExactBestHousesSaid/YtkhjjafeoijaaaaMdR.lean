/-
  Contracts of chapter 5: fewest boxes for a longest walk (both sides), whether there can be so many boxes.
-/
import Derived.Test.YtkhjjafeoijaaaaMdQ
namespace Go.Proofs
open Go.RowKit
set_option linter.unusedVariables false
set_option linter.unusedSimpArgs false
def FewP (xs : List Int) (far : Int) : Prop := GoodP xs ∧ (0 ≤ far ∧ far ≤ 60) ∧ ndI xs far ≤ 5
def ManyP (xs : List Int) (n : Int) : Prop := GoodP xs ∧ 1 ≤ n ∧ n ≤ 5 ∧ n ≤ (xs.length : Int)
end Go.Proofs
