/-
  Contracts of small words: numbers of houses.
-/
import Derived.Test.YtjhpebihflcanaaInn
namespace Go.Proofs
open Go.RowKit
set_option linter.unusedVariables false
set_option linter.unusedSimpArgs false
end Go.Proofs
