/-
  Chapter 6: contracts of what ways are, both functions; the laws' small words of ways; the city of ways.
-/
import Derived.Test.YtkhjjafeoijaaabOwB
namespace Go.Proofs
open Go.RowKit
set_option linter.unusedVariables false
set_option linter.unusedSimpArgs false
end Go.Proofs
