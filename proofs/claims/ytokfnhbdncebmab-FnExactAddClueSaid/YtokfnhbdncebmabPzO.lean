/-
  Chapter 9: clues without one, both sides (impl.without, spec.pzWithout).
-/
import Derived.Test.YtokfnhbdncebmabPzN
namespace Go.Proofs
open Go.RowKit
set_option linter.unusedVariables false
set_option linter.unusedSimpArgs false
end Go.Proofs
