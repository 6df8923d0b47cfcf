/-
  Contracts of chapter 2: slices.Grow of no plates, slices.Concat of two lists of plates.
-/
import Derived.Test.YtcmlojidcpomjaaPlQC
import Derived.Lib.AppendZerosOnto
import Derived.OwnWalk
namespace Go.Proofs
open Go.RowKit Pl
set_option linter.unusedVariables false
set_option linter.unusedSimpArgs false
end Go.Proofs
