/-
  Cities: the contracts of the law's own helpers (copy, count, same, marks, marks held).
-/
import Derived.Test.YtjlbbkbcapleiaaDoorBrA
import Derived.Test.YtjlbbkbcapleiaaDoorInn
namespace Go.Proofs
open Go.RowKit Av
set_option linter.unusedVariables false
set_option linter.unusedSimpArgs false
end Go.Proofs
