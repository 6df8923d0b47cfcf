/-
  Cities: the contracts of the law's own helpers (copy, count, same, marks, marks held).
-/
import Derived.Test.YtfdiiichjopncaaDoorBrA
import Derived.Test.YtfdiiichjopncaaDoorInn
namespace Go.Proofs
open Go.RowKit Av
set_option linter.unusedVariables false
set_option linter.unusedSimpArgs false
end Go.Proofs
