/-
  Contracts of chapter 4: the distance of two corners, and how many shortest ways there are (the program).
-/
import Derived.Test.YtnpkhoiblemodaaAvK
namespace Go.Proofs
open Go.RowKit Av Gm Go.Maps
set_option linter.unusedVariables false
set_option linter.unusedSimpArgs false
end Go.Proofs
