/-
  Contracts of chapter 5: people told from the last house on (both sides).
-/
import Derived.Test.YtkhjjafeoijaaaaMdN
import Derived.Sort.OwnSortedInts
namespace Go.Proofs
open Go.RowKit Go.Sort
set_option linter.unusedVariables false
set_option linter.unusedSimpArgs false
def mirL (xs : List Int) : List Int := tbl (fun j => gx xs (xs.length - 1 - j)) xs.length
theorem mirL_rev (xs : List Int) : xs.reverse = mirL xs := by
  refine List.ext_getElem (by simp [mirL, tbl]) fun i h1 h2 => ?_
  have h1' : i < xs.length := by simpa using h1
  have h3 : xs.length - 1 - i < xs.length := by omega
  simp [mirL, tbl, gx, List.getD, h3]
end Go.Proofs
