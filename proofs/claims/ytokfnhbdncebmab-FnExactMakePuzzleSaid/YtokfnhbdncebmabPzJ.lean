/-
  Chapter 9: solutions, both sides (Solutions, CountSolutions, FirstSolution, RangeOfSolutions, IsSolved; DoesFit).
-/
import Derived.Test.YtokfnhbdncebmabPzI
namespace Go.Proofs
open Go.RowKit
set_option linter.unusedVariables false
set_option linter.unusedSimpArgs false
def solB (k p : Int) (cs : List Clu) : Bool := pgood k p cs
def solL (k p : Int) (cs : List Clu) : List Int := if pgood k p cs then pall k p cs else []
theorem solL_len (k p : Int) (cs : List Clu) : (solL k p cs).length ≤ 40 := by
  unfold solL
  cases h : pgood k p cs
  · simp
  · rw [if_pos rfl]; exact pall_len (pgood_lt h).1 cs
theorem solL_no {k p : Int} {cs : List Clu} (h : pgood k p cs = false) : solL k p cs = [] := by simp [solL, h]
theorem solL_yes {k p : Int} {cs : List Clu} (h : pgood k p cs = true) : solL k p cs = pall k p cs := by simp [solL, h]
def solN (k p : Int) (cs : List Clu) : Int := (solL k p cs).length
theorem solN_psol {k p : Int} {cs : List Clu} (h : pgood k p cs = true) : (solN k p cs == 1) = psol k p cs := by
  unfold solN psol
  rw [solL_yes h, Bool.eq_iff_iff]
  simp
  omega
end Go.Proofs
