/-
  A list that is there only if the call does not fail: its length.
-/
import Derived.Test.YtkhjjafeoijaaaaBase
namespace Go.Proofs
theorem ifl (b : Bool) (l : List Int) (h : l.length ≤ 1000000000) : (if b = true then l else []).length ≤ 1000000000 := by
  cases b
  · simp
  · exact h
end Go.Proofs
