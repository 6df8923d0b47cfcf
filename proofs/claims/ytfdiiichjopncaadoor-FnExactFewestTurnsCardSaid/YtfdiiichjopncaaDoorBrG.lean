/-
  Contracts of chapter 4: a step along a block, both sides.
-/
import Derived.Test.YtfdiiichjopncaaDoorBrF
import Derived.Test.YtfdiiichjopncaaDoorCtK
namespace Go.Proofs
open Go.RowKit Av
set_option linter.unusedVariables false
set_option linter.unusedSimpArgs false
def sgn : Nat → Int | 0 => 101 | 1 => 110 | 2 => 115 | _ => 119
def sb (x y : Int) : Nat → Blk | 0 => (x, y, false) | 1 => (x, y, true) | 2 => (x, y - 1, true) | _ => (x - 1, y, false)
theorem sb_eq (x y : Int) (j : Nat) (hj : j < 4) : bb (x, y) (nx (x, y) j) = sb x y j := by
  have : j = 0 ∨ j = 1 ∨ j = 2 ∨ j = 3 := by omega
  rcases this with rfl | rfl | rfl | rfl <;> simp [nx, bb, sb, dx, dy] <;> omega
/-- what a step comes to -/
def stV (W H : Int) (cl : List Blk) (x y : Int) (j : Nat) : Value :=
  if stp W H cl (x, y) j then .tuple #[.int .i64 (x + dx j), .int .i64 (y + dy j), .bool true] else .tuple #[.int .i64 0, .int .i64 0, .bool false]
theorem stp_f1 {W H : Int} {cl : List Blk} {x y : Int} {j : Nat} (hj : j < 4) (ho : onC W H (x, y)) (h : isB W H (sb x y j) = false) : stp W H cl (x, y) j = false := by
  have : ¬ onC W H (nx (x, y) j) := fun q => of_decide_eq_false h (by rw [← sb_eq x y j hj]; exact (onC_is ho j hj).1 q)
  unfold stp
  rw [decide_eq_false this]; rfl
theorem stp_t1 {W H : Int} {cl : List Blk} {x y : Int} {j : Nat} (hj : j < 4) (ho : onC W H (x, y)) (h : isB W H (sb x y j) = true) : stp W H cl (x, y) j = !has cl (sb x y j) := by
  have : onC W H (nx (x, y) j) := (onC_is ho j hj).2 (by rw [sb_eq x y j hj]; exact of_decide_eq_true h)
  unfold stp
  rw [decide_eq_true this, sb_eq x y j hj]; rfl
end Go.Proofs
