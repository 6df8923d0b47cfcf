/-
  Contracts of small words: a number within bounds.
-/
import Derived.Test.YtjhpebihflcanaaBase
namespace Go.Proofs
open Go.RowKit
set_option linter.unusedVariables false
set_option linter.unusedSimpArgs false
def inn (n lo hi : Int) : Bool := decide (lo ≤ n ∧ n ≤ hi)
theorem inn_t {n a b : Int} (h1 : a ≤ n) (h2 : n ≤ b) : inn n a b = true := by simp [inn, h1, h2]
theorem inn_f {n a b : Int} (h : n < a ∨ b < n) : inn n a b = false := by simp [inn]; omega
theorem inn_e {n a b : Int} (h : inn n a b = true) : a ≤ n ∧ n ≤ b := of_decide_eq_true (p := a ≤ n ∧ n ≤ b) h
set_option maxHeartbeats 400000 in
theorem Try.l1In (n a b : Int) (v : Bool) (h : inn n a b = v) (w : World) :
    Calls Try.prog 37 #[.int .i64 n, .int .i64 a, .int .i64 b] w fun e w' => e = .returned (.bool v) ∧ w = w' := by
  subst h
  go_enter Try.func37, Try.ntmps37
  go_wp2
  all_goals
    go_ret
    exact ⟨by first | exact rbf (by omega) | exact rbt (by omega) | exact rbd (by omega), rfl⟩
set_option maxHeartbeats 400000 in
theorem Try.within (n a b : Int) (v : Bool) (h : inn n a b = v) (w : World) :
    Calls Try.prog 39 #[.int .i64 n, .int .i64 a, .int .i64 b] w fun e w' => e = .returned (.bool v) ∧ w = w' := by
  subst h
  go_enter Try.func39, Try.ntmps39
  go_wp2
  all_goals
    go_ret
    exact ⟨by first | exact rbf (by omega) | exact rbt (by omega) | exact rbd (by omega), rfl⟩
end Go.Proofs
