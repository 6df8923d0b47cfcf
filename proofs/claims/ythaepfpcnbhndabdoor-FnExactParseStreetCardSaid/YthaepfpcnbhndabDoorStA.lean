/-
  Contracts: whether there is a street (a part of chapter 1's).
-/
import Derived.Test.YthaepfpcnbhndabDoorBase
namespace Go.Proofs
open Go.RowKit
set_option linter.unusedVariables false
set_option linter.unusedSimpArgs false
def Gd (k p : Int) : Prop := 0 ≤ k ∧ k ≤ 2 ∧ 1 ≤ p ∧ p ≤ 1000
instance (k p : Int) : Decidable (Gd k p) := by unfold Gd; infer_instance
def gd (k p : Int) : Bool := decide (Gd k p)
def inn (n lo hi : Int) : Bool := decide (lo ≤ n ∧ n ≤ hi)
set_option maxHeartbeats 400000 in
theorem Tryd.toStreet (k p : Int) (w : World) :
    Calls Tryd.prog 6 #[.agg #[.int .i64 k, .int .i64 p]] w fun e w' => e = .returned (.agg #[.int .i64 k, .int .i64 p]) ∧ Gr w w' := by
  go_enter Tryd.func6, Tryd.ntmps6
  go_wp2
  exact bodyPost_ret (v := .agg #[.int .i64 k, .int .i64 p]) (by simp [results, Tryd.results6, go_sem]) rfl ⟨rfl, by repeat (first | exact Gr.refl _ | refine Gr.alloc ?_ _ | refine Gr.trans ?_ (by assumption) | refine Gr.drew ?_ | refine Gr.drewN ?_ _ | refine Gr.grow ?_ _)⟩
set_option maxHeartbeats 400000 in
theorem Tryd.l1In (n a b : Int) (w : World) :
    Calls Tryd.prog 18 #[.int .i64 n, .int .i64 a, .int .i64 b] w fun e w' => e = .returned (.bool (inn n a b)) ∧ w = w' := by
  go_enter Tryd.func18, Tryd.ntmps18
  go_wp2
  all_goals
    go_ret
    exact ⟨by first | exact rbf (by omega) | exact rbt (by omega) | exact rbd (by omega), rfl⟩
theorem Tryd.l1In_b (n a b : Int) (v : Bool) (h : inn n a b = v) (w : World) :
    Calls Tryd.prog 18 #[.int .i64 n, .int .i64 a, .int .i64 b] w fun e w' => e = .returned (.bool v) ∧ w = w' := by subst h; exact Tryd.l1In n a b w
set_option maxHeartbeats 400000 in
theorem Tryd.iIsStreet (k p : Int) (v : Bool) (h : gd k p = v) (w : World) :
    Calls Tryd.prog 13 #[.agg #[.int .i64 k, .int .i64 p]] w fun e w' => e = .returned (.bool v) ∧ Gr w w' := by
  subst h
  go_enter Tryd.func13, Tryd.ntmps13
  go_wp2
  all_goals
    go_ret
    exact ⟨by first | exact rbf (by unfold Gd; omega) | exact rbt (by unfold Gd; omega), by repeat (first | exact Gr.refl _ | refine Gr.alloc ?_ _ | refine Gr.trans ?_ (by assumption) | refine Gr.drew ?_ | refine Gr.drewN ?_ _ | refine Gr.grow ?_ _)⟩
set_option maxHeartbeats 400000 in
theorem Tryd.nuGood (k p : Int) (v : Bool) (h : gd k p = v) (w : World) :
    Calls Tryd.prog 11 #[.agg #[.int .i64 k, .int .i64 p]] w fun e w' => e = .returned (.bool v) ∧ Gr w w' := by
  subst h
  go_enter Tryd.func11, Tryd.ntmps11
  go_wp2
  all_goals
    go_ret
    exact ⟨by first | exact rbf (by unfold Gd; omega) | exact rbt (by unfold Gd; omega) | exact rbd (by unfold Gd; omega), by repeat (first | exact Gr.refl _ | refine Gr.alloc ?_ _ | refine Gr.trans ?_ (by assumption) | refine Gr.drew ?_ | refine Gr.drewN ?_ _ | refine Gr.grow ?_ _)⟩
theorem gd_t {k p : Int} (h : gd k p = true) : 0 ≤ k ∧ k ≤ 2 ∧ 1 ≤ p ∧ p ≤ 1000 := of_decide_eq_true (p := Gd k p) h
theorem gd_f {k p : Int} (h : gd k p = false) : ¬ Gd k p := of_decide_eq_false (p := Gd k p) h
end Go.Proofs
