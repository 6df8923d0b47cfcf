/-
  Contracts of chapter 1: streets, houses, plots.
-/
import Derived.Test.YtopmclaphcnmbaaDoorBase
namespace Go.Proofs
open Go.RowKit
set_option linter.unusedVariables false
set_option linter.unusedSimpArgs false
def Gd (k p : Int) : Prop := 0 ≤ k ∧ k ≤ 2 ∧ 1 ≤ p ∧ p ≤ 1000
instance (k p : Int) : Decidable (Gd k p) := by unfold Gd; infer_instance
def hs (k p : Int) : Int := if k = 0 then p else 2 * p
theorem hs_bd (k p : Int) (h0 : 0 ≤ k) (h2 : 1 ≤ p) (h3 : p ≤ 1000) : 1 ≤ hs k p ∧ hs k p ≤ 2000 := by unfold hs; omega
def Asked (k p n : Int) : Prop := Gd k p ∧ 1 ≤ n ∧ n ≤ hs k p
instance (k p n : Int) : Decidable (Asked k p n) := by unfold Asked; infer_instance
def sdo (k p n : Int) : Int := if k = 1 then (n - 1) % 2 else if p < n then 1 else 0
def plo (k p n : Int) : Int := if k = 1 then (n - 1) / 2 else if p < n then 2 * p - n else n - 1
def num (k p sd pl : Int) : Int := if k = 1 then 2 * pl + 1 + sd else if sd = 1 then 2 * p - pl else pl + 1
def HasAt (k p sd pl : Int) : Prop := Gd k p ∧ (sd = 0 ∨ sd = 1 ∧ 0 < k) ∧ 0 ≤ pl ∧ pl ≤ p - 1
instance (k p sd pl : Int) : Decidable (HasAt k p sd pl) := by unfold HasAt; infer_instance
def gd (k p : Int) : Bool := decide (Gd k p)
def inn (n lo hi : Int) : Bool := decide (lo ≤ n ∧ n ≤ hi)
set_option maxHeartbeats 400000 in
theorem Tryd.l1In (n a b : Int) (w : World) :
    Calls Tryd.prog 34 #[.int .i64 n, .int .i64 a, .int .i64 b] w fun e w' => e = .returned (.bool (inn n a b)) ∧ w = w' := by
  go_enter Tryd.func34, Tryd.ntmps34
  go_wp2
  all_goals
    go_ret
    exact ⟨by first | exact rbf (by omega) | exact rbt (by omega) | exact rbd (by omega), rfl⟩
set_option maxHeartbeats 400000 in
theorem Tryd.within (n a b : Int) (w : World) :
    Calls Tryd.prog 83 #[.int .i64 n, .int .i64 a, .int .i64 b] w fun e w' => e = .returned (.bool (inn n a b)) ∧ w = w' := by
  go_enter Tryd.func83, Tryd.ntmps83
  go_wp2
  all_goals
    go_ret
    exact ⟨by first | exact rbf (by omega) | exact rbt (by omega) | exact rbd (by omega), rfl⟩
theorem inn_t {n a b : Int} (h1 : a ≤ n) (h2 : n ≤ b) : inn n a b = true := by simp [inn, h1, h2]
theorem inn_f {n a b : Int} (h : n < a ∨ b < n) : inn n a b = false := by simp [inn]; omega
theorem Tryd.l1In_b (n a b : Int) (v : Bool) (h : inn n a b = v) (w : World) :
    Calls Tryd.prog 34 #[.int .i64 n, .int .i64 a, .int .i64 b] w fun e w' => e = .returned (.bool v) ∧ w = w' := by subst h; exact Tryd.l1In n a b w
theorem Tryd.within_b (n a b : Int) (v : Bool) (h : inn n a b = v) (w : World) :
    Calls Tryd.prog 83 #[.int .i64 n, .int .i64 a, .int .i64 b] w fun e w' => e = .returned (.bool v) ∧ w = w' := by subst h; exact Tryd.within n a b w
set_option maxHeartbeats 400000 in
theorem Tryd.iIsStreet (k p : Int) (v : Bool) (h : gd k p = v) (w : World) :
    Calls Tryd.prog 44 #[.agg #[.int .i64 k, .int .i64 p]] w fun e w' => e = .returned (.bool v) ∧ Gr w w' := by
  subst h
  go_enter Tryd.func44, Tryd.ntmps44
  go_wp2
  all_goals
    go_ret
    exact ⟨by first | exact rbf (by unfold Gd; omega) | exact rbt (by unfold Gd; omega), by repeat (first | exact Gr.refl _ | refine Gr.alloc ?_ _ | refine Gr.trans ?_ (by assumption) | refine Gr.drew ?_ | refine Gr.drewN ?_ _ | refine Gr.grow ?_ _ | refine Gr.setCell ?_ (by (try simp); (try omega)) _)⟩
set_option maxHeartbeats 400000 in
theorem Tryd.nuGood (k p : Int) (v : Bool) (h : gd k p = v) (w : World) :
    Calls Tryd.prog 35 #[.agg #[.int .i64 k, .int .i64 p]] w fun e w' => e = .returned (.bool v) ∧ Gr w w' := by
  subst h
  go_enter Tryd.func35, Tryd.ntmps35
  go_wp2
  all_goals
    go_ret
    exact ⟨by first | exact rbf (by unfold Gd; omega) | exact rbt (by unfold Gd; omega) | exact rbd (by unfold Gd; omega), by repeat (first | exact Gr.refl _ | refine Gr.alloc ?_ _ | refine Gr.trans ?_ (by assumption) | refine Gr.drew ?_ | refine Gr.drewN ?_ _ | refine Gr.grow ?_ _ | refine Gr.setCell ?_ (by (try simp); (try omega)) _)⟩
theorem gd_t {k p : Int} (h : gd k p = true) : 0 ≤ k ∧ k ≤ 2 ∧ 1 ≤ p ∧ p ≤ 1000 := of_decide_eq_true (p := Gd k p) h
theorem gd_f {k p : Int} (h : gd k p = false) : ¬ Gd k p := of_decide_eq_false (p := Gd k p) h
def nsd (k : Int) : Int := if k = 0 then 1 else 2
def hoV (k p : Int) : Int := if gd k p then hs k p else 0
def hsd (k sd : Int) : Bool := decide (sd = 0 ∨ sd = 1 ∧ 0 < k)
theorem hsd_inn {k : Int} (sd : Int) (h0 : 0 ≤ k) : inn sd 0 (nsd k - 1) = hsd k sd := by
  unfold inn hsd nsd; exact decide_eq_decide.2 (by omega)
def naB (k p sd pl : Int) : Bool := gd k p && hsd k sd && inn pl 0 (p - 1)
def naV (k p sd pl : Int) : Int := if naB k p sd pl then num k p sd pl else 0
theorem hsd_t {k sd : Int} (h : hsd k sd = true) : 0 ≤ sd ∧ sd ≤ 1 := by have := of_decide_eq_true (p := sd = 0 ∨ sd = 1 ∧ 0 < k) h; omega
theorem inn_e {n a b : Int} (h : inn n a b = true) : a ≤ n ∧ n ≤ b := of_decide_eq_true (p := a ≤ n ∧ n ≤ b) h
end Go.Proofs
