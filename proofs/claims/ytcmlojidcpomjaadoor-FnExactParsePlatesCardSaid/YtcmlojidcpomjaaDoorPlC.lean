/-
  Contracts of chapter 2: the program's comparison of two plates.
-/
import Derived.Test.YtcmlojidcpomjaaDoorPlA
namespace Go.Proofs
open Go.RowKit Pl
set_option linter.unusedVariables false
set_option linter.unusedSimpArgs false
set_option maxHeartbeats 400000 in
theorem Tryd.comparePlates (a b c d : Int) (v : Int) (h1 : isP a b = true) (h2 : isP c d = true) (hv : cmpI (rk (a, b)) (rk (c, d)) = v) (w : World) :
    Calls Tryd.prog 27 #[.agg #[.int .i64 a, .int .i64 b], .agg #[.int .i64 c, .int .i64 d]] w fun e w' => e = .returned (.int .i64 v) ∧ Gr w w' := by
  obtain ⟨a1, a2, a3, a4⟩ := isP_t h1
  obtain ⟨c1, c2, c3, c4⟩ := isP_t h2
  have hv' : cmpI (rk (a, b) - 27) (rk (c, d) - 27) = v := by rw [← hv]; unfold cmpI; split <;> split <;> (try split) <;> omega
  have HV := Lib.hid hv'
  clear hv hv' h1 h2
  have mixed : Tryd.prog.follows .mixedOrders = true := by kernel_rfl
  obtain ⟨b0, b1, b2, b3⟩ := boxes w (.int .i64 a) (.int .i64 b) (.int .i64 c) (.int .i64 d) 31 31
  go_enter Tryd.func27, Tryd.ntmps27
  go_wp2
  (refine wp_region_quiet_grown mixed (by kernel_rfl) ?_; (repeat (first | go_big_quiet_step ((first | (go_at_call 38; exact Calls.grown_of (Tryd.rankOfPlate _ _ (by omega) (by omega) (by omega) (by omega) _)) | (go_at_call 37; exact Calls.grown_of (same_gr (Tryd.cmpInt _ _ _ HV.out _))))) | quiet_step ((first | (go_at_call 38; exact Calls.grown_of (Tryd.rankOfPlate _ _ (by omega) (by omega) (by omega) (by omega) _)) | (go_at_call 37; exact Calls.grown_of (same_gr (Tryd.cmpInt _ _ _ HV.out _))))))); refine wpQuiet_nil ?_; intro _ hw'; obtain ⟨⟨nq, osq⟩, hw''⟩ := hw'; subst hw'')
  go_wp2
  go_ret
  exact ⟨rfl, by repeat (first | exact Gr.refl _ | refine Gr.alloc ?_ _ | refine Gr.trans ?_ (by assumption) | refine Gr.drew ?_ | refine Gr.drewN ?_ _ | refine Gr.grow ?_ _ | refine Gr.setCell ?_ (by (try simp); (try omega)) _)⟩
theorem cm_lt {x y : Int} (h : x < y) : cmpI x y = -1 := by unfold cmpI; rw [if_pos h]
theorem cm_ge {x y : Int} (h : ¬ x < y) : cmpI x y = 0 ∨ cmpI x y = 1 := by unfold cmpI; rw [if_neg h]; split <;> omega
end Go.Proofs
