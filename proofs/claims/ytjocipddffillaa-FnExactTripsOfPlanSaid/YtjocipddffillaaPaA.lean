/-
  Chapter 8: one parcel (laws.toParcel, eqParcel).
-/
import Derived.Test.YtjocipddffillaaInn
namespace Go.Proofs
open Go.RowKit
set_option linter.unusedVariables false
set_option linter.unusedSimpArgs false
set_option maxHeartbeats 400000 in
theorem Try.toParcel (n l : Int) (w : World) :
    Calls Try.prog 51 #[.agg #[.int .i64 n, .int .i64 l]] w fun e w' => e = .returned (.agg #[.int .i64 n, .int .i64 l]) ∧ Gr w w' := by
  go_enter Try.func51, Try.ntmps51
  go_wp2
  exact bodyPost_ret (v := .agg #[.int .i64 n, .int .i64 l]) (by simp [results, Try.results51, go_sem]) rfl ⟨rfl, by repeat (first | exact Gr.refl _ | refine Gr.alloc ?_ _ | refine Gr.trans ?_ (by assumption) | refine Gr.drew ?_ | refine Gr.drewN ?_ _ | refine Gr.grow ?_ _ | refine Gr.setCell ?_ (by (try simp); (try omega)) _)⟩
set_option maxHeartbeats 400000 in
theorem Try.eqParcel (n l : Int) (w : World) :
    Calls Try.prog 55 #[.agg #[.int .i64 n, .int .i64 l], .agg #[.int .i64 n, .int .i64 l]] w fun e w' => e = .returned (.bool true) ∧ Gr w w' := by
  obtain ⟨b0, b1, b2, b3⟩ := boxes w (.int .i64 n) (.int .i64 l) (.int .i64 n) (.int .i64 l) 55 55
  go_enter Try.func55, Try.ntmps55
  go_wp2
  (try (go_quiet (fail); go_wp2))
  (try (go_quiet (fail); go_wp2))
  go_ret
  exact ⟨rfl, by repeat (first | exact Gr.refl _ | refine Gr.alloc ?_ _ | refine Gr.trans ?_ (by assumption) | refine Gr.drew ?_ | refine Gr.drewN ?_ _ | refine Gr.grow ?_ _ | refine Gr.setCell ?_ (by (try simp); (try omega)) _)⟩
end Go.Proofs
