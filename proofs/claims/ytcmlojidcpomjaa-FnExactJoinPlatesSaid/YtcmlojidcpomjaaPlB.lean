/-
  Contracts of chapter 2: two plates compared, the next one, how many between, the middle one.
-/
import Derived.Test.YtcmlojidcpomjaaPlC
namespace Go.Proofs
open Go.RowKit Pl
set_option linter.unusedVariables false
set_option linter.unusedSimpArgs false
def iof (r : Int) : Int × Int := (r / 27, r % 27)
set_option maxHeartbeats 400000 in
theorem Try.isOf (r : Int) (h1 : 0 ≤ r) (h2 : r ≤ 1000000) (w : World) :
    Calls Try.prog 63 #[.int .i64 r] w fun e w' => e = .returned (.agg #[.int .i64 (iof r).1, .int .i64 (iof r).2]) ∧ Gr w w' := by
  go_enter Try.func63, Try.ntmps63
  go_wp2
  exact bodyPost_ret (v := .agg #[.int .i64 (iof r).1, .int .i64 (iof r).2]) (by simp [results, Try.results63, go_sem]; exact ⟨rfl, rfl⟩) rfl ⟨rfl, by repeat (first | exact Gr.refl _ | refine Gr.alloc ?_ _ | refine Gr.trans ?_ (by assumption) | refine Gr.drew ?_ | refine Gr.drewN ?_ _ | refine Gr.grow ?_ _ | refine Gr.setCell ?_ (by (try simp); (try omega)) _)⟩
set_option maxHeartbeats 400000 in
theorem Try.plateWithRank (r : Int) (h1 : 0 ≤ r) (h2 : r ≤ 1000000) (w : World) :
    Calls Try.prog 85 #[.int .i64 r] w fun e w' => e = .returned (.agg #[.int .i64 (r / 27 + 1), .int .i64 (r % 27)]) ∧ Gr w w' := by
  go_enter Try.func85, Try.ntmps85
  go_wp2
  exact bodyPost_ret (v := .agg #[.int .i64 (r / 27 + 1), .int .i64 (r % 27)]) (by simp [results, Try.results85, go_sem]) rfl ⟨rfl, by repeat (first | exact Gr.refl _ | refine Gr.alloc ?_ _ | refine Gr.trans ?_ (by assumption) | refine Gr.drew ?_ | refine Gr.drewN ?_ _ | refine Gr.grow ?_ _ | refine Gr.setCell ?_ (by (try simp); (try omega)) _)⟩
def ok2 (a b c d : Int) : Bool := isP a b && isP c d
def cmV (a b c d : Int) : Int := if ok2 a b c d then cmpI (rk (a, b)) (rk (c, d)) else 0
end Go.Proofs
