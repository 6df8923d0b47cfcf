/-
  Contracts of chapter 1, third part: opposite houses, walks between houses.
-/
import Derived.Test.YtcmlojidcpomjacNuB
namespace Go.Proofs
open Go.RowKit
set_option linter.unusedVariables false
set_option linter.unusedSimpArgs false
def opB (k p n : Int) : Bool := asB k p n && decide (k ≠ 0)
def opV (k p n : Int) : Int := if opB k p n then num k p (1 - sdo k p n) (plo k p n) else 0
theorem sdo_bd (k p n : Int) (h4 : 1 ≤ n) : 0 ≤ sdo k p n ∧ sdo k p n ≤ 1 := by unfold sdo; omega
theorem plo_bd (k p n : Int) (h2 : 1 ≤ p) (h4 : 1 ≤ n) (h5 : n ≤ hs k p) : 0 ≤ plo k p n ∧ plo k p n ≤ p - 1 := by unfold hs at h5; unfold plo; omega
theorem op_na (k p n : Int) (h : asB k p n = true) : naB k p (1 - sdo k p n) (plo k p n) = opB k p n ∧ naV k p (1 - sdo k p n) (plo k p n) = opV k p n := by
  obtain ⟨hgd, h4, h5⟩ := asB_t h
  obtain ⟨h0, h1, h2, h3⟩ := gd_t hgd
  have hp := plo_bd k p n h2 h4 h5
  have e : naB k p (1 - sdo k p n) (plo k p n) = opB k p n := by
    unfold naB opB
    rw [hgd, h, inn_t hp.1 hp.2]
    simp only [Bool.true_and, Bool.and_true]
    unfold hsd
    refine decide_eq_decide.2 ?_
    unfold sdo
    unfold hs at h5
    omega
  exact ⟨e, by unfold naV opV; rw [e]⟩
theorem Try.otherSide (sd : Int) (w : World) (h0 : 0 ≤ sd) (h1 : sd ≤ 1) :
    Calls Try.prog 58 #[.int .i64 sd] w fun e w' => e = .returned (.int .i64 (1 - sd)) ∧ w = w' := by
  go_enter Try.func58, Try.ntmps58
  go_wp2
  go_ret
  exact ⟨ri (by first | rfl | omega | (unfold wrap64; omega)), rfl⟩
/-! ## Walks between houses -/
def wkB (k p a b x : Int) : Bool := asB k p a && asB k p b && inn x 0 1000
def wkD (k p a b x : Int) : Int := (if plo k p a ≤ plo k p b then plo k p b - plo k p a else plo k p a - plo k p b) + (if sdo k p a = sdo k p b then 0 else x)
def wkV (k p a b x : Int) : Int := if wkB k p a b x then wkD k p a b x else 0
def abv (n : Int) : Int := if 0 ≤ n then n else -n
end Go.Proofs
