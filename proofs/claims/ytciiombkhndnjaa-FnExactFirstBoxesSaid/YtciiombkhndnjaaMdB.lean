/-
  Contracts of chapter 5, the model: a house of people, sums of walks, how many live within a walk.
-/
import Derived.Test.YtciiombkhndnjaaMdA
namespace Go.Proofs
open Go.RowKit
set_option linter.unusedVariables false
set_option linter.unusedSimpArgs false
theorem exb (p : Prop) : ∃ b : Bool, b = true ↔ p := ⟨@decide p (Classical.propDecidable p), @decide_eq_true_iff p (Classical.propDecidable p)⟩
/-- people's steps to a house, up to the first k -/
def wkf (xs : List Int) (h : Int) (i : Nat) : Int := gx xs i * avv ((i : Int) - h)
theorem wkf_bd {xs : List Int} (hg : GoodP xs) {h : Int} (h0 : 0 ≤ h) (h1 : h ≤ 59) (i : Nat) (hi : i < xs.length) : 0 ≤ wkf xs h i ∧ wkf xs h i ≤ 60000 := by
  have a := hg.bd i
  have c := hg.1.2
  exact mul_bd a.1 a.2 (avv_nn _) (avv_le (K := 60) (by omega) (by omega))
def WRelS (xs : List Int) (h : Int) (w : World) (s i : Value) (wr : World) : Prop := Gr w wr ∧ ∃ k : Nat, k ≤ xs.length ∧ i = .int .i64 k ∧ s = .int .i64 (sumF (wkf xs h) k)
end Go.Proofs
