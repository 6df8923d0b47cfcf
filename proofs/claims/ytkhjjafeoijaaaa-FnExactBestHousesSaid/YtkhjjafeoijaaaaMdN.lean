/-
  Contracts of chapter 5: the mean of the houses (both sides).
-/
import Derived.Test.YtkhjjafeoijaaaaMdM
namespace Go.Proofs
open Go.RowKit
set_option linter.unusedVariables false
set_option linter.unusedSimpArgs false
def GcRel (G : Nat) (w : World) (a b : Value) (wr : World) : Prop := Gr w wr ∧ ∃ p q : Nat, p ≤ 10000000 ∧ q ≤ 10000000 ∧ Nat.gcd p q = G ∧ a = .int .i64 (p : Int) ∧ b = .int .i64 (q : Int)
theorem gcd_step (p q G : Nat) (h : Nat.gcd p q = G) : Nat.gcd q (p % q) = G := by
  rw [← h, Nat.gcd_comm q, ← Nat.gcd_rec, Nat.gcd_comm]
theorem wrap_div (p a : Nat) (h : p ≤ 10000000) : wrap64 ((p : Int) / (a : Int)) = ((p / a : Nat) : Int) := by
  rw [← Int.natCast_ediv]
  have : p / a ≤ p := Nat.div_le_self _ _
  generalize p / a = d at *
  unfold wrap64
  omega
def mnP (xs : List Int) : Nat := (walksI xs 0).toNat
def mnQ (xs : List Int) : Nat := (heads xs).toNat
def mnG (xs : List Int) : Nat := Nat.gcd (mnP xs) (mnQ xs)
theorem mn_bd {xs : List Int} (hg : GoodP xs) : walksI xs 0 = (mnP xs : Int) ∧ heads xs = (mnQ xs : Int) ∧ mnP xs ≤ 10000000 ∧ 0 < mnQ xs ∧ mnQ xs ≤ 10000000 ∧ 0 < mnG xs := by
  have a := sumF_bd (f := wkf xs 0) (n := xs.length) (K := 60000) (fun i hi => wkf_bd hg (by omega) (by omega) i hi)
  have b := sumF_bd (f := gx xs) (n := xs.length) (K := 1000) (fun i hi => hg.bd i)
  have c := hg.2.2
  have d := hg.1.2
  have e1 : walksI xs 0 = sumF (wkf xs 0) xs.length := rfl
  have e2 : heads xs = sumF (gx xs) xs.length := rfl
  have q0 : 0 < mnQ xs := by unfold mnQ; omega
  refine ⟨by unfold mnP; omega, by unfold mnQ; omega, by unfold mnP; omega, q0, by unfold mnQ; omega, Nat.gcd_pos_of_pos_right _ q0⟩
def mnV (xs : List Int) (b : Bool) : Int := if b then ((mnP xs / mnG xs : Nat) : Int) else 0
def mnW (xs : List Int) (b : Bool) : Int := if b then ((mnQ xs / mnG xs : Nat) : Int) else 0
end Go.Proofs
