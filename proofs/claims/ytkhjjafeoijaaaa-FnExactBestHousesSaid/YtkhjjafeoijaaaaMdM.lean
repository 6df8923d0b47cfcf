/-
  Contracts of chapter 5: how many live within a walk of a house (both sides).
-/
import Derived.Test.YtkhjjafeoijaaaaMdL
namespace Go.Proofs
open Go.RowKit
set_option linter.unusedVariables false
set_option linter.unusedSimpArgs false
def WithinP (xs : List Int) (h far : Int) : Prop := HouseP xs h ∧ 0 ≤ far ∧ far ≤ 60
def pwf (xs : List Int) (h far : Int) (i : Nat) : Int := if avv ((i : Int) - h) ≤ far then gx xs i else 0
def pplW (xs : List Int) (h far : Int) : Int := sumF (pwf xs h far) xs.length
theorem pwf_bd {xs : List Int} (hg : GoodP xs) (h far : Int) (i : Nat) : 0 ≤ pwf xs h far i ∧ pwf xs h far i ≤ 1000 := by
  have := hg.bd i
  unfold pwf
  split <;> omega
theorem pplW_part {xs : List Int} {h far : Int} (hp : WithinP xs h far) (fo n : Nat) (h1 : max (h - far) 0 = (fo : Int)) (h2 : min (h + far + 1) (xs.length : Int) = ((fo + n : Nat) : Int)) : pplW xs h far = sumF (hdf xs fo) n := by
  obtain ⟨⟨hg, a, b⟩, c, d⟩ := hp
  obtain ⟨m, hm⟩ : ∃ m, xs.length = fo + n + m := ⟨xs.length - (fo + n), by omega⟩
  unfold pplW
  rw [hm, sumF_split, sumF_split]
  have z1 : sumF (pwf xs h far) fo = 0 := sumF_zeros fun i hi => by
    unfold pwf
    rw [if_neg (by unfold avv; split <;> omega)]
  have z2 : sumF (fun i => pwf xs h far (fo + n + i)) m = 0 := sumF_zeros fun i hi => by
    unfold pwf
    rw [if_neg (by unfold avv; split <;> omega)]
  have z3 : sumF (fun i => pwf xs h far (fo + i)) n = sumF (hdf xs fo) n := sumF_ext fun i hi => by
    unfold pwf hdf
    rw [if_pos (by unfold avv; split <;> omega)]
  rw [z1, z2, z3]
  omega
def PWRel (xs : List Int) (h far : Int) (w : World) (s i : Value) (wr : World) : Prop := Gr w wr ∧ ∃ k : Nat, k ≤ xs.length ∧ i = .int .i64 k ∧ s = .int .i64 (sumF (pwf xs h far) k)
end Go.Proofs
