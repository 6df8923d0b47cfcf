/-
  Contracts of chapter 4: the first one of the shortest ways (the model).
-/
import Derived.Test.YtnpkhoiblemodaaAvN
import Derived.Test.YtnpkhoiblemodaaAvS
namespace Go.Proofs
open Go.RowKit Av Gm Go.Maps
set_option linter.unusedVariables false
set_option linter.unusedSimpArgs false
def sgU : Nat → UInt8 | 0 => 101 | 1 => 110 | 2 => 115 | _ => 119
/-- the word of some directions -/
def wsB (l : List Nat) : ByteArray := ⟨(l.map sgU).toArray⟩
theorem wsB_snoc (l : List Nat) (i : Nat) : wsB (l ++ [i]) = wsB l ++ ⟨#[sgU i]⟩ := by
  unfold wsB
  apply ByteArray.ext
  simp
theorem wsB_size (l : List Nat) : (wsB l).size = l.length := by unfold wsB; simp [ByteArray.size]
theorem sgn_bd (j : Nat) : 97 ≤ sgn j ∧ sgn j ≤ 122 := by unfold sgn; split <;> decide
theorem enc_sgn (j : Fin 4) : Utf8.encode (sgn j.1) = ⟨#[sgU j.1]⟩ := by revert j; decide
def fwW (W H : Int) (ps : List Blk) (xs ys : List Int) : ByteArray :=
  wsB (stW (nbC W.toNat H.toNat ps) (f (fin (nbC W.toNat H.toNat ps) (W.toNat * H.toNat) (ys.getD 0 0 * H + ys.getD 1 0).toNat)) (xs.getD 0 0 * H + xs.getD 1 0).toNat (cdI W H ps xs ys).toNat).2
def fwV (W H : Int) (ps : List Blk) (xs ys : List Int) : ByteArray := if cdB W H ps xs ys then fwW W H ps xs ys else ⟨#[]⟩
end Go.Proofs
