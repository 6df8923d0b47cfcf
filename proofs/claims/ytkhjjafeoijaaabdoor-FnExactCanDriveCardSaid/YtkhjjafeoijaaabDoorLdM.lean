/-
  Words that are walked sign by sign: where one comes to after k signs (plain), steps by other signs.
-/
import Derived.Test.YtkhjjafeoijaaabDoorRuB
import Derived.Test.YtkhjjafeoijaaabDoorBrH
namespace Go.Proofs
open Go.RowKit Av
set_option linter.unusedVariables false
set_option linter.unusedSimpArgs false
instance (c : UInt8) : Decidable (isSg c) := by unfold isSg; infer_instance
def gU (s : ByteArray) (k : Nat) : UInt8 := s.data.toList.getD k 0
theorem gU_eq (s : ByteArray) (k : Nat) (h : k < s.size) : s[k]'h = gU s k := by
  unfold gU
  have hk : k < s.data.toList.length := by simpa using h
  rw [show s.data.toList.getD k 0 = s.data.toList[k]'hk by simp [List.getD, List.getElem?_eq_getElem hk]]
  rfl
def sgx (c : UInt8) : Nat := if c = 101 then 0 else if c = 110 then 1 else if c = 115 then 2 else 3
theorem sgx_lt (c : UInt8) : sgx c < 4 := by unfold sgx; (repeat' split) <;> omega
theorem sgx_sgn {c : UInt8} (h : isSg c) : (c.toNat : Int) = sgn (sgx c) := by
  rcases h with e | e | e | e <;> subst e <;> rfl
/-- where one comes to after k signs -/
def gone (st : Cr → Nat → Option Cr) (s : ByteArray) (p : Cr) : Nat → Option Cr
  | 0 => some p
  | k + 1 => (gone st s p k).bind fun q => if isSg (gU s k) then st q (sgx (gU s k)) else none
theorem gone_none {st : Cr → Nat → Option Cr} {s : ByteArray} {p : Cr} {k : Nat} (h : gone st s p k = none) (m : Nat) : gone st s p (k + m) = none := by
  induction m with
  | zero => exact h
  | succ m ih => rw [← Nat.add_assoc, gone, ih]; rfl
theorem gone_sg {st : Cr → Nat → Option Cr} {s : ByteArray} {p q : Cr} {k : Nat} (h : gone st s p k = some q) (hk : k < s.size) (hs : isSg (s[k]'hk)) : gone st s p (k + 1) = st q (sgx (s[k]'hk)) := by
  rw [gone, h, Option.bind_some]
  rw [gU_eq] at hs
  rw [if_pos hs, gU_eq]
theorem gone_no {st : Cr → Nat → Option Cr} {s : ByteArray} {p q : Cr} {k : Nat} (h : gone st s p k = some q) (hk : k < s.size) (hs : ¬ isSg (s[k]'hk)) : gone st s p (k + 1) = none := by
  rw [gone, h, Option.bind_some]
  rw [gU_eq] at hs
  rw [if_neg hs]
def lsO (r : Option Cr) : List Int := match r with | some q => [q.1, q.2] | none => []
end Go.Proofs
