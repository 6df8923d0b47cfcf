/-
  Contracts of chapter 5: the text of people (the model's).
-/
import Derived.Test.YtepbgbfaeofofaaDoorPeA
import Derived.Test.YtepbgbfaeofofaaDoorDec
import Derived.Test.YtepbgbfaeofofaaDoorRd
import Derived.Lib.Join
namespace Go.Proofs
open Go.RowKit
set_option linter.unusedVariables false
set_option linter.unusedSimpArgs false
/-- a number's text -/
def itx (n : Int) : ByteArray := ⟨(Lib.decDigits n.toNat).toArray⟩
/-- the texts of numbers, joined -/
def jti (xs : List Int) : List UInt8 := Lib.join (xs.map fun n => (itx n).data.toList) [45]
theorem jti_nil : jti [] = [] := rfl
theorem jti_one (n : Int) : jti [n] = (itx n).data.toList := by simp [jti, Lib.join_one]
theorem jti_snoc (xs : List Int) (n : Int) (h : 0 < xs.length) : jti (xs ++ [n]) = jti xs ++ 45 :: (itx n).data.toList := by
  cases xs with
  | nil => simp at h
  | cons q r =>
    unfold jti
    simp only [List.cons_append, List.map_cons, List.map_append, List.map_nil]
    rw [Lib.join_cons, Lib.join_cons]
    simp [Lib.joinTail]
theorem itx_le {n : Int} (h0 : 0 ≤ n) (h1 : n ≤ 1000) : (itx n).data.toList.length ≤ 4 := by
  unfold itx
  show (Lib.decDigits n.toNat).toArray.toList.length ≤ 4
  rw [List.toList_toArray, Rd.dec_length]
  rcases (show n < 10 ∨ (10 ≤ n ∧ n < 100) ∨ (100 ≤ n ∧ n < 1000) ∨ (1000 ≤ n ∧ n < 10000) by omega) with c | c | c | c
  · rw [Lib.nDigits_small (by omega)]; omega
  · rw [Lib.nDigits_unique 1 n.toNat (by simp; omega) (by simp; omega)]; omega
  · rw [Lib.nDigits_unique 2 n.toNat (by simp; omega) (by simp; omega)]; omega
  · rw [Lib.nDigits_unique 3 n.toNat (by simp; omega) (by simp; omega)]; omega
theorem take_gx {xs : List Int} {k : Nat} (hk : k < xs.length) : xs.take (k + 1) = xs.take k ++ [gx xs k] := by
  rw [List.take_succ_eq_append_getElem hk]
  simp [gx, List.getD, hk]
theorem jti_step {xs : List Int} {k : Nat} (hk : k < xs.length) :
    (k = 0 → (⟨(jti (xs.take (k + 1))).toArray⟩ : ByteArray) = itx (gx xs k)) ∧
    (0 < k → (⟨(jti (xs.take (k + 1))).toArray⟩ : ByteArray) = ⟨(jti (xs.take k)).toArray⟩ ++ ⟨#[45]⟩ ++ itx (gx xs k)) := by
  rw [take_gx hk]
  constructor
  · rintro rfl
    rw [List.take_zero, List.nil_append, jti_one]
  · intro h0
    rw [jti_snoc _ _ (by simp; omega)]
    apply ByteArray.ext
    simp
theorem jti_len {xs : List Int} {k : Nat} (hi : ∀ j, j < xs.length → 0 ≤ gx xs j ∧ gx xs j ≤ 1000) (hk : k < xs.length) (h : (jti (xs.take k)).length ≤ 5 * k) : (jti (xs.take (k + 1))).length ≤ 5 * (k + 1) := by
  have h5 := itx_le (hi k hk).1 (hi k hk).2
  rw [take_gx hk]
  rcases Nat.eq_zero_or_pos k with rfl | h0
  · rw [List.take_zero, List.nil_append, jti_one]; omega
  · rw [jti_snoc _ _ (by simp; omega)]
    simp only [List.length_append, List.length_cons]
    omega
theorem jti_bd {xs : List Int} (hi : ∀ j, j < xs.length → 0 ≤ gx xs j ∧ gx xs j ≤ 1000) : ∀ k, k ≤ xs.length → (jti (xs.take k)).length ≤ 5 * k := by
  intro k
  induction k with
  | zero => intro _; simp [jti_nil]
  | succ k ih => intro h; exact jti_len hi (by omega) (ih (by omega))
theorem nil_addI (T : ByteArray) : (⟨#[]⟩ : ByteArray) ++ T = T := by apply ByteArray.ext; simp
/-- what is there behind k rounds -/
def JRelI (xs : List Int) (w : World) (s i : Value) (wr : World) : Prop := ∃ k : Nat, k ≤ xs.length ∧ i = .int .i64 k ∧ s = .string ⟨(jti (xs.take k)).toArray⟩ ∧ Gr w wr
def ptV5 (xs : List Int) (b : Bool) : ByteArray := if b then ⟨(jti xs).toArray⟩ else ⟨#[]⟩
end Go.Proofs
