/-
  Contracts of chapter 1: decimal numbers of the model, digits on plates.
-/
import Derived.Test.YtcmlojidcpomjaaNuD
import Derived.Lib.ItoaNum
import Derived.Laws.BytesArg
import Derived.Laws.Concat
import Derived.Lib.ItoaLen
import Derived.Deep.RegionWith
namespace Go.Proofs
open Go.RowKit Nu
set_option linter.unusedVariables false
set_option linter.unusedSimpArgs false
theorem wr64 (x : Int) (h : -9000000000000000000 ≤ x) (g : x ≤ 9000000000000000000) : IntKind.i64.wrap x = x := IntWalk.i64_in _ (by omega)
theorem dig1 (n : Int) (h0 : 0 ≤ n) (h : n < 10) : strOfNums [48 + n] = ⟨(Lib.decDigits n.toNat).toArray⟩ := by
  rw [Lib.decDigits, dif_pos (by omega)]
  unfold strOfNums
  simp only [List.map_cons, List.map_nil]
  rw [show (48 + n).toNat = 48 + n.toNat by omega]
theorem dig2 (n : Int) (h0 : 0 ≤ n) (h : ¬ n < 10) : (⟨(Lib.decDigits (n / 10).toNat).toArray⟩ : ByteArray) ++ strOfNums [48 + n % 10] = ⟨(Lib.decDigits n.toNat).toArray⟩ := by
  rw [Lib.decDigits.eq_def n.toNat, dif_neg (by omega)]
  unfold strOfNums
  simp only [List.map_cons, List.map_nil]
  rw [show (48 + n % 10).toNat = 48 + n.toNat % 10 by omega, show (n / 10).toNat = n.toNat / 10 by omega]
  apply ByteArray.ext
  simp
theorem dec_size (u : Nat) (h : u < 18446744073709551616) : ((⟨(Lib.decDigits u).toArray⟩ : ByteArray).size : Int) ≤ 8388608 := by
  have e : (⟨(Lib.decDigits u).toArray⟩ : ByteArray).size = Lib.nDigits u := by
    show (Lib.decDigits u).toArray.size = _
    rw [Lib.decDigits_eq]
    simp
  have := Lib.nDigits_le20 u h
  omega
theorem nd_dl (n : Int) (h : 1 ≤ n) (g : n ≤ 1000000) : (Lib.nDigits n.toNat : Int) = dl n := by
  have key : ∀ k : Nat, 10 ^ k ≤ n.toNat → n.toNat < 10 ^ (k + 1) → (Lib.nDigits n.toNat : Int) = k + 1 := fun k a b => by rw [Lib.nDigits_unique k _ a b]; simp
  unfold dl
  rcases (show n < 10 ∨ (10 ≤ n ∧ n < 100) ∨ (100 ≤ n ∧ n < 1000) ∨ (1000 ≤ n ∧ n < 10000) ∨ (10000 ≤ n ∧ n < 100000) ∨ (100000 ≤ n ∧ n < 1000000) ∨ n = 1000000 by omega) with c | c | c | c | c | c | c
  · have := key 0 (by simp; omega) (by simp; omega); omega
  · have := key 1 (by simp; omega) (by simp; omega); omega
  · have := key 2 (by simp; omega) (by simp; omega); omega
  · have := key 3 (by simp; omega) (by simp; omega); omega
  · have := key 4 (by simp; omega) (by simp; omega); omega
  · have := key 5 (by simp; omega) (by simp; omega); omega
  · have := key 6 (by simp; omega) (by simp; omega); omega
theorem dec_len (n : Int) (h : 1 ≤ n) (g : n ≤ 1000000) : ((⟨(Lib.decDigits n.toNat).toArray⟩ : ByteArray).size : Int) = dl n := by
  have e : (⟨(Lib.decDigits n.toNat).toArray⟩ : ByteArray).size = Lib.nDigits n.toNat := by
    show (Lib.decDigits n.toNat).toArray.size = _
    rw [Lib.decDigits_eq]
    simp
  rw [e]
  exact nd_dl n h g
end Go.Proofs
