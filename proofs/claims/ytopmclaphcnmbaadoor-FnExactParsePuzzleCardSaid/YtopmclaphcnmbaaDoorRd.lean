/-
  Plain mathematics: the number of a canonical decimal text.
-/
import Derived.Lib.ItoaNum
import Derived.Lib.AtoiAll
namespace Rd
open Go.Lib
/-- the number that a canonical decimal text below a million has, or -1 -/
def isDig (b : UInt8) : Bool := 48 ≤ b.toNat && b.toNat ≤ 57
def val : List UInt8 → Nat → Nat
  | [], n => n
  | b :: r, n => val r (10 * n + (b.toNat - 48))
def rd (l : List UInt8) : Int :=
  if 1 ≤ l.length ∧ l.length ≤ 6 ∧ ¬ (l.headD 0 = 48 ∧ 1 < l.length) ∧ l.all isDig then (val l 0 : Int) else -1
theorem val_append (l : List UInt8) (b : UInt8) (n : Nat) : val (l ++ [b]) n = 10 * val l n + (b.toNat - 48) := by
  induction l generalizing n with
  | nil => rfl
  | cons a r ih => exact ih _
theorem val_lt (l : List UInt8) (n : Nat) (h : l.all isDig) : val l n < (n + 1) * 10 ^ l.length := by
  induction l generalizing n with
  | nil => simp [val]
  | cons a r ih =>
    simp only [List.all_cons, Bool.and_eq_true] at h
    have ha := h.1
    simp [isDig] at ha
    have := ih (10 * n + (a.toNat - 48)) h.2
    simp only [val, List.length_cons, Nat.pow_succ]
    refine Nat.lt_of_lt_of_le this ?_
    rw [Nat.mul_comm (10 ^ r.length) 10, ← Nat.mul_assoc]
    exact Nat.mul_le_mul_right _ (by omega)
theorem dec_dig (u : Nat) : (decDigits u).all isDig := by
  induction u using Nat.strongRecOn with
  | _ u ih =>
    rw [decDigits]
    split
    · rename_i h
      simp [isDig]
      rw [Nat.mod_eq_of_lt (by omega)]; omega
    · rename_i h
      rw [List.all_append, ih (u / 10) (by omega)]
      simp [isDig]
      rw [Nat.mod_eq_of_lt (by omega)]; omega
theorem dec_val (u : Nat) : val (decDigits u) 0 = u := by
  induction u using Nat.strongRecOn with
  | _ u ih =>
    rw [decDigits]
    split
    · rename_i h
      simp [val]
      rw [Nat.mod_eq_of_lt (by omega)]; omega
    · rename_i h
      rw [val_append, ih (u / 10) (by omega)]
      simp
      rw [Nat.mod_eq_of_lt (by omega)]; omega
theorem dec_length (u : Nat) : (decDigits u).length = nDigits u := by rw [decDigits_eq]; simp
theorem dec_head (u : Nat) (h : 0 < u) : (decDigits u).headD 0 ≠ 48 := by
  induction u using Nat.strongRecOn with
  | _ u ih =>
    rw [decDigits]
    split
    · rename_i h1
      simp only [List.headD_cons]
      intro e
      have := congrArg UInt8.toNat e
      simp at this
      rw [Nat.mod_eq_of_lt (by omega)] at this
      omega
    · rename_i h1
      have hne : decDigits (u / 10) ≠ [] := by
        intro e
        have := congrArg List.length e
        rw [dec_length] at this
        have := nDigits_pos (u / 10)
        simp_all
      have := ih (u / 10) (by omega) (by omega)
      cases hd : decDigits (u / 10) with
      | nil => exact absurd hd hne
      | cons a r => rw [hd] at this; simpa using this
/-- a canonical text is the digits of its value -/
theorem dec_of (l : List UInt8) (h1 : 1 ≤ l.length) (h2 : ¬ (l.headD 0 = 48 ∧ 1 < l.length)) (h3 : l.all isDig) : l = decDigits (val l 0) := by
  have key : ∀ (k : Nat) (l : List UInt8), l.length = k + 1 → ¬ (l.headD 0 = 48 ∧ 1 < l.length) → l.all isDig → l = decDigits (val l 0) ∧ (1 < l.length → 10 ≤ val l 0) ∧ (l.headD 0 ≠ 48 → 0 < val l 0) := by
    intro k
    induction k with
    | zero =>
      intro l hl _ hd
      match l, hl with
      | [a], _ =>
        simp [isDig] at hd
        refine ⟨?_, by simp, ?_⟩
        · rw [decDigits, dif_pos (by simp [val]; omega)]
          simp [val]
          apply UInt8.toNat_inj.1
          simp
          omega
        · intro hne
          simp only [val]
          have : a.toNat ≠ 48 := fun e => hne (by simp; exact UInt8.toNat_inj.1 (by simpa using e))
          omega
    | succ k ih =>
      intro l hl hh hd
      obtain ⟨r, b, rfl⟩ : ∃ r b, l = r ++ [b] := by
        refine ⟨l.dropLast, l.getLast (by intro e; simp [e] at hl), ?_⟩
        exact (List.dropLast_concat_getLast _).symm
      have hr : r.length = k + 1 := by simpa using hl
      have hrh : r.headD 0 = (r ++ [b]).headD 0 := by cases r with | nil => simp at hr | cons a t => rfl
      simp only [List.all_append, Bool.and_eq_true] at hd
      have hne : r.headD 0 ≠ 48 := by intro e; rw [hrh] at e; exact hh ⟨e, by simp; omega⟩
      obtain ⟨e1, e2, e3⟩ := ih r hr (fun x => hne x.1) hd.1
      have hpos := e3 hne
      have hb : 48 ≤ b.toNat ∧ b.toNat ≤ 57 := by have := hd.2; simp [isDig] at this; exact this
      have hv : val (r ++ [b]) 0 = 10 * val r 0 + (b.toNat - 48) := val_append _ _ _
      refine ⟨?_, fun _ => by omega, fun _ => by omega⟩
      rw [hv, decDigits, dif_neg (by omega)]
      rw [show (10 * val r 0 + (b.toNat - 48)) / 10 = val r 0 by omega, show (10 * val r 0 + (b.toNat - 48)) % 10 = b.toNat - 48 by omega, ← e1]
      congr 2
      apply UInt8.toNat_inj.1
      simp
      omega
  exact (key (l.length - 1) l (by omega) h2 h3).1
theorem rd_dec (u : Nat) (h : u < 1000000) : rd (decDigits u) = u := by
  unfold rd
  have hl := dec_length u
  have hp := nDigits_pos u
  have h6 : nDigits u ≤ 6 := by
    by_cases c : u < 10
    · rw [nDigits_small c]; omega
    · by_cases c2 : u < 100
      · rw [nDigits_unique 1 u (by simp; omega) (by simp; omega)]; omega
      · by_cases c3 : u < 1000
        · rw [nDigits_unique 2 u (by simp; omega) (by simp; omega)]; omega
        · by_cases c4 : u < 10000
          · rw [nDigits_unique 3 u (by simp; omega) (by simp; omega)]; omega
          · by_cases c5 : u < 100000
            · rw [nDigits_unique 4 u (by simp; omega) (by simp; omega)]; omega
            · rw [nDigits_unique 5 u (by simp; omega) (by simp; omega)]; omega
  have hz : ¬ ((decDigits u).headD 0 = 48 ∧ 1 < (decDigits u).length) := by
    rintro ⟨a, b⟩
    by_cases c : u = 0
    · subst c; rw [hl, nDigits_small (by omega)] at b; omega
    · exact dec_head u (by omega) a
  rw [if_pos ⟨by omega, by omega, hz, dec_dig u⟩, dec_val]
theorem rd_is (l : List UInt8) (n : Int) (h : rd l = n) (h0 : 0 ≤ n) : l = decDigits n.toNat ∧ n < 1000000 := by
  unfold rd at h
  split at h
  · rename_i c
    obtain ⟨c1, c2, c3, c4⟩ := c
    have hv : (val l 0 : Int).toNat = val l 0 := by simp
    subst h
    refine ⟨by rw [hv]; exact dec_of l c1 c3 c4, ?_⟩
    have := val_lt l 0 c4
    have : (10 : Nat) ^ l.length ≤ 10 ^ 6 := Nat.pow_le_pow_right (by omega) c2
    omega
  · omega
theorem val_ge (l : List UInt8) (n : Nat) : n ≤ val l n := by
  induction l generalizing n with
  | nil => exact Nat.le_refl _
  | cons a r ih => simp only [val]; have := ih (10 * n + (a.toNat - 48)); omega
theorem pu_val (l : List UInt8) (n : Nat) (h : l.all isDig) (hb : val l n < 1000000000) : parseUint10 n l = .ok (val l n) := by
  induction l generalizing n with
  | nil => rfl
  | cons a r ih =>
    simp only [List.all_cons, Bool.and_eq_true] at h
    have ha := h.1
    simp [isDig] at ha
    have hg := val_ge r (10 * n + (a.toNat - 48))
    simp only [val] at hb ⊢
    unfold parseUint10
    rw [if_pos ha, if_neg (by omega), if_neg (by omega), show n * 10 + (a.toNat - 48) = 10 * n + (a.toNat - 48) by omega]
    exact ih _ h.2 hb
theorem atoi_dec (u : Nat) (h : u < 1000000) : atoiAll (decDigits u) = .ok (u : Int) := by
  have hd := dec_dig u
  have hv := dec_val u
  have hp := dec_length u
  have hn := nDigits_pos u
  cases hl : decDigits u with
  | nil => rw [hl] at hp; simp at hp; omega
  | cons c r =>
    rw [hl] at hd hv
    have hc : 48 ≤ c.toNat ∧ c.toNat ≤ 57 := by
      have := hd
      simp only [List.all_cons, Bool.and_eq_true] at this
      have := this.1
      simpa [isDig] using this
    unfold atoiAll
    simp only
    rw [if_neg (by omega)]
    unfold parseMag
    rw [if_neg (by simp), pu_val _ 0 hd (by rw [hv]; omega), hv]
    simp only
    rw [if_neg (by omega), if_neg (by omega), if_neg (by omega)]
end Rd
