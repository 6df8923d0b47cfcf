/-
  Plain words of chapter 5: sums of walks, people that are good, the nearest box. No program's text here.
-/
import Derived.Test.YtkhjjafeoijaaaaNuF
import Derived.Test.YtkhjjafeoijaaaaPoR
import Derived.Lib.Small
import Derived.Shelf.SlCmpFuncs.MinMaxFunc
namespace Go.Proofs
open Go.RowKit
set_option linter.unusedVariables false
set_option linter.unusedSimpArgs false
/-- the sum of f over 0..n-1 -/
def sumF (f : Nat → Int) : Nat → Int | 0 => 0 | n + 1 => sumF f n + f n
theorem sumF_zero (f : Nat → Int) : sumF f 0 = 0 := rfl
theorem sumF_succ (f : Nat → Int) (n : Nat) : sumF f (n + 1) = sumF f n + f n := rfl
theorem sumF_ext {f g : Nat → Int} {n : Nat} (h : ∀ i, i < n → f i = g i) : sumF f n = sumF g n := by
  induction n with
  | zero => rfl
  | succ n ih => rw [sumF_succ, sumF_succ, ih (fun i hi => h i (by omega)), h n (by omega)]
theorem sumF_bd {f : Nat → Int} {n : Nat} {K : Int} (h : ∀ i, i < n → 0 ≤ f i ∧ f i ≤ K) : 0 ≤ sumF f n ∧ sumF f n ≤ K * n := by
  induction n with
  | zero => simp [sumF]
  | succ n ih =>
    have a := ih (fun i hi => h i (by omega))
    have b := h n (by omega)
    rw [sumF_succ]
    refine ⟨by omega, ?_⟩
    have : K * ((n + 1 : Nat) : Int) = K * n + K := by rw [Int.natCast_succ, Int.mul_add, Int.mul_one]
    omega
theorem sumF_split (f : Nat → Int) (m n : Nat) : sumF f (m + n) = sumF f m + sumF (fun i => f (m + i)) n := by
  induction n with
  | zero => simp [sumF]
  | succ n ih => rw [← Nat.add_assoc, sumF_succ, ih, sumF_succ, Int.add_assoc]
theorem sumF_zeros {f : Nat → Int} {n : Nat} (h : ∀ i, i < n → f i = 0) : sumF f n = 0 := by
  induction n with
  | zero => rfl
  | succ n ih => rw [sumF_succ, ih (fun i hi => h i (by omega)), h n (by omega)]; rfl
/-- a sum of what is not negative is nothing just if all is nothing -/
theorem sumF_pos {f : Nat → Int} {n : Nat} (h : ∀ i, i < n → 0 ≤ f i) : 0 < sumF f n ↔ ∃ i, i < n ∧ 0 < f i := by
  induction n with
  | zero => simp [sumF]
  | succ n ih =>
    have a := ih (fun i hi => h i (by omega))
    have nn : 0 ≤ sumF f n := by
      clear a ih
      induction n with
      | zero => simp [sumF]
      | succ n ih => rw [sumF_succ]; have := ih (fun i hi => h i (by omega)); have := h n (by omega); omega
    rw [sumF_succ]
    constructor
    · intro p
      by_cases c : 0 < f n
      · exact ⟨n, by omega, c⟩
      · have := h n (by omega)
        obtain ⟨i, hi, q⟩ := a.1 (by omega)
        exact ⟨i, by omega, q⟩
    · rintro ⟨i, hi, q⟩
      rcases Nat.lt_or_eq_of_le (Nat.le_of_lt_succ hi) with c | c
      · have := a.2 ⟨i, c, q⟩; have := h n (by omega); omega
      · subst c; omega
def gx (xs : List Int) (i : Nat) : Int := xs.getD i 0
def GoodP (xs : List Int) : Prop := (1 ≤ xs.length ∧ xs.length ≤ 60) ∧ AllIn xs 0 1000 ∧ 0 < sumF (gx xs) xs.length
theorem GoodP.bd {xs : List Int} (h : GoodP xs) (i : Nat) : 0 ≤ gx xs i ∧ gx xs i ≤ 1000 := by
  by_cases c : i < xs.length
  · exact inn_e (h.2.1 i c)
  · simp [gx, List.getD, show xs[i]? = none by simp; omega]
def HouseP (xs : List Int) (n : Int) : Prop := GoodP xs ∧ 0 ≤ n ∧ n ≤ (xs.length : Int) - 1
def avv (n : Int) : Int := if 0 ≤ n then n else -n
set_option maxHeartbeats 400000 in
theorem Try.l1AbsM (n : Int) (w : World) (h : -1000000 ≤ n) (g : n ≤ 1000000) :
    Calls Try.prog 35 #[.int .i64 n] w fun e w' => e = .returned (.int .i64 (avv n)) ∧ w = w' := by
  go_enter Try.func35, Try.ntmps35
  go_wp2
  all_goals
    go_ret
    exact ⟨ri (by (try simp only [beq_iff_eq, beq_eq_false_iff_ne, bne_iff_ne, ne_eq, decide_eq_true_eq, decide_eq_false_iff_not] at *); (try unfold avv); omega), rfl⟩
def walksI (xs : List Int) (h : Int) : Int := sumF (fun i => gx xs i * avv ((i : Int) - h)) xs.length
theorem avv_nn (n : Int) : 0 ≤ avv n := by unfold avv; split <;> omega
theorem avv_le {n K : Int} (h : -K ≤ n) (g : n ≤ K) : avv n ≤ K := by unfold avv; split <;> omega
theorem mul_bd {a b A B : Int} (a0 : 0 ≤ a) (a1 : a ≤ A) (b0 : 0 ≤ b) (b1 : b ≤ B) : 0 ≤ a * b ∧ a * b ≤ A * B :=
  ⟨Int.mul_nonneg a0 b0, Int.mul_le_mul a1 b1 b0 (by omega)⟩
/-- the nearest of the first n boxes to a house -/
def nearN (bs : List Int) (h : Int) : Nat → Int
  | 0 => gx bs 0
  | n + 1 => if avv (gx bs n - h) < avv (nearN bs h n - h) then gx bs n else nearN bs h n
def near (bs : List Int) (h : Int) : Int := nearN bs h bs.length
theorem nearN_in (bs : List Int) (h : Int) (n : Nat) (hn : n ≤ bs.length) (h0 : 0 < bs.length) : ∃ j, j < bs.length ∧ nearN bs h n = gx bs j := by
  induction n with
  | zero => exact ⟨0, h0, rfl⟩
  | succ n ih =>
    unfold nearN
    split
    · exact ⟨n, by omega, rfl⟩
    · exact ih (by omega)
theorem near_pick (bs : List Int) (h : Int) (i : Nat) (hi : i < bs.length) :
    Lib.pickBy (fun x m => decide (Lib.compareInt (avv (x - h)) (avv (m - h)) < 0)) bs.toArray i = nearN bs h (i + 1) := by
  have g0 : ∀ j, j < bs.length → bs.toArray[j]! = gx bs j := fun j hj => by simp [gx, List.getD, hj]
  have lt : ∀ a b : Int, (decide (Lib.compareInt a b < 0) = true) = (a < b) := fun a b => by
    unfold Lib.compareInt
    by_cases h1 : a < b
    · simp [h1]
    · by_cases h2 : a > b <;> simp [h1, h2]
  induction i with
  | zero => simp [Lib.pickBy, nearN, g0 0 hi]
  | succ i ih =>
    rw [Lib.pickBy, ih (by omega), g0 _ hi]
    conv => rhs; rw [nearN]
    simp only [lt]
end Go.Proofs
