/-
  Plain mathematics of chapter 1: ranges of houses with a sum, told by the first one or by how many they are. No program in this text.
-/
import Derived.Test.YtbnkhmemicmadaaNuMath
namespace Nu
theorem sorted_same {xs ys : List (Int × Int)} (hx : xs.Pairwise fun p q => p.1 < q.1) (hy : ys.Pairwise fun p q => p.1 < q.1) (hm : ∀ a, a ∈ xs ↔ a ∈ ys) : xs = ys := by
  have nx : xs.Nodup := hx.imp fun h e => by rw [e] at h; omega
  have ny : ys.Nodup := hy.imp fun h e => by rw [e] at h; omega
  exact ((List.perm_ext_iff_of_nodup nx ny).2 hm).eq_of_pairwise (le := fun p q => p.1 < q.1) (fun a b _ _ h1 h2 => by omega) hx hy
theorem su_lt {a b : Int} (h0 : 0 ≤ a) (h : a < b) : su a + b ≤ su b := by
  have e := su_succ (b - 1)
  rw [show b - 1 + 1 = b by omega] at e
  have := su_mono a (b - 1) h0 (by omega)
  omega
/-- the houses from p.1 to p.2 have the sum s -/
def Rg (s : Int) (p : Int × Int) : Prop := 1 ≤ p.1 ∧ p.1 ≤ p.2 ∧ su p.2 - su (p.1 - 1) = s
theorem rg_le {s : Int} {p : Int × Int} (h : Rg s p) : p.1 ≤ s ∧ p.2 ≤ s := by
  obtain ⟨a, b, c⟩ := h
  have := su_lt (a := p.1 - 1) (b := p.2) (by omega) (by omega)
  omega
/-- where the sum from f on is no longer less at l, though it was at l - 1: l alone can be the last one -/
theorem rg_at {s f l : Int} (hs : 1 ≤ s) (hf : 1 ≤ f) (hl : 0 ≤ l) (hb : l = 0 ∨ su (l - 1) - su (f - 1) < s) (ha : s ≤ su l - su (f - 1)) (q : Int) : Rg s (f, q) ↔ q = l ∧ su l - su (f - 1) = s := by
  unfold Rg
  simp only
  constructor
  · rintro ⟨_, b, c⟩
    have hq : q = l := by
      rcases Int.lt_trichotomy q l with h | h | h
      · have := su_mono q (l - 1) (by omega) (by omega)
        omega
      · exact h
      · have := su_lt hl h
        omega
    exact ⟨hq, by rw [← hq]; exact c⟩
  · rintro ⟨rfl, c⟩
    refine ⟨hf, ?_, c⟩
    rcases Int.lt_or_le q f with h | h
    · have := su_mono q (f - 1) hl (by omega)
      omega
    · exact h
theorem rg_end {s f : Int} (hf : 1 ≤ f) (hs : f ≤ s) : s ≤ su s - su (f - 1) := by
  have := su_lt (a := f - 1) (b := s) (by omega) (by omega)
  omega
/-- what lies over the least sum of so many -/
def ov (s m : Int) : Int := s - m * (m - 1) / 2
theorem su_len (f m : Int) : su (f + m - 1) - su (f - 1) = m * f + m * (m - 1) / 2 := by
  have a := su2 (f + m - 1); have b := su2 (f - 1)
  have c := su2 (m - 1)
  rw [show m - 1 + 1 = m by omega] at c
  have d : su (m - 1) = m * (m - 1) / 2 := by unfold su; rw [show m - 1 + 1 = m by omega, Int.mul_comm]
  rw [← d]
  grind
theorem rg_many {s m : Int} (hm : 1 ≤ m) (p : Int × Int) : (Rg s p ∧ p.2 - p.1 + 1 = m) ↔ (0 < ov s m ∧ ov s m % m = 0 ∧ p = (ov s m / m, ov s m / m + m - 1)) := by
  obtain ⟨f, l⟩ := p
  unfold Rg
  simp only [Prod.mk.injEq]
  constructor
  · rintro ⟨⟨a, b, c⟩, d⟩
    obtain rfl : l = f + m - 1 := by omega
    rw [su_len f m] at c
    have e : ov s m = m * f := by unfold ov; omega
    rw [e]
    have hp : 0 < m * f := Int.mul_pos (by omega) (by omega)
    have hd : m * f / m = f := Int.mul_ediv_cancel_left f (by omega)
    rw [hd]
    exact ⟨hp, Int.mul_emod_right m f, rfl, rfl⟩
  · rintro ⟨a, b, rfl, rfl⟩
    have e : ov s m = m * (ov s m / m) := by have := Int.mul_ediv_add_emod (ov s m) m; omega
    have hp : 1 ≤ ov s m / m := by
      rcases Int.lt_or_le (ov s m / m) 1 with h | h
      · have : m * (ov s m / m) ≤ m * 0 := Int.mul_le_mul_of_nonneg_left (by omega) (by omega)
        rw [Int.mul_zero] at this; omega
      · exact h
    refine ⟨⟨hp, by omega, ?_⟩, by omega⟩
    rw [su_len, ← e]
    unfold ov; omega
theorem rg_order {s : Int} {p q : Int × Int} (hp : Rg s p) (hq : Rg s q) (h : q.2 - q.1 < p.2 - p.1) : p.1 < q.1 := by
  obtain ⟨f, l⟩ := p; obtain ⟨g, k⟩ := q
  unfold Rg at hp hq
  simp only at hp hq h ⊢
  obtain ⟨a, b, c⟩ := hp; obtain ⟨a', b', c'⟩ := hq
  rcases Int.lt_or_le f g with x | x
  · exact x
  · exfalso
    have e1 := su_len f (l - f + 1)
    rw [show f + (l - f + 1) - 1 = l by omega] at e1
    have e2 := su_len g (k - g + 1)
    rw [show g + (k - g + 1) - 1 = k by omega] at e2
    have h1 : (k - g + 1) * g ≤ (k - g + 1) * f := Int.mul_le_mul_of_nonneg_left x (by omega)
    have h2 : (k - g + 2) * f ≤ (l - f + 1) * f := Int.mul_le_mul_of_nonneg_right (by omega) (by omega)
    have h3 : (k - g + 2) * f = (k - g + 1) * f + f := by grind
    have h4 : (k - g + 1) * (k - g + 1 - 1) ≤ (l - f + 1) * (l - f + 1 - 1) := Int.mul_le_mul (by omega) (by omega) (by omega) (by omega)
    have h5 : (k - g + 1) * (k - g + 1 - 1) / 2 ≤ (l - f + 1) * (l - f + 1 - 1) / 2 := Int.ediv_le_ediv (by omega) h4
    omega
end Nu
