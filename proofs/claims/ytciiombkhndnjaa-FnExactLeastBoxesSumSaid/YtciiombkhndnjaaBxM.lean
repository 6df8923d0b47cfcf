/-
  Plain words of chapter 5: sums between boxes, the least sum with so many boxes behind one, the first boxes. No program's text here.
-/
import Derived.Test.YtciiombkhndnjaaMdF
namespace Go.Proofs
open Go.RowKit
set_option linter.unusedVariables false
set_option linter.unusedSimpArgs false
def big : Int := 1000000000
/-- how far one goes who lives between the boxes a and b -/
def dsf (n : Nat) (a : Int) (b i : Nat) : Int := if 0 ≤ a then (if b < n then min ((i : Int) - a) ((b : Int) - i) else (i : Int) - a) else (if b < n then min big ((b : Int) - i) else big)
def ptf (xs : List Int) (a : Int) (b i : Nat) : Int := gx xs i * dsf xs.length a b i
def lo0 (a : Int) : Nat := (max a 0).toNat
def pt (xs : List Int) (a : Int) (b : Nat) : Int := sumF (fun j => ptf xs a b (lo0 a + j)) (b - lo0 a)
theorem ptf_bd {xs : List Int} (hg : GoodP xs) {a : Int} {b i : Nat} (h1 : lo0 a ≤ i) (h2 : i < b) (h3 : b ≤ xs.length) (h4 : 0 ≤ a ∨ b < xs.length) : 0 ≤ dsf xs.length a b i ∧ dsf xs.length a b i ≤ 60 ∧ 0 ≤ ptf xs a b i ∧ ptf xs a b i ≤ 60000 := by
  have g := hg.bd i
  have l := hg.1.2
  have d : 0 ≤ dsf xs.length a b i ∧ dsf xs.length a b i ≤ 60 := by
    unfold lo0 at h1
    unfold dsf big
    split <;> split <;> omega
  exact ⟨d.1, d.2, (mul_bd g.1 g.2 d.1 d.2).1, (mul_bd g.1 g.2 d.1 d.2).2⟩
theorem pt_bd {xs : List Int} (hg : GoodP xs) {a : Int} {b : Nat} (h3 : b ≤ xs.length) (h4 : 0 ≤ a ∨ b < xs.length) : 0 ≤ pt xs a b ∧ pt xs a b ≤ 3600000 := by
  have l := hg.1.2
  have := sumF_bd (f := fun j => ptf xs a b (lo0 a + j)) (n := b - lo0 a) (K := 60000) (fun j hj => (ptf_bd hg (a := a) (b := b) (i := lo0 a + j) (by omega) (by omega) h3 h4).2.2)
  unfold pt
  omega
theorem near_two {a b i : Int} (h1 : a ≤ i) (h2 : i ≤ b) : avv (i - near [a, b] i) = min (i - a) (b - i) := by
  have e : near [a, b] i = if avv (b - i) < avv (a - i) then b else a := by simp [near, nearN, gx]
  rw [e]
  unfold avv
  split <;> (split at * <;> try split at *) <;> omega
/-- what the program sums between two boxes -/
theorem part_two {xs : List Int} {a b : Nat} (h1 : a ≤ b) (h2 : b < xs.length) : sumF (stf xs [(a : Int), (b : Int)] a) (b - a) = pt xs (a : Int) b := by
  unfold pt
  have e : lo0 (a : Int) = a := by unfold lo0; omega
  rw [e]
  refine sumF_ext fun j hj => ?_
  unfold stf ptf dsf
  rw [near_two (by omega) (by omega), if_pos (by omega), if_pos h2, Int.natCast_add]
theorem part_first {xs : List Int} {b : Nat} (h2 : b < xs.length) (hl : xs.length ≤ 60) : sumF (stf xs [-120, (b : Int)] 0) b = pt xs (-1) b := by
  unfold pt
  have e : lo0 (-1) = 0 := by unfold lo0; omega
  rw [e, Nat.sub_zero]
  refine sumF_ext fun j hj => ?_
  unfold stf ptf dsf big
  rw [near_two (by omega) (by omega), if_neg (by omega), if_pos h2, Nat.zero_add]
  congr 1
  omega
theorem part_last {xs : List Int} {a : Nat} : sumF (stf xs [(a : Int)] a) (xs.length - a) = pt xs (a : Int) xs.length := by
  unfold pt
  have e : lo0 (a : Int) = a := by unfold lo0; omega
  rw [e]
  refine sumF_ext fun j hj => ?_
  have hn : near [(a : Int)] ((a : Int) + (j : Int)) = (a : Int) := by simp [near, nearN, gx]
  unfold stf ptf dsf
  rw [hn, if_pos (by omega), if_neg (by omega), Int.natCast_add]
  congr 1
  unfold avv
  split <;> omega
/-- the least of some numbers, the first of the least ones -/
def fmn (g : Nat → Int) (lo : Nat) : Nat → Int
  | 0 => big
  | m + 1 => min (fmn g lo m) (g (lo + m))
def fam (g : Nat → Int) (lo : Nat) : Nat → Int × Int
  | 0 => (-1, big)
  | m + 1 => if g (lo + m) < (fam g lo m).2 then (((lo + m : Nat) : Int), g (lo + m)) else fam g lo m
theorem fam_s (g : Nat → Int) (lo m : Nat) : fam g lo (m + 1) = if g (lo + m) < (fam g lo m).2 then (((lo + m : Nat) : Int), g (lo + m)) else fam g lo m := rfl
theorem fam_min (g : Nat → Int) (lo m : Nat) : (fam g lo m).2 = fmn g lo m := by
  induction m with
  | zero => rfl
  | succ m ih =>
    rw [fam_s, show fmn g lo (m + 1) = min (fmn g lo m) (g (lo + m)) from rfl, ← ih]
    split <;> (try simp only) <;> omega
theorem fmn_le (g : Nat → Int) (lo m : Nat) : fmn g lo m ≤ big := by
  induction m with
  | zero => exact Int.le_refl _
  | succ m ih => have : fmn g lo (m + 1) = min (fmn g lo m) (g (lo + m)) := rfl; omega
theorem fmn_at (g : Nat → Int) (lo m t : Nat) (h : t < m) : fmn g lo m ≤ g (lo + t) := by
  induction m with
  | zero => omega
  | succ m ih =>
    have e : fmn g lo (m + 1) = min (fmn g lo m) (g (lo + m)) := rfl
    rcases Nat.lt_or_eq_of_le (Nat.le_of_lt_succ h) with c | c
    · have := ih c; omega
    · subst c; omega
theorem fam_tail (g : Nat → Int) (lo m r : Nat) (h : ∀ t, m ≤ t → t < m + r → big ≤ g (lo + t)) : fam g lo (m + r) = fam g lo m := by
  induction r with
  | zero => rfl
  | succ r ih =>
    rw [← Nat.add_assoc, fam_s, ih (fun t h1 h2 => h t h1 (by omega)), if_neg]
    have := h (m + r) (by omega) (by omega)
    have := fmn_le g lo m
    rw [fam_min]
    omega
theorem fam_in (g : Nat → Int) (lo m : Nat) (h : fmn g lo m < big) : ∃ t, t < m ∧ (fam g lo m).1 = ((lo + t : Nat) : Int) ∧ (fam g lo m).2 = g (lo + t) := by
  induction m with
  | zero => exact absurd h (by simp [fmn])
  | succ m ih =>
    rw [fam_s]
    by_cases c : g (lo + m) < (fam g lo m).2
    · rw [if_pos c]; exact ⟨m, by omega, rfl, rfl⟩
    · rw [if_neg c]
      have e : fmn g lo (m + 1) = min (fmn g lo m) (g (lo + m)) := rfl
      rw [fam_min] at c
      obtain ⟨t, a, b, d⟩ := ih (by omega)
      exact ⟨t, by omega, b, d⟩
/-- the same without a first value that is too great -/
def ibs (g : Nat → Int) (lo : Nat) : Nat → Int × Int
  | 0 => (-1, 0)
  | m + 1 => if m = 0 ∨ g (lo + m) < (ibs g lo m).2 then (((lo + m : Nat) : Int), g (lo + m)) else ibs g lo m
theorem ibs_s (g : Nat → Int) (lo m : Nat) : ibs g lo (m + 1) = if m = 0 ∨ g (lo + m) < (ibs g lo m).2 then (((lo + m : Nat) : Int), g (lo + m)) else ibs g lo m := rfl
theorem ibs_fam (g : Nat → Int) (lo m : Nat) (h0 : 0 < m) (h : ∀ t, t < m → g (lo + t) < big) : ibs g lo m = fam g lo m := by
  induction m with
  | zero => omega
  | succ m ih =>
    rw [ibs_s, fam_s]
    rcases Nat.eq_zero_or_pos m with e | e
    · subst e
      rw [if_pos (.inl rfl), if_pos]
      have := h 0 (by omega)
      exact this
    · rw [ih e (fun t ht => h t (by omega))]
      by_cases c : g (lo + m) < (fam g lo m).2
      · rw [if_pos c, if_pos (.inr c)]
      · rw [if_neg c, if_neg (fun q => q.elim (by omega) c)]
/-- the least sum of those behind a box with so many boxes more -/
def rsN (xs : List Int) : Nat → Nat → Int
  | 0, j => pt xs (j : Int) xs.length
  | k + 1, j => fmn (fun t => pt xs (j : Int) t + rsN xs k t) (j + 1) (xs.length - (j + 1))
def Gg (xs : List Int) (k : Nat) (a : Int) (t : Nat) : Int := pt xs a t + rsN xs k t
theorem rsN_s (xs : List Int) (k j : Nat) : rsN xs (k + 1) j = fmn (Gg xs k (j : Int)) (j + 1) (xs.length - (j + 1)) := rfl
theorem rsN_nn {xs : List Int} (hg : GoodP xs) : ∀ k r, r < xs.length → 0 ≤ rsN xs k r ∧ rsN xs k r ≤ big := by
  intro k
  induction k with
  | zero => intro r hr; have := pt_bd hg (a := (r : Int)) (Nat.le_refl xs.length) (.inl (by omega)); have e : rsN xs 0 r = pt xs (r : Int) xs.length := rfl; rw [e]; unfold big; omega
  | succ k ih4 =>
    intro r hr
    rw [rsN_s]
    refine ⟨?_, fmn_le _ _ _⟩
    have key2 : ∀ s, s ≤ xs.length - (r + 1) → 0 ≤ fmn (Gg xs k (r : Int)) (r + 1) s := by
      intro s
      induction s with
      | zero => intro _; show (0 : Int) ≤ big; unfold big; omega
      | succ s ih5 =>
        intro hs
        have a := ih5 (by omega)
        have b := (pt_bd hg (a := (r : Int)) (b := r + 1 + s) (by omega) (.inl (by omega))).1
        have c := (ih4 (r + 1 + s) (by omega)).1
        show 0 ≤ min _ (pt xs (r : Int) (r + 1 + s) + rsN xs k (r + 1 + s))
        omega
    exact key2 _ (Nat.le_refl _)
theorem rsN_bd {xs : List Int} (hg : GoodP xs) (k : Nat) : ∀ j, k + j < xs.length → 0 ≤ rsN xs k j ∧ rsN xs k j ≤ 4000000 * ((k : Int) + 1) := by
  induction k with
  | zero =>
    intro j hj
    have := pt_bd hg (a := (j : Int)) (b := xs.length) (Nat.le_refl _) (.inl (by omega))
    have e : rsN xs 0 j = pt xs (j : Int) xs.length := rfl
    rw [e]; omega
  | succ k ih =>
    intro j hj
    have hl := hg.1.2
    refine ⟨(rsN_nn hg (k + 1) j (by omega)).1, ?_⟩
    rw [rsN_s]
    have a := fmn_at (Gg xs k (j : Int)) (j + 1) (xs.length - (j + 1)) 0 (by omega)
    have b := pt_bd hg (a := (j : Int)) (b := j + 1) (by omega) (.inl (by omega))
    have c := ih (j + 1) (by omega)
    have e : Gg xs k (j : Int) (j + 1 + 0) = pt xs (j : Int) (j + 1) + rsN xs k (j + 1) := rfl
    rw [e] at a
    have : (4000000 : Int) * (((k + 1 : Nat) : Int) + 1) = 4000000 * ((k : Int) + 1) + 4000000 := by rw [Int.natCast_succ]; omega
    omega
theorem rsN_big {xs : List Int} (hg : GoodP xs) (k : Nat) : ∀ j, j < xs.length → xs.length ≤ k + j → rsN xs k j = big := by
  induction k with
  | zero => intro j h1 h2; omega
  | succ k ih =>
    intro j h1 h2
    rw [rsN_s, ← fam_min]
    have := fam_tail (Gg xs k (j : Int)) (j + 1) 0 (xs.length - (j + 1)) (fun t _ ht => by
      have a := ih (j + 1 + t) (by omega) (by omega)
      have b := pt_bd hg (a := (j : Int)) (b := j + 1 + t) (by omega) (.inl (by omega))
      show big ≤ pt xs (j : Int) (j + 1 + t) + rsN xs k (j + 1 + t)
      omega)
    rw [Nat.zero_add] at this
    rw [this]
    rfl
/-- which box comes behind the box a, with k more behind that one -/
def sel (xs : List Int) (k : Nat) (a : Int) : Int × Int := fam (Gg xs k a) (a + 1).toNat (xs.length - (a + 1).toNat)
theorem sel_ok {xs : List Int} (hg : GoodP xs) {k : Nat} {a : Int} (ha : -1 ≤ a) (hk : k ≤ 4) (hf : (a + 1).toNat + k < xs.length) :
    ∃ t : Nat, (sel xs k a).1 = (t : Int) ∧ (a + 1).toNat ≤ t ∧ t + k < xs.length ∧ (sel xs k a).2 = Gg xs k a t ∧ (sel xs k a).2 < big ∧ sel xs k a = fam (Gg xs k a) (a + 1).toNat (xs.length - k - (a + 1).toNat) ∧ ∀ t, (a + 1).toNat ≤ t → t + k < xs.length → 0 ≤ Gg xs k a t ∧ Gg xs k a t < big := by
  have hb : ∀ t, (a + 1).toNat ≤ t → t + k < xs.length → 0 ≤ Gg xs k a t ∧ Gg xs k a t < big := fun t h1 h2 => by
    have p := pt_bd hg (a := a) (b := t) (by omega) (.inr (by omega))
    have r := rsN_bd hg k t (by omega)
    unfold Gg big
    omega
  have e : sel xs k a = fam (Gg xs k a) (a + 1).toNat (xs.length - k - (a + 1).toNat) := by
    have := fam_tail (Gg xs k a) (a + 1).toNat (xs.length - k - (a + 1).toNat) k (fun t h1 h2 => by
      have r := rsN_big hg k ((a + 1).toNat + t) (by omega) (by omega)
      have p := pt_bd hg (a := a) (b := (a + 1).toNat + t) (by omega) (.inr (by omega))
      show big ≤ pt xs a ((a + 1).toNat + t) + rsN xs k ((a + 1).toNat + t)
      omega)
    unfold sel
    rw [show xs.length - (a + 1).toNat = xs.length - k - (a + 1).toNat + k by omega]
    exact this
  have lt : fmn (Gg xs k a) (a + 1).toNat (xs.length - k - (a + 1).toNat) < big := by
    have c := fmn_at (Gg xs k a) (a + 1).toNat (xs.length - k - (a + 1).toNat) 0 (by omega)
    have d := hb ((a + 1).toNat + 0) (by omega) (by omega)
    omega
  obtain ⟨t, ht, e1, e2⟩ := fam_in _ _ _ lt
  rw [← e] at e1 e2
  refine ⟨(a + 1).toNat + t, e1, by omega, by omega, e2, ?_, e, hb⟩
  rw [e, fam_min]
  exact lt
/-- the boxes from the box j on, with k more -/
def bxN (xs : List Int) : Nat → Nat → List Int
  | 0, j => [(j : Int)]
  | k + 1, j => (j : Int) :: bxN xs k (sel xs k (j : Int)).1.toNat
theorem bxN_len (xs : List Int) (k : Nat) : ∀ j, (bxN xs k j).length = k + 1 := by
  induction k with
  | zero => intro j; rfl
  | succ k ih => intro j; simp [bxN, ih]
def wayB (xs : List Int) (k : Nat) (a : Int) : List Int := bxN xs k (sel xs k a).1.toNat
theorem wayB_s (xs : List Int) (k : Nat) (a : Int) : wayB xs (k + 1) a = (((sel xs (k + 1) a).1.toNat : Nat) : Int) :: wayB xs k (((sel xs (k + 1) a).1.toNat : Nat) : Int) := rfl
theorem wayB_z (xs : List Int) (a : Int) : wayB xs 0 a = [(((sel xs 0 a).1.toNat : Nat) : Int)] := rfl
end Go.Proofs
