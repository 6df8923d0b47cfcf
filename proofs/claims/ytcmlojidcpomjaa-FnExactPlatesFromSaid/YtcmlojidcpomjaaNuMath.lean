/-
  Plain mathematics of chapter 1: digits on plates, a digit counted place by place, balanced houses. No program in this text.
-/
namespace Nu

/-! ## Digits on plates -/
def dl (n : Int) : Int :=
  (if 1 ≤ n then 1 else 0) + (if 10 ≤ n then 1 else 0) + (if 100 ≤ n then 1 else 0) + (if 1000 ≤ n then 1 else 0) + (if 10000 ≤ n then 1 else 0) + (if 100000 ≤ n then 1 else 0) + (if 1000000 ≤ n then 1 else 0)
def dsum (m : Int) : Int :=
  (if 1 ≤ m then m else 0) + (if 10 ≤ m then m - 9 else 0) + (if 100 ≤ m then m - 99 else 0) + (if 1000 ≤ m then m - 999 else 0) + (if 10000 ≤ m then m - 9999 else 0) + (if 100000 ≤ m then m - 99999 else 0) + (if 1000000 ≤ m then m - 999999 else 0)

theorem dsum_succ (n : Int) : dsum (n + 1) = dsum n + dl (n + 1) := by
  unfold dsum dl; omega
theorem dsum_zero : dsum 0 = 0 := by decide
theorem dl_bd (n : Int) (h : 1 ≤ n) : 1 ≤ dl n ∧ dl n ≤ 7 := by unfold dl; omega
theorem dsum_bd (n : Int) (h : 0 ≤ n) (h2 : n ≤ 1000000) : 0 ≤ dsum n ∧ dsum n ≤ 7 * n ∧ n ≤ dsum n := by unfold dsum; omega
theorem dsum_mono (a b : Int) (h : a ≤ b) (h0 : 0 ≤ a) : dsum a ≤ dsum b := by unfold dsum; omega

/-- ten to the i -/
def tp : Nat → Int
  | 0 => 1 | 1 => 10 | 2 => 100 | 3 => 1000 | 4 => 10000 | 5 => 100000 | 6 => 1000000 | _ => 10000000
def cs (m : Int) : Nat → Int
  | 0 => 0
  | i + 1 => cs m i + (m - tp i + 1)
theorem tp_bd (i : Nat) : 1 ≤ tp i ∧ tp i ≤ 10000000 := by
  match i with
  | 0 | 1 | 2 | 3 | 4 | 5 | 6 => decide
  | _ + 7 => simp [tp]
theorem tp_succ (i : Nat) (h : i < 7) : tp (i + 1) = tp i * 10 := by
  match i, h with | 0, _ | 1, _ | 2, _ | 3, _ | 4, _ | 5, _ | 6, _ => decide
theorem tp_mono (i j : Nat) (h : i ≤ j) (hj : j ≤ 7) : tp i ≤ tp j := by
  induction j with
  | zero => have : i = 0 := by omega
            subst this; exact Int.le_refl _
  | succ j ih =>
    rcases Nat.lt_or_eq_of_le h with c | c
    · have a := ih (by omega) (by omega)
      have b := tp_succ j (by omega)
      have e := tp_bd j
      omega
    · rw [c]; exact Int.le_refl _
theorem tp_lt (i : Nat) (m : Int) (h : m ≤ 1000000) (h2 : tp i ≤ m) : i < 7 := by
  match i with
  | 0 | 1 | 2 | 3 | 4 | 5 | 6 => decide
  | _ + 7 => simp [tp] at h2; omega
theorem cs_end (m : Int) (i : Nat) (h1 : 1 ≤ m) (h : i ≤ 7) (ha : ∀ j, j < i → tp j ≤ m) (hb : m < tp i) : cs m i = dsum m := by
  match i, h with
  | 0, _ => simp [tp] at hb; omega
  | 1, _ => have := ha 0 (by decide); simp [tp, cs] at *; unfold dsum; omega
  | 2, _ => have := ha 1 (by decide); simp [tp, cs] at *; unfold dsum; omega
  | 3, _ => have := ha 2 (by decide); simp [tp, cs] at *; unfold dsum; omega
  | 4, _ => have := ha 3 (by decide); simp [tp, cs] at *; unfold dsum; omega
  | 5, _ => have := ha 4 (by decide); simp [tp, cs] at *; unfold dsum; omega
  | 6, _ => have := ha 5 (by decide); simp [tp, cs] at *; unfold dsum; omega
  | 7, _ => have := ha 6 (by decide); simp [tp, cs] at *; unfold dsum; omega
theorem cs_bd (m : Int) (i : Nat) (h : i ≤ 7) (h1 : 1 ≤ m) (h2 : m ≤ 1000000) : -10000000 ≤ cs m i ∧ cs m i ≤ 10000000 := by
  match i, h with
  | 0, _ | 1, _ | 2, _ | 3, _ | 4, _ | 5, _ | 6, _ | 7, _ => simp [tp, cs] ; try omega

/-! ## A digit counted -/
def pc (u m d : Int) : Int :=
  (m / (u * 10) - (if d = 0 then 1 else 0)) * u + (if d < m / u % 10 then u else if d = m / u % 10 then m % u + 1 else 0)
def is (c : Prop) [Decidable c] : Int := if c then 1 else 0
def cd (m d : Int) : Int :=
  (if 1 ≤ m then pc 1 m d else 0) + (if 10 ≤ m then pc 10 m d else 0) + (if 100 ≤ m then pc 100 m d else 0) + (if 1000 ≤ m then pc 1000 m d else 0) + (if 10000 ≤ m then pc 10000 m d else 0) + (if 100000 ≤ m then pc 100000 m d else 0) + (if 1000000 ≤ m then pc 1000000 m d else 0)
def one (u n d : Int) : Int := if u ≤ n ∧ n / u % 10 = d then 1 else 0
def dn (n d : Int) : Int := one 1 n d + one 10 n d + one 100 n d + one 1000 n d + one 10000 n d + one 100000 n d + one 1000000 n d

theorem pc1 (m d : Int) (h0 : 0 ≤ d) (h9 : d ≤ 9) (h : 0 ≤ m) : (if (1:Int) ≤ m + 1 then pc 1 (m + 1) d else 0) = (if (1:Int) ≤ m then pc 1 m d else 0) + one 1 (m + 1) d := by unfold pc one; omega
theorem pc10 (m d : Int) (h0 : 0 ≤ d) (h9 : d ≤ 9) (h : 0 ≤ m) : (if (10:Int) ≤ m + 1 then pc 10 (m + 1) d else 0) = (if (10:Int) ≤ m then pc 10 m d else 0) + one 10 (m + 1) d := by unfold pc one; omega
theorem pc100 (m d : Int) (h0 : 0 ≤ d) (h9 : d ≤ 9) (h : 0 ≤ m) : (if (100:Int) ≤ m + 1 then pc 100 (m + 1) d else 0) = (if (100:Int) ≤ m then pc 100 m d else 0) + one 100 (m + 1) d := by unfold pc one; omega
theorem pc1000 (m d : Int) (h0 : 0 ≤ d) (h9 : d ≤ 9) (h : 0 ≤ m) : (if (1000:Int) ≤ m + 1 then pc 1000 (m + 1) d else 0) = (if (1000:Int) ≤ m then pc 1000 m d else 0) + one 1000 (m + 1) d := by unfold pc one; omega
theorem pc10000 (m d : Int) (h0 : 0 ≤ d) (h9 : d ≤ 9) (h : 0 ≤ m) : (if (10000:Int) ≤ m + 1 then pc 10000 (m + 1) d else 0) = (if (10000:Int) ≤ m then pc 10000 m d else 0) + one 10000 (m + 1) d := by unfold pc one; omega
theorem pc100000 (m d : Int) (h0 : 0 ≤ d) (h9 : d ≤ 9) (h : 0 ≤ m) : (if (100000:Int) ≤ m + 1 then pc 100000 (m + 1) d else 0) = (if (100000:Int) ≤ m then pc 100000 m d else 0) + one 100000 (m + 1) d := by unfold pc one; omega
theorem pc1000000 (m d : Int) (h0 : 0 ≤ d) (h9 : d ≤ 9) (h : 0 ≤ m) : (if (1000000:Int) ≤ m + 1 then pc 1000000 (m + 1) d else 0) = (if (1000000:Int) ≤ m then pc 1000000 m d else 0) + one 1000000 (m + 1) d := by unfold pc one; omega
theorem cd_succ (m d : Int) (h0 : 0 ≤ d) (h9 : d ≤ 9) (h : 0 ≤ m) : cd (m + 1) d = cd m d + dn (m + 1) d := by
  unfold cd dn
  rw [pc1 m d h0 h9 h, pc10 m d h0 h9 h, pc100 m d h0 h9 h, pc1000 m d h0 h9 h, pc10000 m d h0 h9 h, pc100000 m d h0 h9 h, pc1000000 m d h0 h9 h]; omega
theorem cd_zero (d : Int) : cd 0 d = 0 := by unfold cd; simp

def pcs (m d : Int) : Nat → Int
  | 0 => 0
  | i + 1 => pcs m d i + pc (tp i) m d
theorem pcs_end (m d : Int) (i : Nat) (h1 : 1 ≤ m) (h : i ≤ 7) (ha : ∀ j, j < i → tp j ≤ m) (hb : m < tp i) : pcs m d i = cd m d := by
  match i, h with
  | 0, _ => simp [tp] at hb; omega
  | 1, _ => have := ha 0 (by decide); simp [tp, pcs] at *; unfold cd; omega
  | 2, _ => have := ha 1 (by decide); simp [tp, pcs] at *; unfold cd; omega
  | 3, _ => have := ha 2 (by decide); simp [tp, pcs] at *; unfold cd; omega
  | 4, _ => have := ha 3 (by decide); simp [tp, pcs] at *; unfold cd; omega
  | 5, _ => have := ha 4 (by decide); simp [tp, pcs] at *; unfold cd; omega
  | 6, _ => have := ha 5 (by decide); simp [tp, pcs] at *; unfold cd; omega
  | 7, _ => have := ha 6 (by decide); simp [tp, pcs] at *; unfold cd; omega
theorem pc_bd (i : Nat) (m d : Int) (h1 : 1 ≤ m) (h2 : m ≤ 1000000) (h3 : tp i ≤ m) : -10000000 ≤ pc (tp i) m d ∧ pc (tp i) m d ≤ 10000000 := by
  have := tp_lt i m h2 h3
  match i, this with
  | 0, _ | 1, _ | 2, _ | 3, _ | 4, _ | 5, _ | 6, _ => simp only [tp]; unfold pc; omega
theorem pcs_bd (m d : Int) (i : Nat) (h1 : 1 ≤ m) (h2 : m ≤ 1000000) (ha : ∀ j, j < i → tp j ≤ m) : -10000000 * i ≤ pcs m d i ∧ pcs m d i ≤ 10000000 * i := by
  induction i with
  | zero => simp [pcs]
  | succ i ih =>
    have a := ih fun j hj => ha j (by omega)
    have b := pc_bd i m d h1 h2 (ha i (by omega))
    simp only [pcs]
    omega

/-- the digits of n from place i on that are d -/
def dns (n d : Int) : Nat → Int
  | 0 => 0
  | i + 1 => dns n d i + (if n / tp i % 10 = d then 1 else 0)
theorem one_not (u n d : Int) (h : n < u) : one u n d = 0 := by unfold one; rw [if_neg (by omega)]
theorem one_is (u n d : Int) (h : u ≤ n) : one u n d = if n / u % 10 = d then 1 else 0 := by unfold one; simp [h]
def ones (n d : Int) : Nat → Int
  | 0 => 0
  | i + 1 => ones n d i + one (tp i) n d
theorem dns_ones (n d : Int) (i : Nat) (ha : ∀ j, j < i → tp j ≤ n) : dns n d i = ones n d i := by
  induction i with
  | zero => rfl
  | succ i ih => simp only [dns, ones]; rw [ih fun j hj => ha j (by omega), one_is _ _ _ (ha i (by omega))]
theorem dns_end (n d : Int) (i : Nat) (h : i ≤ 7) (ha : ∀ j, j < i → tp j ≤ n) (hb : n < tp i) : dns n d i = dn n d := by
  rw [dns_ones n d i ha]
  have e : dn n d = ones n d 7 := by unfold dn; simp only [ones, tp]; omega
  rw [e]
  have st : ∀ k, i + k ≤ 7 → ones n d (i + k) = ones n d i := by
    intro k
    induction k with
    | zero => intro _; rfl
    | succ k ih =>
      intro hk
      rw [← Nat.add_assoc]
      simp only [ones]
      rw [ih (by omega), one_not _ _ _ (by have := tp_mono i (i + k) (by omega) (by omega); omega)]; omega
  have := st (7 - i) (by omega)
  rw [show i + (7 - i) = 7 by omega] at this
  exact this.symm
theorem dns_bd (n d : Int) (i : Nat) : 0 ≤ dns n d i ∧ dns n d i ≤ i := by
  induction i with
  | zero => simp [dns]
  | succ i ih => simp only [dns]; omega
theorem div_tp (n : Int) (i : Nat) (h : i < 7) : n / tp (i + 1) = n / tp i / 10 := by
  match i, h with
  | 0, _ | 1, _ | 2, _ | 3, _ | 4, _ | 5, _ | 6, _ => simp only [tp]; omega
theorem div_pos (n : Int) (i : Nat) (h : 0 ≤ n) : 0 < n / tp i ↔ tp i ≤ n := by
  match i with
  | 0 | 1 | 2 | 3 | 4 | 5 | 6 | _ + 7 => simp only [tp]; omega

/-! ## Sums -/
def su (n : Int) : Int := n * (n + 1) / 2
theorem su2 (n : Int) : 2 * su n = n * (n + 1) := by
  unfold su
  have : n * (n + 1) % 2 = 0 := by
    rw [Int.mul_emod]
    have := Int.emod_two_eq n
    rcases this with h | h
    · rw [h]; simp
    · rw [show (n + 1) % 2 = 0 by omega]; simp
  omega
theorem su_succ (n : Int) : su (n + 1) = su n + (n + 1) := by
  have a := su2 n; have b := su2 (n + 1); grind
theorem lean_eq (h m : Int) : su (h - 1) - (su m - su h) = h * h - su m := by
  have a := su2 (h - 1); have b := su2 h; grind
theorem su_bd (n : Int) (h : 0 ≤ n) (h2 : n ≤ 1000000) : n ≤ su n ∧ su n ≤ 500001 * n := by
  have a := su2 n
  have b : n * n ≤ 1000000 * n := Int.mul_le_mul_of_nonneg_right h2 h
  have c : n ≤ n * n := by
    rcases Int.lt_or_eq_of_le h with h | h
    · have := Int.mul_le_mul_of_nonneg_right (show (1:Int) ≤ n by omega) (show (0:Int) ≤ n by omega); omega
    · subst h; simp
  have d : n * (n + 1) = n * n + n := by grind
  omega
theorem su_mono (a b : Int) (h0 : 0 ≤ a) (h : a ≤ b) : su a ≤ su b := by
  have x := su2 a; have y := su2 b
  have : a * (a + 1) ≤ b * (b + 1) := Int.mul_le_mul h (by omega) (by omega) (by omega)
  omega
theorem sq_mono (a b : Int) (h0 : 0 ≤ a) (h : a ≤ b) : a * a ≤ b * b := Int.mul_le_mul h h h0 (by omega)
/-- h is the least number whose square is not less than a -/
def Up (a h : Int) : Prop := 1 ≤ h ∧ (h - 1) * (h - 1) < a ∧ a ≤ h * h
theorem up_ex (k : Nat) : ∃ h, Up (k + 1) h := by
  induction k with
  | zero => exact ⟨1, by decide, by decide, by decide⟩
  | succ k ih =>
    obtain ⟨h, h1, h2, h3⟩ := ih
    by_cases c : (k + 1 + 1 : Int) ≤ h * h
    · exact ⟨h, h1, by push_cast; omega, by push_cast; omega⟩
    · refine ⟨h + 1, by omega, ?_, ?_⟩
      · rw [show h + 1 - 1 = h by omega]; push_cast; omega
      · have : (h + 1) * (h + 1) = h * h + 2 * h + 1 := by grind
        push_cast; omega
theorem up_su (m : Int) (hm : 1 ≤ m) : ∃ h, Up (su m) h := by
  have : m ≤ su m := by
    have a := su2 m
    have c : m ≤ m * m := by
      have := Int.mul_le_mul_of_nonneg_right (show (1:Int) ≤ m by omega) (show (0:Int) ≤ m by omega); omega
    have d : m * (m + 1) = m * m + m := by grind
    omega
  obtain ⟨h, hh⟩ := up_ex (su m - 1).toNat
  exact ⟨h, by rwa [show (((su m - 1).toNat : Int) + 1) = su m by omega] at hh⟩
theorem up_le (m h : Int) (hm : 1 ≤ m) (u : Up (su m) h) : h ≤ m := by
  obtain ⟨h1, h2, h3⟩ := u
  rcases Int.lt_or_le m h with c | c
  · have a := sq_mono m (h - 1) (by omega) (by omega)
    have b := su2 m
    have d : m * (m + 1) = m * m + m := by grind
    have e : m ≤ m * m := by
      have := Int.mul_le_mul_of_nonneg_right (show (1:Int) ≤ m by omega) (show (0:Int) ≤ m by omega); omega
    omega
  · exact c
theorem up_lt (a h j : Int) (u : Up a h) (h0 : 0 ≤ j) (hj : j < h) : j * j < a := by
  have := sq_mono j (h - 1) h0 (by omega)
  have := u.2.1; omega
theorem up_ge (a h j : Int) (u : Up a h) (hj : h ≤ j) : a ≤ j * j := by
  have := sq_mono h j (by have := u.1; omega) (by omega)
  have := u.2.2; omega
theorem up_next (m h k : Int) (hm : 1 ≤ m) (u : Up (su m) h) (v : Up (su (m + 1)) k) : h ≤ k := by
  rcases Int.lt_or_le k h with c | c
  · have a := up_lt _ _ k u (by have := v.1; omega) c
    have := v.2.2
    have := su_succ m
    omega
  · exact c
end Nu
