/-
  Chapter 9: clues and houses, plain words. No program's text here.
-/
import Derived.Test.YtopmclaphcnmbaaDoorNuA
namespace Go.Proofs
set_option linter.unusedVariables false
set_option linter.unusedSimpArgs false
abbrev Clu := Int × Int × Int
def cl0 : Clu := (0, 0, 0)
/-- what a clue of a kind, with a number, tells of a house -/
def pval (k p kd a n : Int) : Int :=
  if kd = 0 then sdo k p n else if kd = 1 then plo k p n else if kd = 2 then (if n % a = 0 then 1 else 0) else if kd = 3 then n / 10 + n % 10
  else if kd = 4 then (if a < n then 1 else 0) else if k = 0 then 0 else num k p (1 - sdo k p n) (plo k p n)
/-- whether there is a clue -/
def cok (c : Clu) : Bool :=
  if c.1 = 0 then decide (c.2.1 = 0 ∧ 0 ≤ c.2.2 ∧ c.2.2 ≤ 1) else if c.1 = 1 then decide (c.2.1 = 0 ∧ 0 ≤ c.2.2 ∧ c.2.2 ≤ 20)
  else if c.1 = 2 then decide (2 ≤ c.2.1 ∧ c.2.1 ≤ 9 ∧ 0 ≤ c.2.2 ∧ c.2.2 ≤ 1) else if c.1 = 3 then decide (c.2.1 = 0 ∧ 1 ≤ c.2.2 ∧ c.2.2 ≤ 13)
  else if c.1 = 4 then decide (1 ≤ c.2.1 ∧ c.2.1 ≤ 40 ∧ 0 ≤ c.2.2 ∧ c.2.2 ≤ 1) else if c.1 = 5 then decide (c.2.1 = 0 ∧ 0 ≤ c.2.2 ∧ c.2.2 ≤ 40) else false
theorem cok_kind {c : Clu} (h : cok c = true) : 0 ≤ c.1 ∧ c.1 ≤ 5 := by
  unfold cok at h
  by_cases h0 : c.1 = 0
  · omega
  by_cases h1 : c.1 = 1
  · omega
  by_cases h2 : c.1 = 2
  · omega
  by_cases h3 : c.1 = 3
  · omega
  by_cases h4 : c.1 = 4
  · omega
  by_cases h5 : c.1 = 5
  · omega
  rw [if_neg h0, if_neg h1, if_neg h2, if_neg h3, if_neg h4, if_neg h5] at h
  cases h
theorem cok_a {c : Clu} (h : cok c = true) (h2 : c.1 = 2) : 2 ≤ c.2.1 ∧ c.2.1 ≤ 9 := by
  unfold cok at h
  rw [if_neg (by omega), if_neg (by omega), if_pos h2] at h
  have := of_decide_eq_true h
  omega
/-- the street can hide houses -/
def pst (k p : Int) : Bool := decide (0 ≤ k ∧ k ≤ 2 ∧ 1 ≤ p ∧ p ≤ 20)
theorem pst_t {k p : Int} (h : pst k p = true) : 0 ≤ k ∧ k ≤ 2 ∧ 1 ≤ p ∧ p ≤ 20 := of_decide_eq_true (p := 0 ≤ k ∧ k ≤ 2 ∧ 1 ≤ p ∧ p ≤ 20) h
theorem pst_gd (k p : Int) : pst k p = (gd k p && decide (p ≤ 20)) := by
  rw [Bool.eq_iff_iff, Bool.and_eq_true]
  constructor
  · intro h
    obtain ⟨h0, h1, h2, h3⟩ := pst_t h
    exact ⟨decide_eq_true (p := Gd k p) ⟨h0, h1, h2, by omega⟩, decide_eq_true h3⟩
  · rintro ⟨h, h3⟩
    obtain ⟨h0, h1, h2, _⟩ := gd_t h
    exact decide_eq_true (p := 0 ≤ k ∧ k ≤ 2 ∧ 1 ≤ p ∧ p ≤ 20) ⟨h0, h1, h2, of_decide_eq_true h3⟩
def pgood (k p : Int) (cs : List Clu) : Bool := pst k p && decide (cs.length ≤ 6) && cs.all cok
def pfit (k p : Int) (c : Clu) (n : Int) : Bool := decide (pval k p c.1 c.2.1 n = c.2.2)
def pfits (k p : Int) (cs : List Clu) (n : Int) : Bool := cs.all (fun c => pfit k p c n)
/-- the houses up to m that fit all of some clues -/
def pallT (k p : Int) (cs : List Clu) (m : Nat) : List Int := ((List.range m).map (fun (i : Nat) => (i : Int) + 1)).filter (pfits k p cs)
theorem pallT_zero (k p : Int) (cs : List Clu) : pallT k p cs 0 = [] := rfl
theorem pallT_succ (k p : Int) (cs : List Clu) (m : Nat) : pallT k p cs (m + 1) = if pfits k p cs (m + 1) = true then pallT k p cs m ++ [(m : Int) + 1] else pallT k p cs m := by
  unfold pallT
  rw [List.range_succ, List.map_append, List.filter_append]
  simp only [List.map_cons, List.map_nil]
  cases h : pfits k p cs (m + 1)
  · rw [if_neg (by simp)]; simp [List.filter_cons, h]
  · rw [if_pos rfl]; simp [List.filter_cons, h]
theorem pallT_len (k p : Int) (cs : List Clu) (m : Nat) : (pallT k p cs m).length ≤ m := by
  unfold pallT
  exact Nat.le_trans (List.length_filter_le _ _) (by simp)
theorem pallT_mem (k p : Int) (cs : List Clu) (m : Nat) : ∀ x ∈ pallT k p cs m, 1 ≤ x ∧ x ≤ m := by
  intro x hx
  obtain ⟨i, hi, rfl⟩ := List.mem_map.1 (List.mem_filter.1 hx).1
  have := List.mem_range.1 hi
  omega
def pall (k p : Int) (cs : List Clu) : List Int := pallT k p cs (hs k p).toNat
theorem pall_len {k p : Int} (h : pst k p = true) (cs : List Clu) : (pall k p cs).length ≤ 40 := by
  obtain ⟨h0, h1, h2, h3⟩ := pst_t h
  have := pallT_len k p cs (hs k p).toNat
  unfold pall
  have : hs k p ≤ 40 := by unfold hs; omega
  omega
/-- clues without one -/
def wout (cs : List Clu) (j : Nat) : List Clu := cs.take j ++ cs.drop (j + 1)
theorem wout_len (cs : List Clu) (j : Nat) (h : j < cs.length) : (wout cs j).length + 1 = cs.length := by simp [wout]; omega
def psol (k p : Int) (cs : List Clu) : Bool := decide ((pall k p cs).length = 1)
/-- clues are taken out, from the j-th on, each if the house is the one solution still -/
def hrd (k p : Int) : Nat → Nat → List Clu → List Clu
  | 0, _, cs => cs
  | f + 1, j, cs => if j < cs.length then (if psol k p (wout cs j) = true then hrd k p f j (wout cs j) else hrd k p f (j + 1) cs) else cs
theorem hrd_drop {k p : Int} {j : Nat} {cs R : List Clu} (h : hrd k p (cs.length - j) j cs = R) (hj : j < cs.length) (hs : psol k p (wout cs j) = true) : hrd k p ((wout cs j).length - j) j (wout cs j) = R := by
  have e := wout_len cs j hj
  rw [show cs.length - j = ((wout cs j).length - j) + 1 by omega] at h
  unfold hrd at h
  rw [if_pos hj, if_pos hs] at h
  exact h
theorem hrd_keep {k p : Int} {j : Nat} {cs R : List Clu} (h : hrd k p (cs.length - j) j cs = R) (hj : j < cs.length) (hs : psol k p (wout cs j) = false) : hrd k p (cs.length - (j + 1)) (j + 1) cs = R := by
  rw [show cs.length - j = (cs.length - (j + 1)) + 1 by omega] at h
  unfold hrd at h
  rw [if_pos hj, if_neg (by simp [hs])] at h
  exact h
theorem hrd_end {k p : Int} {j : Nat} {cs R : List Clu} (h : hrd k p (cs.length - j) j cs = R) (hj : cs.length ≤ j) : cs = R := by
  rw [show cs.length - j = 0 by omega] at h
  exact h
theorem hrd_len (k p : Int) : ∀ (f j : Nat) (cs : List Clu), (hrd k p f j cs).length ≤ cs.length := by
  intro f
  induction f with
  | zero => intro j cs; exact Nat.le_refl _
  | succ f ih =>
    intro j cs
    unfold hrd
    by_cases hj : j < cs.length
    · rw [if_pos hj]
      split
      · have := ih j (wout cs j); have := wout_len cs j hj; omega
      · exact ih (j + 1) cs
    · rw [if_neg hj]; exact Nat.le_refl _
/-- the numbers by which puzzles are made -/
def nxz (z : Int) : Int := (z * 233 + 1871) % 10007
def zat (s : Int) : Nat → Int
  | 0 => s
  | i + 1 => nxz (zat s i)
theorem zat_bd (s : Int) (h0 : 0 ≤ s) (h1 : s ≤ 9999) (i : Nat) : 0 ≤ zat s i ∧ zat s i ≤ 10006 := by
  cases i with
  | zero => exact ⟨h0, by show s ≤ 10006; omega⟩
  | succ i => show 0 ≤ nxz (zat s i) ∧ nxz (zat s i) ≤ 10006; unfold nxz; omega
def yA (kd y : Int) : Int := if kd = 2 then y % 8 + 2 else if kd = 4 then y % 40 + 1 else 0
def mclu (k p n kd y : Int) : Clu := (kd, yA kd y, pval k p kd (yA kd y) n)
def mades (k p n s : Int) (m : Nat) : List Clu := (List.range m).map (fun i => mclu k p n (zat s (2 * i + 1) % 6) (zat s (2 * i + 2)))
theorem mades_succ (k p n s : Int) (m : Nat) : mades k p n s (m + 1) = mades k p n s m ++ [mclu k p n (nxz (zat s (2 * m)) % 6) (nxz (nxz (zat s (2 * m))))] := by
  unfold mades
  rw [List.range_succ, List.map_append]
  rfl
theorem mades_len (k p n s : Int) (m : Nat) : (mades k p n s m).length = m := by simp [mades]
end Go.Proofs
