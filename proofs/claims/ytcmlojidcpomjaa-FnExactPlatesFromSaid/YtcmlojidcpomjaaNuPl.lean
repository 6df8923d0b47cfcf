/-
  Plain mathematics of chapter 1: up to where plates can be made.
-/
import Derived.Test.YtcmlojidcpomjaaNuMath
namespace Nu
theorem one_bd2 (u n d : Int) : 0 ≤ one u n d ∧ one u n d ≤ 1 := by unfold one; split <;> omega
theorem dn_pos (n d : Int) : 0 ≤ dn n d := by
  have a := one_bd2 1 n d; have b := one_bd2 10 n d; have c := one_bd2 100 n d; have e := one_bd2 1000 n d; have f := one_bd2 10000 n d; have g := one_bd2 100000 n d; have h := one_bd2 1000000 n d
  unfold dn; omega
/-- the plates up to m can be made from ds -/
def Enough (ds : List Int) (m : Int) : Prop := ∀ d : Nat, d < 10 → cd m d ≤ ds.getD d 0
theorem enough_less {ds : List Int} {k : Nat} (h : Enough ds ((k : Int) + 1)) : Enough ds k := fun d hd => by
  have a := h d hd
  have b := cd_succ k d (by omega) (by omega) (by omega)
  have c := dn_pos (k + 1) d
  omega
theorem enough_mono {ds : List Int} (a b : Nat) (hab : a ≤ b) (h : Enough ds b) : Enough ds a := by
  induction b with
  | zero => have : a = 0 := by omega
            subst this; exact h
  | succ b ih =>
    rcases Nat.lt_or_eq_of_le hab with c | c
    · exact ih (by omega) (enough_less (by push_cast at h; exact h))
    · rw [c]; exact h
def LastP (ds : List Int) (l : Nat) : Prop := l < 1000000 ∧ Enough ds l ∧ ¬ Enough ds ((l : Int) + 1)
theorem cd_big : cd 1000000 1 = 600001 := by unfold cd pc; decide
theorem lastp_ex (ds : List Int) (h : ∀ d : Nat, d < 10 → 0 ≤ ds.getD d 0 ∧ ds.getD d 0 ≤ 100000) : ∃ l, LastP ds l := by
  have key : ∀ k : Nat, ¬ Enough ds k → ∃ l : Nat, l < k ∧ Enough ds l ∧ ¬ Enough ds ((l : Int) + 1) := by
    intro k
    induction k with
    | zero => intro hk; exact absurd (fun d hd => by rw [show ((0 : Nat) : Int) = 0 from rfl, cd_zero]; exact (h d hd).1) hk
    | succ k ih =>
      intro hk
      by_cases c : Enough ds k
      · exact ⟨k, by omega, c, by push_cast at hk; exact hk⟩
      · obtain ⟨l, a, b, e⟩ := ih c
        exact ⟨l, by omega, b, e⟩
  obtain ⟨l, a, b, e⟩ := key 1000000 (fun hk => by
    have := hk 1 (by omega)
    have := (h 1 (by omega)).2
    have e1 : cd ((1000000 : Nat) : Int) ((1 : Nat) : Int) = 600001 := cd_big
    omega)
  exact ⟨l, a, b, e⟩
/-- the search's answer: l is not more than i just if the plates up to i + 1 can't be made -/
theorem lastp_iff {ds : List Int} {l : Nat} (h : LastP ds l) (i : Nat) : l ≤ i ↔ ¬ Enough ds ((i : Int) + 1) := by
  obtain ⟨_, h1, h2⟩ := h
  constructor
  · intro hi he
    exact h2 (by have := enough_mono (ds := ds) (l + 1) (i + 1) (by omega) (by push_cast; exact he); push_cast at this; exact this)
  · intro hn
    rcases Nat.lt_or_ge i l with c | c
    · exact absurd (by have := enough_mono (ds := ds) (i + 1) l (by omega) h1; push_cast at this; exact this) hn
    · exact c
end Nu
