/-
  Plain mathematics of a search: the first one of the shortest ways to its start, step by step. No program here.
-/
import Derived.Test.YtkgfbdbhllakoaaGrSym
namespace Go.Proofs.Gm
open Go
set_option linter.unusedVariables false
set_option linter.unusedSimpArgs false
section
variable {nb : Nat → Nat → Option Nat} {N b : Nat} {F : Nat → Int}
/-- does a direction lead nearer? -/
def cnd (nb : Nat → Nat → Option Nat) (F : Nat → Int) (u j : Nat) : Bool := match nb u j with | some v => decide (F v = F u - 1) | none => false
theorem cnd_some {u j v : Nat} (h : nb u j = some v) : cnd nb F u j = decide (F v = F u - 1) := by unfold cnd; rw [h]
theorem cnd_none {u j : Nat} (h : nb u j = none) : cnd nb F u j = false := by unfold cnd; rw [h]
/-- the first one that does, or 4 -/
def pk (nb : Nat → Nat → Option Nat) (F : Nat → Int) (u : Nat) : Nat := if cnd nb F u 0 then 0 else if cnd nb F u 1 then 1 else if cnd nb F u 2 then 2 else if cnd nb F u 3 then 3 else 4
theorem pk_eq {u j : Nat} (hj : j < 4) (h : cnd nb F u j = true) (hb : ∀ i, i < j → cnd nb F u i = false) : pk nb F u = j := by
  have : j = 0 ∨ j = 1 ∨ j = 2 ∨ j = 3 := by omega
  unfold pk
  rcases this with rfl | rfl | rfl | rfl
  · simp [h]
  · simp [h, hb 0 (by omega)]
  · simp [h, hb 0 (by omega), hb 1 (by omega)]
  · simp [h, hb 0 (by omega), hb 1 (by omega), hb 2 (by omega)]
/-- so many steps are gone: where one is, and the directions -/
def stW (nb : Nat → Nat → Option Nat) (F : Nat → Int) (a : Nat) : Nat → Nat × List Nat
  | 0 => (a, [])
  | k + 1 => match nb (stW nb F a k).1 (pk nb F (stW nb F a k).1) with
    | some v => (v, (stW nb F a k).2 ++ [pk nb F (stW nb F a k).1])
    | none => stW nb F a k
theorem stW_succ {a k j v : Nat} (h1 : pk nb F (stW nb F a k).1 = j) (h2 : nb (stW nb F a k).1 j = some v) : stW nb F a (k + 1) = (v, (stW nb F a k).2 ++ [j]) := by
  simp only [stW]
  rw [h1, h2]
/-- there is one, until one is there -/
theorem cnd_ex (hv : ∀ n i v, n < N → nb n i = some v → v < N) (hs : ∀ n i v, n < N → i < 4 → nb n i = some v → ∃ j, j < 4 ∧ nb v j = some n) (hF : Dist nb N b F) {u : Nat} (hu : u < N) (h0 : 0 < F u) :
    ∃ j v, j < 4 ∧ nb u j = some v ∧ F v = F u - 1 := by
  obtain ⟨w, i, hw, hi, e1, e2⟩ := hF.pr u hu h0
  obtain ⟨j, hj, e3⟩ := hs w i u hw hi e1
  exact ⟨j, w, hj, e3, by omega⟩
theorem stW_inv (hv : ∀ n i v, n < N → nb n i = some v → v < N) (hs : ∀ n i v, n < N → i < 4 → nb n i = some v → ∃ j, j < 4 ∧ nb v j = some n) (hF : Dist nb N b F) {a : Nat} (ha : a < N) :
    ∀ k : Nat, (k : Int) ≤ F a → (stW nb F a k).1 < N ∧ F (stW nb F a k).1 = F a - k ∧ (stW nb F a k).2.length = k ∧ ∀ i ∈ (stW nb F a k).2, i < 4 := by
  intro k
  induction k with
  | zero => intro _; exact ⟨ha, by simp [stW], rfl, by simp [stW]⟩
  | succ k ih =>
    intro hk
    obtain ⟨h1, h2, h3, h4⟩ := ih (by omega)
    obtain ⟨j, v, hj, e1, e2⟩ := cnd_ex hv hs hF h1 (by omega)
    have hp : ∃ j' v', j' < 4 ∧ nb (stW nb F a k).1 j' = some v' ∧ F v' = F (stW nb F a k).1 - 1 ∧ pk nb F (stW nb F a k).1 = j' := by
      have hc : cnd nb F (stW nb F a k).1 j = true := by rw [cnd_some e1]; exact decide_eq_true e2
      have key : ∀ m, m < 4 → cnd nb F (stW nb F a k).1 m = true → ∃ v', nb (stW nb F a k).1 m = some v' ∧ F v' = F (stW nb F a k).1 - 1 := by
        intro m hm hcm
        unfold cnd at hcm
        split at hcm
        · rename_i v' hv'
          exact ⟨v', hv', of_decide_eq_true hcm⟩
        · cases hcm
      have fst : ∃ m, m < 4 ∧ cnd nb F (stW nb F a k).1 m = true ∧ ∀ i, i < m → cnd nb F (stW nb F a k).1 i = false := by
        by_cases c0 : cnd nb F (stW nb F a k).1 0 = true
        · exact ⟨0, by omega, c0, fun i hi => absurd hi (Nat.not_lt_zero _)⟩
        · by_cases c1 : cnd nb F (stW nb F a k).1 1 = true
          · exact ⟨1, by omega, c1, fun i hi => by have : i = 0 := by omega
                                                   subst this; simpa using c0⟩
          · by_cases c2 : cnd nb F (stW nb F a k).1 2 = true
            · exact ⟨2, by omega, c2, fun i hi => by
                have : i = 0 ∨ i = 1 := by omega
                rcases this with rfl | rfl
                · simpa using c0
                · simpa using c1⟩
            · have : j = 0 ∨ j = 1 ∨ j = 2 ∨ j = 3 := by omega
              rcases this with rfl | rfl | rfl | rfl
              · exact absurd hc c0
              · exact absurd hc c1
              · exact absurd hc c2
              · exact ⟨3, by omega, hc, fun i hi => by
                  have : i = 0 ∨ i = 1 ∨ i = 2 := by omega
                  rcases this with rfl | rfl | rfl
                  · simpa using c0
                  · simpa using c1
                  · simpa using c2⟩
      obtain ⟨m, hm, hcm, hlo⟩ := fst
      obtain ⟨v', e1', e2'⟩ := key m hm hcm
      exact ⟨m, v', hm, e1', e2', pk_eq hm hcm hlo⟩
    obtain ⟨j', v', hj', e1', e2', e3'⟩ := hp
    rw [stW_succ e3' e1']
    refine ⟨hv _ _ _ h1 e1', by simp only; omega, by simp [h3], fun i hi => ?_⟩
    simp only [List.mem_append, List.mem_singleton] at hi
    rcases hi with hi | hi
    · exact h4 i hi
    · omega
end
end Go.Proofs.Gm
