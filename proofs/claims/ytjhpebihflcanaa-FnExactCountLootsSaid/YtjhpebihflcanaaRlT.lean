/-
  Chapter 7, plain mathematics: the model's recursion over loots. No program here.
-/
import Derived.Test.YtjhpebihflcanaaRlL
namespace Go.Proofs.Rl
set_option linter.unusedVariables false
set_option linter.unusedSimpArgs false
/-- may a house be taken beside those that are -/
def frB (nei : Int → Int → Bool) (bg : List Int) (i : Int) : Bool := bg.all fun b => !nei b i
/-- the loots that go on from some houses, m houses being left, but the first one -/
def ltR (n : Nat) (nei : Int → Int → Bool) : Nat → List Int → List (List Int)
  | 0, _ => []
  | m + 1, bg => (if frB nei bg ((n : Int) - (m + 1 : Nat)) = true then (bg ++ [(n : Int) - (m + 1 : Nat)]) :: ltR n nei m (bg ++ [(n : Int) - (m + 1 : Nat)]) else []) ++ ltR n nei m bg
/-- neighbours, of two houses of which the first one is to the left -/
def NeiL (n : Nat) (z : Bool) (nei : Int → Int → Bool) : Prop := ∀ a b : Int, 0 ≤ a → a < b → b < n → (nei a b = true ↔ b = a + 1 ∨ (z = true ∧ a = 0 ∧ b = (n : Int) - 1))
theorem ltR_is {n : Nat} {z : Bool} {nei : Int → Int → Bool} (hn : NeiL n z nei) : ∀ (m : Nat) (bg : List Int), m < n → (∀ b ∈ bg, 0 ≤ b ∧ b < (n : Int) - m) →
    ltR n nei m bg = (loT m ((n : Int) - m) (decide ((n : Int) - m - 1 ∈ bg)) (z && decide ((0 : Int) ∈ bg))).map (bg ++ ·)
  | 0, bg, _, _ => by simp [ltR, loT]
  | m + 1, bg, hm, hb => by
    have hi : ((n : Int) - (m + 1 : Nat)) + 1 = (n : Int) - m := by push_cast; omega
    have h1 : ltR n nei m bg = (loT m ((n : Int) - m) false (z && decide ((0 : Int) ∈ bg))).map (bg ++ ·) := by
      rw [ltR_is hn m bg (by omega) (fun b h => by have := hb b h; push_cast at this; omega)]
      congr 2
      apply decide_eq_false
      intro h
      have := (hb _ h).2
      push_cast at this; omega
    have h2 : ltR n nei m (bg ++ [(n : Int) - (m + 1 : Nat)]) = (loT m ((n : Int) - m) true (z && decide ((0 : Int) ∈ bg))).map ((bg ++ [(n : Int) - (m + 1 : Nat)]) ++ ·) := by
      rw [ltR_is hn m _ (by omega) (fun b h => by
        rcases List.mem_append.1 h with h | h
        · have := hb b h; push_cast at this; omega
        · simp only [List.mem_singleton] at h; subst h; push_cast; omega)]
      congr 2
      · apply decide_eq_true
        rw [List.mem_append]
        right
        simp only [List.mem_singleton]
        omega
      · congr 1
        apply decide_eq_decide.2
        rw [List.mem_append]
        constructor
        · rintro (h | h)
          · exact h
          · simp only [List.mem_singleton] at h; push_cast at h; omega
        · exact .inl
    have hf : frB nei bg ((n : Int) - (m + 1 : Nat)) = !(decide ((n : Int) - (m + 1 : Nat) - 1 ∈ bg) || (m == 0 && (z && decide ((0 : Int) ∈ bg)))) := by
      rw [Bool.eq_iff_iff]
      unfold frB
      rw [List.all_eq_true]
      simp only [Bool.not_eq_true', Bool.or_eq_false_iff, Bool.and_eq_false_imp, decide_eq_false_iff_not, beq_iff_eq]
      constructor
      · intro h
        refine ⟨fun q => ?_, fun q1 q2 q3 => ?_⟩
        · have h' := h _ q
          have hq := hb _ q
          rw [(hn _ _ hq.1 hq.2 (by push_cast; omega)).2 (.inl (by omega))] at h'
          cases h'
        · have h' := h _ q3
          have hq := hb _ q3
          rw [(hn _ _ hq.1 hq.2 (by push_cast; omega)).2 (.inr ⟨q2, rfl, by subst q1; push_cast; omega⟩)] at h'
          cases h'
      · rintro ⟨q1, q2⟩ b hbm
        have hq := hb b hbm
        cases e : nei b ((n : Int) - (m + 1 : Nat))
        · rfl
        · rcases (hn _ _ hq.1 hq.2 (by push_cast; omega)).1 e with h | ⟨h1, h2, h3⟩
          · exact absurd (by rw [show (n : Int) - (m + 1 : Nat) - 1 = b by omega]; exact hbm) q1
          · exact absurd (by rw [← h2]; exact hbm) (q2 (by push_cast at h3; omega) h1)
    unfold ltR loT
    rw [hf, h1, h2, hi]
    cases decide ((n : Int) - (m + 1 : Nat) - 1 ∈ bg) || (m == 0 && (z && decide ((0 : Int) ∈ bg)))
    · simp [List.map_map, Function.comp_def]
    · simp
theorem ltR_all {n : Nat} {z : Bool} {nei : Int → Int → Bool} (hn : NeiL n z nei) : [] :: ltR n nei n [] = loU n z := by
  cases n with
  | zero => rfl
  | succ k =>
    have e0 : ((k + 1 : Nat) : Int) - (k + 1 : Nat) = 0 := by omega
    unfold ltR loU
    rw [e0, ltR_is hn k [] (by omega) (by simp), ltR_is hn k ([] ++ [0]) (by omega) (fun b h => by simp only [List.nil_append, List.mem_singleton] at h; rw [h]; exact ⟨Int.le_refl _, by omega⟩)]
    have e1 : ((k + 1 : Nat) : Int) - (k : Nat) = 1 := by omega
    rw [e1]
    have hf : frB nei [] 0 = true := rfl
    rw [if_pos hf]
    simp
theorem ltR_mem {n : Nat} {nei : Int → Int → Bool} : ∀ (m : Nat) (bg : List Int), m ≤ n → (∀ b ∈ bg, 0 ≤ b ∧ b < n) → ∀ s ∈ ltR n nei m bg, (∀ b ∈ s, 0 ≤ b ∧ b < (n : Int)) ∧ s.length ≤ bg.length + m
  | 0, bg, _, hb, s, h => by simp [ltR] at h
  | m + 1, bg, hm, hb, s, h => by
    have hb2 : ∀ b ∈ bg ++ [(n : Int) - (m + 1 : Nat)], 0 ≤ b ∧ b < (n : Int) := fun b h => by
      rcases List.mem_append.1 h with h | h
      · exact hb b h
      · simp only [List.mem_singleton] at h; subst h; push_cast; omega
    unfold ltR at h
    rcases List.mem_append.1 h with h | h
    · split at h
      · rcases List.mem_cons.1 h with rfl | h
        · exact ⟨hb2, by simp⟩
        · have ih := ltR_mem m _ (by omega) hb2 s h
          refine ⟨ih.1, ?_⟩
          have := ih.2
          simp at this; omega
      · simp at h
    · have ih := ltR_mem m bg (by omega) hb s h
      exact ⟨ih.1, by have := ih.2; omega⟩
theorem ltR_len {n : Nat} {nei : Int → Int → Bool} : ∀ (m : Nat) (bg : List Int), (ltR n nei m bg).length + 1 ≤ 2 ^ m
  | 0, bg => by simp [ltR]
  | m + 1, bg => by
    have h1 := ltR_len (n := n) (nei := nei) m bg
    have h2 := ltR_len (n := n) (nei := nei) m (bg ++ [(n : Int) - (m + 1 : Nat)])
    unfold ltR
    rw [List.length_append, Nat.pow_succ]
    split
    · simp only [List.length_cons]; omega
    · simp only [List.length_nil]; omega
end Go.Proofs.Rl
