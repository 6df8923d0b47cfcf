/-
  Chapter 6: what ways are (plain words), and whether two texts are ways (the model).
-/
import Derived.Test.YtkhjjafeoijaaabInn
import Derived.LoopTactic
namespace Go.Proofs
open Go.RowKit
set_option linter.unusedVariables false
set_option linter.unusedSimpArgs false
def isIn (p q c : UInt8) : Bool := c == p || c == q
/-- a text of two to eight of two signs -/
def okT (p q : UInt8) (s : ByteArray) : Bool := decide (2 ≤ s.size ∧ s.size ≤ 8) && s.data.toList.all (isIn p q)
def okW (s a : ByteArray) : Bool := okT 101 119 s && okT 110 115 a
theorem okT_len {p q : UInt8} {s : ByteArray} (h : okT p q s = true) : 2 ≤ s.size ∧ s.size ≤ 8 := by
  unfold okT at h
  simp only [Bool.and_eq_true, decide_eq_true_eq] at h
  exact h.1
theorem okT_at {p q : UInt8} {s : ByteArray} (h : okT p q s = true) (i : Nat) (hi : i < s.size) : s[i] = p ∨ s[i] = q := by
  unfold okT at h
  simp only [Bool.and_eq_true, decide_eq_true_eq, List.all_eq_true] at h
  have := h.2 s[i] (by
    have : s[i] = s.data.toList[i]'(by simpa using hi) := rfl
    rw [this]; exact List.getElem_mem _)
  unfold isIn at this
  simpa using this
theorem okT_short {p q : UInt8} {s : ByteArray} (h : s.size < 2 ∨ 8 < s.size) : okT p q s = false := by
  unfold okT
  rw [decide_eq_false (by omega)]; rfl
theorem okT_bad {p q : UInt8} {s : ByteArray} (i : Nat) (hi : i < s.size) (h1 : ¬ s[i] = p) (h2 : ¬ s[i] = q) : okT p q s = false := by
  cases h : okT p q s
  · rfl
  · rcases okT_at h i hi with e | e
    · exact absurd e h1
    · exact absurd e h2
theorem okT_all {p q : UInt8} {s : ByteArray} (h2 : 2 ≤ s.size) (h8 : s.size ≤ 8) (h : ∀ i, ∀ hi : i < s.size, s[i] = p ∨ s[i] = q) : okT p q s = true := by
  unfold okT
  rw [decide_eq_true ⟨h2, h8⟩]
  simp only [Bool.true_and, List.all_eq_true]
  intro x hx
  obtain ⟨i, hi, rfl⟩ := List.getElem_of_mem hx
  have := h i (by simpa using hi)
  unfold isIn
  rcases this with e | e
  · have : s.data.toList[i] = p := e
    rw [this]; simp
  · have : s.data.toList[i] = q := e
    rw [this]; simp
theorem u8_eq (x p : UInt8) : ((x.toNat : Int) == (p.toNat : Int)) = decide (x = p) := by
  by_cases h : x = p
  · subst h; simp
  · rw [decide_eq_false h]
    have : x.toNat ≠ p.toNat := fun e => h (UInt8.toNat_inj.1 e)
    simp; omega
theorem u8_ne (x p : UInt8) : ((x.toNat : Int) != (p.toNat : Int)) = !decide (x = p) := by rw [← u8_eq]; rfl
end Go.Proofs
