/-
  Chapter 6: whether two texts are ways (the program, by strings.Trim), and the laws' small words of ways.
-/
import Derived.Test.YtkhjjafeoijaaabOwA
import Derived.Test.YtkhjjafeoijaaabShelf
import Derived.Shelf.Strings.SlTrimAscii
namespace Go.Proofs
open Go.RowKit Go.Shelf
set_option linter.unusedVariables false
set_option linter.unusedSimpArgs false
theorem dw_nil (p : UInt8 → Bool) (l : List UInt8) : l.dropWhile p = [] ↔ l.all p = true := by
  induction l with
  | nil => simp
  | cons x l ih =>
    rw [List.dropWhile_cons, List.all_cons]
    cases h : p x
    · simp
    · simp only [if_true, Bool.true_and]; exact ih
theorem dw_all (p : UInt8 → Bool) (l : List UInt8) (h : (l.dropWhile p).all p = true) : l.dropWhile p = [] := by
  induction l with
  | nil => simp
  | cons x l ih =>
    rw [List.dropWhile_cons] at h ⊢
    cases hx : p x
    · rw [hx] at h
      simp [hx] at h
    · rw [hx] at h
      simp only [if_true] at h ⊢
      exact ih h
theorem trim_nil (l cs : List UInt8) : Lib.trimS l cs = [] ↔ l.all (cs.contains ·) = true := by
  unfold Lib.trimS Lib.trimLeftS Lib.trimRightS
  rw [dw_nil, List.all_reverse]
  constructor
  · intro h
    have := dw_all _ _ h
    rw [dw_nil, List.all_reverse] at this
    exact this
  · intro h
    have : l.reverse.dropWhile (cs.contains ·) = [] := (dw_nil _ _).2 (by rw [List.all_reverse]; exact h)
    rw [this]; rfl
theorem trim_emp (p q : UInt8) (s : ByteArray) (h2 : 2 ≤ s.size) (h8 : s.size ≤ 8) : (⟨(Lib.trimS s.data.toList [p, q]).toArray⟩ : ByteArray).toList.isEmpty = okT p q s := by
  have e : (⟨(Lib.trimS s.data.toList [p, q]).toArray⟩ : ByteArray).toList = Lib.trimS s.data.toList [p, q] := by rw [Lib.toList_data]
  rw [e]
  have this : (fun x : UInt8 => [p, q].contains x) = isIn p q := by
    funext x
    unfold isIn
    simp [List.contains, List.elem]
    cases hp : x == p <;> cases hq : x == q <;> simp
  have h1 := trim_nil s.data.toList [p, q]
  rw [this] at h1
  unfold okT
  rw [decide_eq_true (p := 2 ≤ s.size ∧ s.size ≤ 8) ⟨h2, h8⟩, Bool.true_and]
  cases h : s.data.toList.all (isIn p q)
  · cases ht : Lib.trimS s.data.toList [p, q]
    · rw [h1.1 ht] at h; cases h
    · rfl
  · rw [h1.2 h]; rfl
end Go.Proofs
