/-
  Contracts of chapter 5: people who move (both sides).
-/
import Derived.Test.YtkhjjafeoijaaaaMdO
namespace Go.Proofs
open Go.RowKit
set_option linter.unusedVariables false
set_option linter.unusedSimpArgs false
theorem OwnI.row {w : World} {B : Nat} {v : Value} {xs : List Int} (h : OwnI w B v xs) (h0 : 0 < xs.length) : ∃ g c, v = .slice (some ⟨g, 0, none⟩) xs.length c ∧ B ≤ g ∧ g < w.heap.size ∧ OwnI w B (.slice (some ⟨g, 0, none⟩) xs.length c) xs := by
  rcases h.view with ⟨e, _⟩ | ⟨_, g, c, rfl, h1, h2, _⟩
  · rw [e] at h0; simp at h0
  · exact ⟨g, c, rfl, h1, h2, h⟩
noncomputable def hsB (xs : List Int) (n : Int) : Bool := @decide (HouseP xs n) (Classical.propDecidable _)
theorem hsB_iff (xs : List Int) (n : Int) : hsB xs n = true ↔ HouseP xs n := @decide_eq_true_iff _ (Classical.propDecidable _)
def MoveP (xs : List Int) (f t m : Int) : Prop := HouseP xs f ∧ HouseP xs t ∧ f ≠ t ∧ 1 ≤ m ∧ m ≤ gx xs f.toNat
def movL (xs : List Int) (f t m : Int) : List Int := (xs.set f.toNat (gx xs f.toNat - m)).set t.toNat (gx xs t.toNat + m)
def MovedP (xs : List Int) (f t m : Int) : Prop := MoveP xs f t m ∧ GoodP (movL xs f t m)
end Go.Proofs
