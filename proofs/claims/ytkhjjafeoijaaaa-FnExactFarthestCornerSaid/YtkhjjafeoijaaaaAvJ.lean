/-
  Contracts of chapter 4: two corners that lists tell (the program).
-/
import Derived.Test.YtkhjjafeoijaaaaAvI
namespace Go.Proofs
open Go.RowKit Av Gm Go.Maps
set_option linter.unusedVariables false
set_option linter.unusedSimpArgs false
theorem four_s {w : World} {k l : Nat} {p : Addr} {u x0 x1 x2 x3 : Value} (h : w.cell? ⟨k, 0, none⟩ = some x0 ∧ w.cell? ⟨k, 1, none⟩ = some x1 ∧ w.cell? ⟨l, 0, none⟩ = some x2 ∧ w.cell? ⟨l, 1, none⟩ = some x3) (hk : k ≠ p.block) (hl : l ≠ p.block) :
    (w.setCell p u).cell? ⟨k, 0, none⟩ = some x0 ∧ (w.setCell p u).cell? ⟨k, 1, none⟩ = some x1 ∧ (w.setCell p u).cell? ⟨l, 0, none⟩ = some x2 ∧ (w.setCell p u).cell? ⟨l, 1, none⟩ = some x3 := by
  have e : ∀ b o, b ≠ p.block → (w.setCell p u).cell? ⟨b, o, none⟩ = w.cell? ⟨b, o, none⟩ := fun b o hb => by
    unfold World.cell?
    rw [show (w.setCell p u).heap[b]? = w.heap[b]? from heap_setCell_other w p b u hb]
  rw [e _ _ hk, e _ _ hk, e _ _ hl, e _ _ hl]; exact h
theorem four_d {w : World} {k l : Nat} {x0 x1 x2 x3 : Value} (h : w.cell? ⟨k, 0, none⟩ = some x0 ∧ w.cell? ⟨k, 1, none⟩ = some x1 ∧ w.cell? ⟨l, 0, none⟩ = some x2 ∧ w.cell? ⟨l, 1, none⟩ = some x3) :
    w.drew.cell? ⟨k, 0, none⟩ = some x0 ∧ w.drew.cell? ⟨k, 1, none⟩ = some x1 ∧ w.drew.cell? ⟨l, 0, none⟩ = some x2 ∧ w.drew.cell? ⟨l, 1, none⟩ = some x3 := h
end Go.Proofs
