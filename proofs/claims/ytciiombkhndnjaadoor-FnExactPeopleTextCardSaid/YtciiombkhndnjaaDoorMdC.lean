/-
  Contracts of chapter 5, the program: steps between houses, the nearest box (slices.MinFunc with its closure), people that are good (slices.Min, slices.Max).
-/
import Derived.Test.YtciiombkhndnjaaDoorMdMath
import Derived.Test.YtciiombkhndnjaaDoorShelf
namespace Go.Proofs
open Go.RowKit
set_option linter.unusedVariables false
set_option linter.unusedSimpArgs false
/-- a row of boxes that can be read -/
def BoxRow (w : World) (v : Value) (bs : List Int) : Prop := ∃ g c, v = .slice (some ⟨g, 0, none⟩) bs.length c ∧ 0 < bs.length ∧ bs.length ≤ 60 ∧ (∀ j, j < bs.length → w.cell? ⟨g, j, none⟩ = some (.int .i64 (gx bs j))) ∧ ∀ j, j < bs.length → -200 ≤ gx bs j ∧ gx bs j ≤ 200
theorem BoxRow.gr {w w' : World} {v : Value} {bs : List Int} (h : BoxRow w v bs) (g : Gr w w') : BoxRow w' v bs := by
  obtain ⟨a, c, e, h0, h1, h2, h3⟩ := h
  exact ⟨a, c, e, h0, h1, fun j hj => g.keep2 (h2 j hj), h3⟩
theorem BoxRow.below {w w' : World} {v : Value} {bs : List Int} (h : BoxRow w v bs) (g : Below w.heap.size w w') : BoxRow w' v bs := by
  obtain ⟨a, c, e, h0, h1, h2, h3⟩ := h
  exact ⟨a, c, e, h0, h1, fun j hj => (g.cell (World.block_lt_of_cell? _ _ (h2 j hj))).trans (h2 j hj), h3⟩
theorem OwnI.boxes {w : World} {B : Nat} {v : Value} {bs : List Int} (h : OwnI w B v bs) (h0 : 0 < bs.length) (h1 : bs.length ≤ 60) (h2 : ∀ j, j < bs.length → -200 ≤ gx bs j ∧ gx bs j ≤ 200) : BoxRow w v bs := by
  rcases h.view with ⟨rfl, _⟩ | ⟨_, g, c, rfl, _, _, _, hc, _⟩
  · simp at h0
  · exact ⟨g, c, rfl, h0, h1, hc, h2⟩
def NRel (bs : List Int) (h : Int) (w : World) (m i : Value) (wr : World) : Prop := Gr w wr ∧ ∃ k : Nat, 1 ≤ k ∧ k ≤ bs.length ∧ i = .int .i64 k ∧ m = .int .i64 (nearN bs h k)
end Go.Proofs
