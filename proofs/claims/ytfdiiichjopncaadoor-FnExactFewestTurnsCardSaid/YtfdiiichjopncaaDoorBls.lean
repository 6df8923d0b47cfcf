/-
  Lists of bools in a row of one's own: words.
-/
import Derived.Test.YtfdiiichjopncaaDoorInts2
namespace Go.Proofs
open Go.RowKit
set_option linter.unusedVariables false
set_option linter.unusedSimpArgs false
/-- the first N values of a function -/
def tab (N : Nat) (R : Nat → Bool) : List Bool := (List.range N).map R
theorem tab_len (N : Nat) (R : Nat → Bool) : (tab N R).length = N := by simp [tab]
theorem tab_get (N : Nat) (R : Nat → Bool) (j : Nat) (hj : j < N) : (tab N R)[j]? = some (R j) := by simp [tab, hj]
def upd (R : Nat → Bool) (j : Nat) (b : Bool) : Nat → Bool := fun i => if i = j then b else R i
theorem tab_set (N : Nat) (R : Nat → Bool) (j : Nat) (b : Bool) : (tab N R).set j b = tab N (upd R j b) := by
  apply List.ext_getElem?
  intro i
  by_cases hi : i < N
  · rw [tab_get _ _ i hi, List.getElem?_set]
    by_cases e : j = i
    · subst e; simp [upd, tab_len, hi]
    · rw [if_neg e, tab_get _ _ i hi]
      unfold upd
      rw [if_neg (fun h => e h.symm)]
  · rw [List.getElem?_eq_none (by simp [tab_len]; omega), List.getElem?_eq_none (by simp [tab_len]; omega)]
theorem tab_congr {N : Nat} {R R' : Nat → Bool} (h : ∀ i, i < N → R i = R' i) : tab N R = tab N R' := by
  unfold tab
  exact List.map_congr_left fun i hi => h i (List.mem_range.1 hi)
/-- the block g is a row of the call's own, from block B on, that holds the first N values of R -/
def OwnT2 (T : TypeId) (w : World) (B g N : Nat) (R : Nat → Bool) : Prop := w.ownsRow B T 1 (.slice (some ⟨g, 0, none⟩) N N) N ((tab N R).map Value.bool)
section
variable {T : TypeId} {w w' : World} {B g N : Nat} {R : Nat → Bool}
theorem OwnT2.at (h : OwnT2 T w B g N R) (j : Nat) (hj : j < N) : w.cell? ⟨g, j, none⟩ = some (.bool (R j)) ∧ w.frozen? ⟨g, j, none⟩ = false := by
  refine ⟨?_, World.ownsRow.frozenAt h _⟩
  rw [World.ownsRow.cellAt h j (by omega)]
  simp [tab_get N R j hj]
theorem OwnT2.set (h : OwnT2 T w B g N R) (j : Nat) (b : Bool) : OwnT2 T (w.setCell ⟨g, j, none⟩ (.bool b)) B g N (upd R j b) := by
  have := (World.ownsRow.stored h j (.bool b)).1
  unfold OwnT2
  rw [← tab_set]
  simpa [List.map_set] using this
theorem OwnT2.lt (h : OwnT2 T w B g N R) : B ≤ g ∧ g < w.heap.size := World.ownsRow.lt h g rfl
theorem OwnT2.grown {row : Option Nat} (h : OwnT2 T w B g N R) (hg : w.grownBy w' row) (hne : some g ≠ row) : OwnT2 T w' B g N R := World.ownsRow.kept h hg (.inr hne)
theorem OwnT2.grown1 (h : OwnT2 T w B g N R) (hg : Gr w w') : OwnT2 T w' B g N R := by
  refine ⟨h.1, ?_⟩
  rcases h.2 with hn | ⟨g', cap, cur, e, hb', hq, r⟩
  · exact .inl hn
  · exact .inr ⟨g', cap, cur, e, hb', by rw [hg.below.block g' (by have := (Array.getElem?_eq_some_iff.1 hq).1; omega)]; exact hq, r⟩
theorem OwnT2.mono {C : Nat} (h : OwnT2 T w B g N R) (hC : C ≤ B) : OwnT2 T w C g N R := by
  refine ⟨h.1, ?_⟩
  rcases h.2 with hn | ⟨g', cap, cur, e, hb', r⟩
  · exact .inl hn
  · exact .inr ⟨g', cap, cur, e, by omega, r⟩
theorem OwnT2.congr {R' : Nat → Bool} (h : OwnT2 T w B g N R) (e : ∀ i, i < N → R i = R' i) : OwnT2 T w B g N R' := by
  unfold OwnT2 at *
  rw [← tab_congr e]
  exact h
end
end Go.Proofs
