/-
  Chapter 4: words of a city told from the other side: three cells of a box.
-/
import Derived.Test.YtnpkhoiblemodaaObA
import Derived.Test.YtnpkhoiblemodaaAvAll
namespace Go.Proofs
open Go.RowKit Av
set_option linter.unusedVariables false
set_option linter.unusedSimpArgs false
theorem OwnB.elsM {w : World} {B : Nat} {A : Option Addr} {c : Nat} {ps : List Blk} (h : OwnB w B (.slice A ps.length c) ps) : ∀ j, j < ps.length → ∃ g, A = some ⟨g, 0, none⟩ ∧ w.cell? ⟨g, j * 3, none⟩ = some (.int .i64 (ps.getD j b0).1) ∧ w.cell? ⟨g, j * 3 + 1, none⟩ = some (.int .i64 (ps.getD j b0).2.1) ∧ w.cell? ⟨g, j * 3 + 2, none⟩ = some (.bool (ps.getD j b0).2.2) := by
  rcases OwnB.view h with ⟨rfl, _⟩ | ⟨_, g, c', e, _, _, _, _, hc, _⟩
  · intro j hj; simp at hj
  · intro j hj
    simp only [Value.slice.injEq] at e
    exact ⟨g, e.1, hc j hj⟩
/-- three cells of a box, none frozen -/
def Bx (w : World) (n : Nat) (a b c : Value) : Prop := w.cell? ⟨n, 0, none⟩ = some a ∧ w.cell? ⟨n, 1, none⟩ = some b ∧ w.cell? ⟨n, 2, none⟩ = some c ∧ ∀ o, w.frozen? ⟨n, o, none⟩ = false
theorem Bx.bel {w w' : World} {n m : Nat} {a b c : Value} (h : Bx w n a b c) (g : Below m w w') (hn : n < m) : Bx w' n a b c :=
  ⟨(g.cell (p := ⟨n, 0, none⟩) hn).trans h.1, (g.cell (p := ⟨n, 1, none⟩) hn).trans h.2.1, (g.cell (p := ⟨n, 2, none⟩) hn).trans h.2.2.1, fun o => (g.frozen (p := ⟨n, o, none⟩) hn).trans (h.2.2.2 o)⟩
theorem Bx.lt {w : World} {n : Nat} {a b c : Value} (h : Bx w n a b c) : n < w.heap.size := World.block_lt_of_cell? _ _ h.1
theorem Bx.set {w : World} {n m : Nat} {a b c x y z : Value} (h : Bx w n a b c) (hne : n ≠ m) : Bx (((w.setCell ⟨m, 0, none⟩ x).setCell ⟨m, 1, none⟩ y).setCell ⟨m, 2, none⟩ z) n a b c :=
  ⟨cell_set3 h.1 hne, cell_set3 h.2.1 hne, cell_set3 h.2.2.1 hne, fun o => by simpa using h.2.2.2 o⟩
theorem Bx.own {w : World} {n : Nat} {a b c x y z : Value} (h : Bx w n a b c) : Bx (((w.setCell ⟨n, 0, none⟩ x).setCell ⟨n, 1, none⟩ y).setCell ⟨n, 2, none⟩ z) n x y z :=
  ⟨set3_0 h.1, set3_1 h.2.1, set3_2 h.2.2.1, fun o => by simpa using h.2.2.2 o⟩
theorem OwnB.set3o {w : World} {B m : Nat} {v x y z : Value} {ps : List Blk} (h : OwnB w B v ps) (hm : m < B) : OwnB (((w.setCell ⟨m, 0, none⟩ x).setCell ⟨m, 1, none⟩ y).setCell ⟨m, 2, none⟩ z) B v ps :=
  OwnE.setOther (a := ⟨m, 2, none⟩) (OwnE.setOther (a := ⟨m, 1, none⟩) (OwnE.setOther (a := ⟨m, 0, none⟩) h hm _) hm _) hm _
end Go.Proofs
