/-
  Chapter 9: the houses that fit all clues, the program (impl.leftBy).
-/
import Derived.Test.YtokfnhbdncebmabPzG
namespace Go.Proofs
open Go.RowKit
set_option linter.unusedVariables false
set_option linter.unusedSimpArgs false
def ptrI (v : Value) (w : World) : Int := match v with
  | .pointer (some a) => (match w.cell? a with | some x => intOf x | none => 0)
  | _ => 0
theorem CluRow.below {w w' : World} {v : Value} {cs : List Clu} (h : CluRow w v cs) (g : Below w.heap.size w w') : CluRow w' v cs := by
  obtain ⟨A, c, e, h0, h1, h2⟩ := h
  refine ⟨A, c, e, h0, h1, h2.imp id ?_⟩
  rintro ⟨b, o, e2, h3⟩
  exact ⟨b, o, e2, fun j hj => ⟨cell_k2 g (h3 j hj).1, cell_k2 g (h3 j hj).2.1, cell_k2 g (h3 j hj).2.2⟩⟩
theorem cell_gbZ {w w' : World} {row : Option Nat} (d : w.grownBy w' row) {b o : Nat} {v : Value} (h : w.cell? ⟨b, o, none⟩ = some v) (hne : some b ≠ row) : w'.cell? ⟨b, o, none⟩ = some v := by
  have hb := World.block_lt_of_cell? _ _ h
  have e := d.block b hb hne
  unfold World.cell? at *
  simp only at *
  rw [e]; exact h
theorem any_not (f : Clu → Bool) (cs : List Clu) : cs.any (fun c => !(f c)) = !(cs.all f) := by
  induction cs with
  | nil => rfl
  | cons c cs ih => simp [ih]
def LRelZ (k p : Int) (cs : List Clu) (w W0 : World) (s5 s6 : Value) (wr : World) : Prop := ∃ (m b : Nat), m ≤ (hs k p).toNat ∧ s6 = .pointer (some ⟨b, 0, none⟩) ∧ OwnI wr (w.heap.size + 1) s5 (pallT k p cs m) ∧
  (∀ g, s5.ownBlock = some g → g < b) ∧ wr.cell? ⟨b, 0, none⟩ = some (.int .i64 ((m : Int) + 1)) ∧ wr.frozen? ⟨b, 0, none⟩ = false ∧ w.heap.size + 1 ≤ b ∧ Below (w.heap.size + 1) W0 wr
end Go.Proofs
