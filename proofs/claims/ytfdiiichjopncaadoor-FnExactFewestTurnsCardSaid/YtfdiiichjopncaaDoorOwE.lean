/-
  Chapter 6: ways with all turned, both functions; texts of ways, both functions.
-/
import Derived.Test.YtfdiiichjopncaaDoorOwD
import Derived.Test.YtfdiiichjopncaaDoorQTail
namespace Go.Proofs
open Go.RowKit
set_option linter.unusedVariables false
set_option linter.unusedSimpArgs false
def gb (s : ByteArray) (i : Nat) : UInt8 := s.data.toList.getD i 0
theorem gb_eq (s : ByteArray) (i : Nat) (h : i < s.size) : s[i] = gb s i := by
  unfold gb
  have h' : i < s.data.toList.length := by simpa using h
  rw [List.getD_eq_getElem?_getD, List.getElem?_eq_getElem h']
  rfl
theorem okT_sg {p q : UInt8} {s : ByteArray} (h : okT p q s = true) (hp : isSg p) (hq : isSg q) : ∀ i, ∀ hi : i < s.size, isSg s[i] := fun i hi => by
  rcases okT_at h i hi with e | e <;> rw [e] <;> assumption
theorem sgE : isSg 101 := .inl rfl
theorem sgW : isSg 119 := .inr (.inl rfl)
theorem sgN : isSg 110 := .inr (.inr (.inl rfl))
theorem sgS : isSg 115 := .inr (.inr (.inr rfl))
theorem okW_and {s a : ByteArray} (h : okW s a = true) : okT 101 119 s = true ∧ okT 110 115 a = true := by
  unfold okW at h
  simpa using h
theorem two_set {w1 : World} {b : Nat} {x y : Value} (h0 : w1.cell? ⟨b, 0, none⟩ = some x) (h1 : w1.cell? ⟨b, 1, none⟩ = some y) (u v : Value) :
    ((w1.setCell ⟨b, 0, none⟩ u).setCell ⟨b, 1, none⟩ v).cell? ⟨b, 0, none⟩ = some u ∧ ((w1.setCell ⟨b, 0, none⟩ u).setCell ⟨b, 1, none⟩ v).cell? ⟨b, 1, none⟩ = some v := by
  have e1 : (w1.setCell ⟨b, 0, none⟩ u).cell? ⟨b, 1, none⟩ = some y := by
    rw [World.cell?_setCell_other _ ⟨b, 0, none⟩ ⟨b, 1, none⟩ _ (by simp)]; exact h1
  refine ⟨?_, World.cell?_setCell_same _ _ v e1⟩
  rw [World.cell?_setCell_other _ ⟨b, 1, none⟩ ⟨b, 0, none⟩ _ (by simp)]; exact World.cell?_setCell_same _ _ u h0
/-- a result of two cells that is stored behind a walk -/
theorem resSet {w W : World} {A : Obj} {x y : Value} {t : TypeId} (g : Gr ((w.alloc A).alloc (.cells #[x, y] t)) W) (u v : Value) :
    ((W.setCell ⟨w.heap.size + 1, 0, none⟩ u).setCell ⟨w.heap.size + 1, 1, none⟩ v).cell? ⟨w.heap.size + 1, 0, none⟩ = some u ∧ ((W.setCell ⟨w.heap.size + 1, 0, none⟩ u).setCell ⟨w.heap.size + 1, 1, none⟩ v).cell? ⟨w.heap.size + 1, 1, none⟩ = some v :=
  two_set (g.keep0 (v := x) (by simp [go_sem])) (g.keep0 (v := y) (by simp [go_sem])) u v
theorem Tryd.zWays (w : World) : (zeroValue 28).run Tryd.prog w = .ok (.agg #[.string ⟨#[]⟩, .string ⟨#[]⟩]) w := by kernel_rfl
end Go.Proofs
