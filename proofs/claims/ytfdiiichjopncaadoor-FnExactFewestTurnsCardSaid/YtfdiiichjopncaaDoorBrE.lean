/-
  Contracts of chapter 4: is a block closed? Both sides.
-/
import Derived.Test.YtfdiiichjopncaaDoorBrD
import Derived.WalkMore
import Derived.Laws.StructEq
namespace Go.Proofs
open Go.RowKit Av
set_option linter.unusedVariables false
set_option linter.unusedSimpArgs false
def SRelB (ps : List Blk) (b : Blk) (w : World) (i : Value) (wr : World) : Prop := Gr w wr ∧ ∃ k : Nat, k ≤ ps.length ∧ i = .int .i64 k ∧ ∀ j, j < k → ps.getD j b0 ≠ b
theorem has_false {ps : List Blk} {b : Blk} (h : ∀ j, j < ps.length → ps.getD j b0 ≠ b) : has ps b = false := by
  unfold has
  rw [decide_eq_false_iff_not]
  intro hm
  obtain ⟨j, hj, e⟩ := List.getElem_of_mem hm
  exact h j hj (by rw [getD_eq _ _ hj, e])
theorem has_true {ps : List Blk} {b : Blk} {j : Nat} (hj : j < ps.length) (h : ps.getD j b0 = b) : has ps b = true := by
  unfold has
  rw [decide_eq_true_iff, ← h]
  exact getD_mem _ _ hj
theorem Tryd.eqlB (x y : Int) (u : Bool) (p q : Int) (t : Bool) (w : World) : Sem.run Tryd.prog (binOp .eql 71 (.agg #[.int .i64 x, .int .i64 y, .bool u]) (.agg #[.int .i64 p, .int .i64 q, .bool t])) w = .ok (.bool (decide ((x, y, u) = (p, q, t)))) w := by
  have u3 := Tryd.underlying3
  have a3 := Tryd.isAgg3
  have z3 := Tryd.sizeOf3
  have u4 := Tryd.underlying4
  have a4 := Tryd.isAgg4
  have z4 := Tryd.sizeOf4
  have hS : Tryd.prog.underlying 71 = some (.struct (Tryd.prog.fieldsOf 71)) := by kernel_rfl
  have hp : Tryd.prog.stoodInHeld 71 = false := by kernel_rfl
  rw [run_eql_struct, show (10000 : Nat) = 9999 + 1 from rfl, run_equalIn_agg w 9999 71 _ _ hS hp]
  simp only [Program.fieldsOf, Tryd.underlying71]
  go_simp
  by_cases h1 : x = p <;> by_cases h2 : y = q <;> by_cases h3 : u = t <;> simp [h1, h2, h3]
end Go.Proofs
