/-
  Chapter 9: whether a house fits a clue, both sides (spec.pzFits, DoesFit; impl.doesFit, DoesFit); slices.IndexFunc and ContainsFunc over clues with whatever closure.
-/
import Derived.Test.YtokfnhbdncebmabPzE
import Derived.Laws.StructEq
namespace Go.Proofs
open Go.RowKit
set_option linter.unusedVariables false
set_option linter.unusedSimpArgs false
open Go.Sort in
/-- a street and a clue lie in blocks behind, in whatever world behind them -/
theorem boxes23 (w : World) (a b c d e : Value) (t t2 : TypeId) :
    (∀ n os, (grow (((w.alloc (.cells #[a, b] t)).alloc (.cells #[c, d, e] t2)).drewN n) os).cell? ⟨w.heap.size, 0, none⟩ = some a) ∧
    (∀ n os, (grow (((w.alloc (.cells #[a, b] t)).alloc (.cells #[c, d, e] t2)).drewN n) os).cell? ⟨w.heap.size, 1, none⟩ = some b) ∧
    (∀ n os, (grow (((w.alloc (.cells #[a, b] t)).alloc (.cells #[c, d, e] t2)).drewN n) os).cell? ⟨w.heap.size + 1, 0, none⟩ = some c) ∧
    (∀ n os, (grow (((w.alloc (.cells #[a, b] t)).alloc (.cells #[c, d, e] t2)).drewN n) os).cell? ⟨w.heap.size + 1, 1, none⟩ = some d) ∧
    (∀ n os, (grow (((w.alloc (.cells #[a, b] t)).alloc (.cells #[c, d, e] t2)).drewN n) os).cell? ⟨w.heap.size + 1, 2, none⟩ = some e) := by
  have g := Gr.refl ((w.alloc (.cells #[a, b] t)).alloc (.cells #[c, d, e] t2))
  exact ⟨gr_all g (by simp [go_sem]), gr_all g (by simp [go_sem]), gr_all g (by simp [go_sem]), gr_all g (by simp [go_sem]), gr_all g (by simp [go_sem])⟩
theorem Try.eqlC (x y z z' : Int) (w : World) : Sem.run Try.prog (binOp .eql 42 (.agg #[.int .i64 x, .int .i64 y, .int .i64 z]) (.agg #[.int .i64 x, .int .i64 y, .int .i64 z'])) w = .ok (.bool (z' == z)) w := by
  have u3 := Try.underlying3
  have a3 := Try.isAgg3
  have z3 := Try.sizeOf3
  have hS : Try.prog.underlying 42 = some (.struct (Try.prog.fieldsOf 42)) := by kernel_rfl
  have hp : Try.prog.stoodInHeld 42 = false := by kernel_rfl
  rw [run_eql_struct, show (10000 : Nat) = 9999 + 1 from rfl, run_equalIn_agg w 9999 42 _ _ hS hp]
  simp only [Program.fieldsOf, Try.underlying42]
  go_simp
  by_cases h1 : z' = z
  · simp [h1]
  · have : ¬ z = z' := fun e => h1 e.symm
    simp [h1, this]
theorem cok_KindOk {x y z : Int} (h : cok (x, y, z) = true) : KindOk x y := ⟨(cok_kind h).1, (cok_kind h).2, cok_a h⟩
end Go.Proofs
