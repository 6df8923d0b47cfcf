/-
  Searches: words on queues and rows of corners (chapters 4 and 6). No search yet.
-/
import Derived.Test.YtfdiiichjopncaaDoorBfB
import Derived.Test.YtfdiiichjopncaaDoorGrLs
namespace Go.Proofs
open Go.RowKit Av Gm Go.Maps
set_option linter.unusedVariables false
set_option linter.unusedSimpArgs false
/-- a vertex as an element of the queue -/
def ccs (Hn : Nat) (n : Nat) : List Value := [.int .i64 (crn Hn n).1, .int .i64 (crn Hn n).2]
theorem ccs_len (Hn : Nat) : ∀ n, (ccs Hn n).length = 2 := fun _ => rfl
theorem ccs_one (Hn : Nat) : ∀ n, ∀ u ∈ ccs Hn n, u.oneCell' = true := by
  intro n u hu
  simp [ccs] at hu
  rcases hu with rfl | rfl <;> rfl
theorem Tryd.infoC : (Tryd.prog.info? 47).map (fun i => (i.zero, i.size, i.bytes)) = some (some (.agg #[.int .i64 0, .int .i64 0]), 2, 16) := by kernel_rfl
theorem QOwn.form {α : Type} {T : TypeId} {k : Nat} {enc : α → List Value} {w : World} {B : Nat} {v : Value} {qs : List α} (h : QOwn T k enc w B v qs) : ∃ A c, v = .slice A qs.length c := by
  rcases h with ⟨rfl, A, c, rfl⟩ | ⟨_, g, o, c, cur, rfl, _⟩
  · exact ⟨A, c, rfl⟩
  · exact ⟨_, c, rfl⟩
theorem ownsMap_gr' {H : Type} {P : Program} {k : TypeId} {R : Value → Option (DataW H × List MemPlace)} {b n : Nat} {D : DataW H} {w w' : World} (h : w.ownsMap P k R b n D) (g : Gr w w') : w'.ownsMap P k R b n D :=
  h.kept ⟨g.below.os, g.below.tape, g.below.output, g.below.size, fun k hk _ => g.below.block k hk⟩ (row := none) (by simp)
theorem itV_none {W H : Int} {cl : List Blk} {x y : Int} {j : Nat} (h : stp W H cl (x, y) j = false) : ∃ p q : Int, itV W H cl x y j = .tuple #[.agg #[.int .i64 p, .int .i64 q], .bool false] := by
  unfold itV
  rw [h]
  split
  · exact ⟨_, _, rfl⟩
  · exact ⟨0, 0, rfl⟩
theorem itV_some {W H : Int} {cl : List Blk} {x y : Int} {j : Nat} (h : stp W H cl (x, y) j = true) : itV W H cl x y j = .tuple #[.agg #[.int .i64 (x + dx j), .int .i64 (y + dy j)], .bool true] := by
  unfold itV
  have : onB W H (x + dx j) (y + dy j) = true := by
    unfold stp at h
    simp only [Bool.and_eq_true] at h
    exact h.1
  rw [h, if_pos this]
theorem Tryd.fieldR0 (p q : Int) (W : World) : (Instr.field 38 (.agg #[.int .i64 p, .int .i64 q]) 0).run Tryd.prog W = .ok (.int .i64 p) W := by kernel_rfl
theorem Tryd.fieldR1 (p q : Int) (W : World) : (Instr.field 38 (.agg #[.int .i64 p, .int .i64 q]) 1).run Tryd.prog W = .ok (.int .i64 q) W := by kernel_rfl
theorem below_grown {B : Nat} {w w' : World} (h : Below B w w') (hB : w.heap.size ≤ B) : w.grownBy w' none := ⟨h.os, h.tape, h.output, h.size, fun k hk _ => h.block k (by omega)⟩
theorem QOwn.ofBelow {α : Type} {T : TypeId} {k : Nat} {enc : α → List Value} {w w' : World} {B C : Nat} {v : Value} {qs : List α} (h : QOwn T k enc w B v qs) (g : Below C w w') (hC : w.heap.size ≤ C) : QOwn T k enc w' B v qs :=
  h.kept (below_grown g hC) (fun b hb => by cases hb)
theorem ownsMap_ofBelow {H : Type} {P : Program} {k : TypeId} {R : Value → Option (DataW H × List MemPlace)} {b n C : Nat} {D : DataW H} {w w' : World} (h : w.ownsMap P k R b n D) (g : Below C w w') (hC : w.heap.size ≤ C) : w'.ownsMap P k R b n D :=
  h.kept (below_grown g hC) (row := none) (by simp)
end Go.Proofs
