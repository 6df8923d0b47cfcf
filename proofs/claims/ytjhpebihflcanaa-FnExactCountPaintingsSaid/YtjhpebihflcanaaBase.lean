/-
  Small words of mine: a world that only draws and lays blocks ('Gr'), closings of a walk. No program's text here.
-/
import Derived.Test.YtjhpebihflcanaaProg
import Derived.WalkKit
import Derived.Below
import Derived.Deep.DeepFit
import Derived.Deep.QuietTactic
import Derived.BigQuiet
import Derived.Lib.Hide
import Derived.WalkSpells
import Derived.WalkLawsBesides
import Derived.Laws.ResultCell
import Derived.Deep.RegionHeld3
import Derived.Shelf.SlSortCmp.QuietGrown
namespace Go.Proofs
open Go.RowKit
set_option linter.unusedVariables false
set_option linter.unusedSimpArgs false
open Go.Sort in
/-- The world w' is w after some draws, with some blocks laid behind it. -/
def Gr (w w' : World) : Prop := ∃ q os, w' = grow (w.drewN q) os
open Go.Sort in
theorem Gr.refl (w : World) : Gr w w := ⟨0, #[], by rw [grow_empty]; rfl⟩
open Go.Sort in
theorem Gr.drew {w w' : World} (h : Gr w w') : Gr w w'.drew := by
  obtain ⟨q, os, rfl⟩ := h; exact ⟨q + 1, os, by rw [drew_grow]; rfl⟩
open Go.Sort in
theorem Gr.drewN {w w' : World} (h : Gr w w') (n : Nat) : Gr w (w'.drewN n) := by
  obtain ⟨q, os, rfl⟩ := h; exact ⟨q + n, os, by rw [← World.drewN_drewN]; rfl⟩
open Go.Sort in
theorem Gr.alloc {w w' : World} (h : Gr w w') (o : Obj) : Gr w (w'.alloc o) := by
  obtain ⟨q, os, rfl⟩ := h; exact ⟨q, os ++ #[o], by rw [alloc_eq_grow, grow_grow]⟩
open Go.Sort in
theorem Gr.trans {w w1 w2 : World} (h : Gr w w1) (h2 : Gr w1 w2) : Gr w w2 := by
  obtain ⟨q, os, rfl⟩ := h; obtain ⟨q2, os2, rfl⟩ := h2
  exact ⟨q + q2, os ++ os2, by rw [← grow_grow, ← World.drewN_drewN]; rfl⟩
open Go.Sort in
theorem Gr.grow {w w' : World} (h : Gr w w') (os : Array Obj) : Gr w (Go.Sort.grow w' os) := by
  obtain ⟨q, os1, rfl⟩ := h; exact ⟨q, os1 ++ os, by rw [grow_grow]⟩
open Go.Sort in
theorem Gr.below {w w' : World} (h : Gr w w') : Below w.heap.size w w' := by
  obtain ⟨q, os, rfl⟩ := h
  exact ⟨rfl, rfl, rfl, by rw [size_grow]; exact Nat.le_add_right _ _, fun k hk => heap_grow_old (w.drewN q) os hk⟩
open Go.Sort in
theorem Gr.setCell {w w' : World} (h : Gr w w') {p : Addr} (hp : w.heap.size ≤ p.block) (u : Value) : Gr w (w'.setCell p u) := by
  obtain ⟨q, os, rfl⟩ := h
  refine ⟨q, os.modify (p.block - w.heap.size) ?f, ?h⟩
  case h =>
    unfold World.setCell Go.Sort.grow
    congr 1
    exact modify_append_right (w.drewN q).heap os p.block _ hp
open Go.Sort in
/-- a boxed pair of cells, in whatever world behind it -/
theorem box2 (w : World) (c d : Value) (t : TypeId) : (∀ n os, (grow ((w.alloc (.cells #[c, d] t)).drewN n) os).cell? ⟨w.heap.size, 0, none⟩ = some c) ∧ (∀ n os, (grow ((w.alloc (.cells #[c, d] t)).drewN n) os).cell? ⟨w.heap.size, 1, none⟩ = some d) :=
  ⟨fun n os => cell_grown (by simp) (by simp [go_sem]) n os, fun n os => cell_grown (by simp) (by simp [go_sem]) n os⟩
theorem ri {a b : Int} (h : a = b) : Ending.returned (.int .i64 a) = .returned (.int .i64 b) := by rw [h]
theorem ri2 {a b c d : Int} (h : a = b) (g : c = d) : Ending.returned (.tuple #[.int .i64 a, .int .i64 c]) = .returned (.tuple #[.int .i64 b, .int .i64 d]) := by rw [h, g]
theorem rbf {P : Prop} [Decidable P] (h : ¬ P) : Ending.returned (.bool false) = .returned (.bool (decide P)) := by simp [h]
theorem rbt {P : Prop} [Decidable P] (h : P) : Ending.returned (.bool true) = .returned (.bool (decide P)) := by simp [h]
theorem rbd {P Q : Prop} [Decidable P] [Decidable Q] (h : P ↔ Q) : Ending.returned (.bool (decide P)) = .returned (.bool (decide Q)) := by simp [h]
theorem r2f {Q : Prop} [Decidable Q] {a b : Int} (h : ¬ Q) (e : a = b) : Ending.returned (.tuple #[.int .i64 a, .bool false]) = .returned (.tuple #[.int .i64 b, .bool (decide Q)]) := by subst e; simp [h]
theorem r2t {Q : Prop} [Decidable Q] {a b : Int} (h : Q) (e : a = b) : Ending.returned (.tuple #[.int .i64 a, .bool true]) = .returned (.tuple #[.int .i64 b, .bool (decide Q)]) := by subst e; simp [h]
theorem r3f {Q : Prop} [Decidable Q] {a b c d : Int} (h : ¬ Q) (e : a = b) (e2 : c = d) : Ending.returned (.tuple #[.int .i64 a, .int .i64 c, .bool false]) = .returned (.tuple #[.int .i64 b, .int .i64 d, .bool (decide Q)]) := by subst e; subst e2; simp [h]
theorem r3t {Q : Prop} [Decidable Q] {a b c d : Int} (h : Q) (e : a = b) (e2 : c = d) : Ending.returned (.tuple #[.int .i64 a, .int .i64 c, .bool true]) = .returned (.tuple #[.int .i64 b, .int .i64 d, .bool (decide Q)]) := by subst e; subst e2; simp [h]
theorem bcell {W w1 : World} (hb : Below W.heap.size W w1) : (∀ b o, b < W.heap.size → w1.cell? ⟨b, o, none⟩ = W.cell? ⟨b, o, none⟩) ∧ (∀ b o, b < W.heap.size → w1.frozen? ⟨b, o, none⟩ = W.frozen? ⟨b, o, none⟩) :=
  ⟨fun b o h => hb.cell (p := ⟨b, o, none⟩) h, fun b o h => hb.frozen (p := ⟨b, o, none⟩) h⟩

theorem same_gr {P : Program} {f : FuncId} {args : Array Value} {w : World} {v : Value} (h : Calls P f args w fun e w' => e = .returned v ∧ w = w') : Calls P f args w fun e w' => e = .returned v ∧ Gr w w' :=
  h.mono fun _ _ ⟨he, hw⟩ => ⟨he, hw ▸ Gr.refl _⟩
open Go.Sort in
theorem boxes (w : World) (a b c d : Value) (t t2 : TypeId) :
    (∀ n os, (grow (((w.alloc (.cells #[a, b] t)).alloc (.cells #[c, d] t2)).drewN n) os).cell? ⟨w.heap.size, 0, none⟩ = some a) ∧
    (∀ n os, (grow (((w.alloc (.cells #[a, b] t)).alloc (.cells #[c, d] t2)).drewN n) os).cell? ⟨w.heap.size, 1, none⟩ = some b) ∧
    (∀ n os, (grow (((w.alloc (.cells #[a, b] t)).alloc (.cells #[c, d] t2)).drewN n) os).cell? ⟨w.heap.size + 1, 0, none⟩ = some c) ∧
    (∀ n os, (grow (((w.alloc (.cells #[a, b] t)).alloc (.cells #[c, d] t2)).drewN n) os).cell? ⟨w.heap.size + 1, 1, none⟩ = some d) :=
  ⟨fun n os => cell_grown (by simp; omega) (by simp [go_sem]) n os, fun n os => cell_grown (by simp; omega) (by simp [go_sem]) n os, fun n os => cell_grown (by simp) (by simp [go_sem]) n os, fun n os => cell_grown (by simp) (by simp [go_sem]) n os⟩
theorem Gr.keep0 {w w' : World} {a : Addr} {v : Value} (g : Gr w w') (h : w.cell? a = some v) : w'.cell? a = some v :=
  (g.below.cell (World.block_lt_of_cell? _ _ h)).trans h
open Go.Sort in
/-- two boxed pairs, in whatever world behind them -/
theorem boxesG {w W : World} {a b c d : Value} {t t2 : TypeId} (g : Gr ((w.alloc (.cells #[a, b] t)).alloc (.cells #[c, d] t2)) W) :
    (∀ n os, (grow (W.drewN n) os).cell? ⟨w.heap.size, 0, none⟩ = some a) ∧ (∀ n os, (grow (W.drewN n) os).cell? ⟨w.heap.size, 1, none⟩ = some b) ∧
    (∀ n os, (grow (W.drewN n) os).cell? ⟨w.heap.size + 1, 0, none⟩ = some c) ∧ (∀ n os, (grow (W.drewN n) os).cell? ⟨w.heap.size + 1, 1, none⟩ = some d) := by
  obtain ⟨h0, h1, h2, h3⟩ := boxes w a b c d t t2
  have k : ∀ n os, Gr (grow (((w.alloc (.cells #[a, b] t)).alloc (.cells #[c, d] t2)).drewN 0) #[]) (grow (W.drewN n) os) := fun n os => by
    rw [grow_empty]; exact Gr.grow (Gr.drewN g n) os
  exact ⟨fun n os => (k n os).keep0 (h0 0 #[]), fun n os => (k n os).keep0 (h1 0 #[]), fun n os => (k n os).keep0 (h2 0 #[]), fun n os => (k n os).keep0 (h3 0 #[])⟩
open Go.Sort in
theorem boxG {w W : World} {a b : Value} {t : TypeId} (g : Gr (w.alloc (.cells #[a, b] t)) W) :
    (∀ n os, (grow (W.drewN n) os).cell? ⟨w.heap.size, 0, none⟩ = some a) ∧ (∀ n os, (grow (W.drewN n) os).cell? ⟨w.heap.size, 1, none⟩ = some b) := by
  obtain ⟨h0, h1⟩ := box2 w a b t
  have k : ∀ n os, Gr (grow ((w.alloc (.cells #[a, b] t)).drewN 0) #[]) (grow (W.drewN n) os) := fun n os => by
    rw [grow_empty]; exact Gr.grow (Gr.drewN g n) os
  exact ⟨fun n os => (k n os).keep0 (h0 0 #[]), fun n os => (k n os).keep0 (h1 0 #[])⟩
open Go.Sort in
theorem gr_all {w w' : World} {a : Addr} {v : Value} (g : Gr w w') (h : w.cell? a = some v) : ∀ n os, (grow (w'.drewN n) os).cell? a = some v :=
  fun n os => (Gr.grow (Gr.drewN g n) os).keep0 h
open Go.Sort in
theorem gr_all_f {w w' : World} {b o : Nat} (g : Gr w w') (hb : b < w.heap.size) (h : w.frozen? ⟨b, o, none⟩ = false) : ∀ n os, (grow (w'.drewN n) os).frozen? ⟨b, o, none⟩ = false :=
  fun n os => ((bcell (Gr.grow (Gr.drewN g n) os).below).2 b o hb).trans h
open Go.Sort in
/-- two boxed pairs and a third behind them (a result's cells), in whatever world behind -/
theorem boxes3 {w W : World} {a b c d x y : Value} {t t2 t3 : TypeId} (g : Gr (((w.alloc (.cells #[a, b] t)).alloc (.cells #[c, d] t2)).alloc (.cells #[x, y] t3)) W) :
    ((∀ n os, (grow (W.drewN n) os).cell? ⟨w.heap.size, 0, none⟩ = some a) ∧ (∀ n os, (grow (W.drewN n) os).cell? ⟨w.heap.size, 1, none⟩ = some b) ∧
    (∀ n os, (grow (W.drewN n) os).cell? ⟨w.heap.size + 1, 0, none⟩ = some c) ∧ (∀ n os, (grow (W.drewN n) os).cell? ⟨w.heap.size + 1, 1, none⟩ = some d)) ∧
    (∀ n os, (grow (W.drewN n) os).cell? ⟨w.heap.size + 1 + 1, 0, none⟩ = some x) ∧ (∀ n os, (grow (W.drewN n) os).cell? ⟨w.heap.size + 1 + 1, 1, none⟩ = some y) ∧
    (∀ n os, (grow (W.drewN n) os).frozen? ⟨w.heap.size + 1 + 1, 0, none⟩ = false) ∧ (∀ n os, (grow (W.drewN n) os).frozen? ⟨w.heap.size + 1 + 1, 1, none⟩ = false) :=
  ⟨boxesG (Gr.trans (Gr.alloc (Gr.refl _) _) g), gr_all g (by simp [go_sem]), gr_all g (by simp [go_sem]), gr_all_f g (by simp) (by simp [go_sem]), gr_all_f g (by simp) (by simp [go_sem])⟩
end Go.Proofs
