/-
  Lists of blocks, cities: words; the contracts of the law's own helpers (copy, count, same, marks, marks held).
-/
import Derived.Test.YtfdiiichjopncaaDoorEls
import Derived.Test.YtfdiiichjopncaaDoorAvMath
import Derived.Deep.Slices
namespace Go.Proofs
open Go.RowKit Av
set_option linter.unusedVariables false
set_option linter.unusedSimpArgs false
def bcs (b : Blk) : List Value := [.int .i64 b.1, .int .i64 b.2.1, .bool b.2.2]
theorem bcs_len : ∀ b, (bcs b).length = 3 := fun _ => rfl
theorem bcs_one : ∀ b, ∀ u ∈ bcs b, u.oneCell' = true := by
  intro b u hu
  simp [bcs] at hu
  rcases hu with rfl | rfl | rfl <;> rfl
/-- The slice value v is a row of the call's own, from block B on, that holds the blocks ps. -/
abbrev OwnB (w : World) (B : Nat) (v : Value) (ps : List Blk) : Prop := OwnE 71 3 bcs w B v ps
abbrev ArgB (w : World) (A : Option Addr) (len cap : Nat) (zs : List Blk) : Prop := ArgE 3 bcs w A len cap zs
section
variable {w w' : World} {B C : Nat} {v : Value} {ps : List Blk}
theorem OwnB.view (h : OwnB w B v ps) :
    (ps = [] ∧ ∃ A c, v = .slice A 0 c) ∨ (0 < ps.length ∧ ∃ g c, v = .slice (some ⟨g, 0, none⟩) ps.length c ∧ B ≤ g ∧ g < w.heap.size ∧ ps.length ≤ c ∧ c ≤ maxLen ∧
      (∀ j, j < ps.length → w.cell? ⟨g, j * 3, none⟩ = some (.int .i64 (ps.getD j b0).1) ∧ w.cell? ⟨g, j * 3 + 1, none⟩ = some (.int .i64 (ps.getD j b0).2.1) ∧ w.cell? ⟨g, j * 3 + 2, none⟩ = some (.bool (ps.getD j b0).2.2)) ∧ ∀ j, w.frozen? ⟨g, j, none⟩ = false) := by
  rcases OwnE.view bcs_len b0 h with x | ⟨h0, g, c, rfl, h1, h2, h3, h4, h5, h6⟩
  · exact .inl x
  · exact .inr ⟨h0, g, c, rfl, h1, h2, h3, h4, fun j hj => ⟨h5 j 0 hj (by decide), h5 j 1 hj (by decide), h5 j 2 hj (by decide)⟩, h6⟩
theorem OwnB.at {g n c : Nat} (h : OwnB w B (.slice (some ⟨g, 0, none⟩) n c) ps) (hn : ps.length = n) (j : Nat) (hj : j < n) :
    w.cell? ⟨g, j * 3, none⟩ = some (.int .i64 (ps.getD j b0).1) ∧ w.cell? ⟨g, j * 3 + 1, none⟩ = some (.int .i64 (ps.getD j b0).2.1) ∧ w.cell? ⟨g, j * 3 + 2, none⟩ = some (.bool (ps.getD j b0).2.2) ∧
    w.frozen? ⟨g, j * 3, none⟩ = false ∧ w.frozen? ⟨g, j * 3 + 1, none⟩ = false ∧ w.frozen? ⟨g, j * 3 + 2, none⟩ = false := by
  have c0 := OwnE.cell bcs_len b0 h hn j 0 hj (by decide)
  have c1 := OwnE.cell bcs_len b0 h hn j 1 hj (by decide)
  have c2 := OwnE.cell bcs_len b0 h hn j 2 hj (by decide)
  exact ⟨c0.1, c1.1, c2.1, c0.2, c1.2, c2.2⟩
theorem OwnB.set3 {g n c : Nat} (h : OwnB w B (.slice (some ⟨g, 0, none⟩) n c) ps) (hn : ps.length = n) (j : Nat) (x y : Int) (u : Bool) (hj : j < n) :
    OwnB (((w.setCell ⟨g, j * 3, none⟩ (.int .i64 x)).setCell ⟨g, j * 3 + 1, none⟩ (.int .i64 y)).setCell ⟨g, j * 3 + 2, none⟩ (.bool u)) B (.slice (some ⟨g, 0, none⟩) n c) (ps.set j (x, y, u)) := by
  have hlt : j < ps.length := by omega
  have h1 := OwnE.set bcs_len b0 h hn j 0 (.int .i64 x) (x, (ps.getD j b0).2.1, (ps.getD j b0).2.2) hj (by decide) rfl
  have h2 := OwnE.set bcs_len b0 h1 (by simpa using hn) j 1 (.int .i64 y) (x, y, (ps.getD j b0).2.2) hj (by decide) (by simp [List.getD, hlt, bcs])
  have h3 := OwnE.set bcs_len b0 h2 (by simpa using hn) j 2 (.bool u) (x, y, u) hj (by decide) (by simp [List.getD, hlt, bcs])
  simpa using h3
end
open Go.Sort in
/-- a boxed row of three cells, in whatever world behind it -/
theorem box3 (w : World) (a b c : Value) (t : TypeId) : (∀ n os, (grow ((w.alloc (.cells #[a, b, c] t)).drewN n) os).cell? ⟨w.heap.size, 0, none⟩ = some a) ∧ (∀ n os, (grow ((w.alloc (.cells #[a, b, c] t)).drewN n) os).cell? ⟨w.heap.size, 1, none⟩ = some b) ∧ (∀ n os, (grow ((w.alloc (.cells #[a, b, c] t)).drewN n) os).cell? ⟨w.heap.size, 2, none⟩ = some c) :=
  ⟨fun n os => cell_grown (by simp) (by simp [go_sem]) n os, fun n os => cell_grown (by simp) (by simp [go_sem]) n os, fun n os => cell_grown (by simp) (by simp [go_sem]) n os⟩
open Go.Sort in
theorem boxG3 {w W : World} {a b c : Value} {t : TypeId} (g : Gr (w.alloc (.cells #[a, b, c] t)) W) :
    (∀ n os, (grow (W.drewN n) os).cell? ⟨w.heap.size, 0, none⟩ = some a) ∧ (∀ n os, (grow (W.drewN n) os).cell? ⟨w.heap.size, 1, none⟩ = some b) ∧ (∀ n os, (grow (W.drewN n) os).cell? ⟨w.heap.size, 2, none⟩ = some c) :=
  ⟨gr_all g (by simp [go_sem]), gr_all g (by simp [go_sem]), gr_all g (by simp [go_sem])⟩
open Go.Sort in
/-- two boxed rows of three, in whatever world behind them -/
theorem boxesG3 {w W : World} {a b c d e f : Value} {t t2 : TypeId} (g : Gr ((w.alloc (.cells #[a, b, c] t)).alloc (.cells #[d, e, f] t2)) W) :
    (∀ n os, (grow (W.drewN n) os).cell? ⟨w.heap.size, 0, none⟩ = some a) ∧ (∀ n os, (grow (W.drewN n) os).cell? ⟨w.heap.size, 1, none⟩ = some b) ∧ (∀ n os, (grow (W.drewN n) os).cell? ⟨w.heap.size, 2, none⟩ = some c) ∧
    (∀ n os, (grow (W.drewN n) os).cell? ⟨w.heap.size + 1, 0, none⟩ = some d) ∧ (∀ n os, (grow (W.drewN n) os).cell? ⟨w.heap.size + 1, 1, none⟩ = some e) ∧ (∀ n os, (grow (W.drewN n) os).cell? ⟨w.heap.size + 1, 2, none⟩ = some f) := by
  obtain ⟨x, y, z⟩ := boxG3 (Gr.trans (Gr.alloc (Gr.refl _) _) g)
  exact ⟨x, y, z, gr_all g (by simp [go_sem]), gr_all g (by simp [go_sem]), gr_all g (by simp [go_sem])⟩
theorem Tryd.infoB : (Tryd.prog.info? 71).map (fun i => (i.zero, i.size, i.bytes)) = some (some (.agg #[.int .i64 0, .int .i64 0, .bool false]), 3, 24) := by kernel_rfl
def bV (b : Blk) : Value := .agg #[.int .i64 b.1, .int .i64 b.2.1, .bool b.2.2]
def CRelB (B : Nat) (xs : List Blk) (v : Value) (w : World) (i : Value) (wr : World) : Prop := ∃ k : Nat, k ≤ xs.length ∧ i = .int .i64 k ∧ OwnB wr B v (cpe b0 k xs) ∧ Below B w wr
theorem cells3 {w : World} {ad : Addr} {b : Blk} (h : ∀ i u, (bcs b)[i]? = some u → w.cell? (ad.add i) = some u) : ∀ j v, [Value.int .i64 b.1, .int .i64 b.2.1, .bool b.2.2][j]? = some v → w.cell? (ad.add j) = some v := h
def ERelB (n : Nat) (w : World) (s : Value) (wr : World) : Prop := Gr w wr ∧ ∃ i : Nat, i ≤ n ∧ s = .int .i64 i
/-- the marks that the law lays -/
def mkb (j : Nat) : Blk := (1 + 3 * j, 1 + 3 * j + 1, true)
def MRelB (n B : Nat) (xs : List Blk) (v : Value) (w : World) (k s : Value) (wr : World) : Prop := ∃ i : Nat, i ≤ n ∧ s = .int .i64 i ∧ k = .int .i64 (1 + 3 * i) ∧ OwnB wr B v (mke mkb i xs) ∧ w.grownBy wr v.ownBlock
theorem grownBy_setCell {w w' : World} {g o : Nat} {u : Value} (h : w.grownBy w' (some g)) : w.grownBy (w'.setCell ⟨g, o, none⟩ u) (some g) :=
  ⟨h.os, h.tape, h.output, by simpa using h.size, fun k hk hne => by rw [heap_setCell_other w' ⟨g, o, none⟩ k u (fun e => hne (by rw [e]))]; exact h.block k hk hne⟩
def HRelB (n : Nat) (w : World) (k s : Value) (wr : World) : Prop := w = wr ∧ ∃ i : Nat, i ≤ n ∧ s = .int .i64 i ∧ k = .int .i64 (1 + 3 * i)
end Go.Proofs
