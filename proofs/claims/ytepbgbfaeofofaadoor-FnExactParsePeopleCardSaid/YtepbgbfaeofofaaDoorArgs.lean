/-
  Arguments that are lists of ints: the word ArgI, and the contract of the law's own copy (laws.toIntS).
-/
import Derived.Test.YtepbgbfaeofofaaDoorInts
import Derived.Laws.OwnMore
namespace Go.Proofs
open Go.RowKit
set_option linter.unusedVariables false
set_option linter.unusedSimpArgs false
/-- An argument of ints: nil, or a row that lies anywhere. -/
def ArgI (w : World) (A : Option Addr) (len cap : Nat) (zs : List Int) : Prop :=
  zs.length = len ∧ len ≤ cap ∧ cap ≤ maxLen ∧ (∀ n ∈ zs, (Lit.int .i64 n).wf = true) ∧ (zs = [] ∨ ∃ a, A = some a ∧ ∀ j, j < zs.length → w.cell? (a.add j) = some (.int .i64 (zs.getD j 0)))
theorem Gr.keep3 {w w' : World} {a : Addr} {v : Value} (g : Gr w w') (h : w.cell? a = some v) : w'.cell? a = some v :=
  (g.below.cell (World.block_lt_of_cell? _ _ h)).trans h
theorem Below.keep3 {w w' : World} {a : Addr} {v : Value} (g : Below w.heap.size w w') (h : w.cell? a = some v) : w'.cell? a = some v :=
  (g.cell (World.block_lt_of_cell? _ _ h)).trans h
theorem ArgI.below {w w' : World} {A : Option Addr} {len cap : Nat} {zs : List Int} (h : ArgI w A len cap zs) (g : Below w.heap.size w w') : ArgI w' A len cap zs := by
  obtain ⟨a, b, c, d, e⟩ := h
  refine ⟨a, b, c, d, e.imp id ?_⟩
  rintro ⟨x, rfl, hx⟩
  exact ⟨x, rfl, fun j hj => Below.keep3 g (hx j hj)⟩
/-- What the library reads of an argument of ints gives the word. -/
theorem ArgI.of_open {w : World} {x : Addr} {len cap : Nat} {zs : List Int} (hl : len ≤ cap) (hm : cap ≤ maxLen) (hz : zs.length = cap) (hc : ∀ i, i < zs.length → w.cell? (x.add i) = some (.int .i64 (zs.getD i 0)))
    (hw : ∀ n ∈ zs, (Lit.int .i64 n).wf = true) : ∃ ys, ArgI w (some x) len cap ys :=
  ⟨zs.take len, by simp; omega, hl, hm, fun n hn => hw n (List.mem_of_mem_take hn), .inr ⟨x, rfl, fun j hj => by
    have h1 : j < len := by simp at hj; omega
    rw [hc j (by omega)]
    simp [List.getD, List.getElem?_take, h1]⟩⟩
/-- the first i are copied, the others are still zero -/
def cps (i : Nat) (xs : List Int) : List Int := xs.take i ++ List.replicate (xs.length - i) 0
theorem cps_zero (xs : List Int) : cps 0 xs = List.replicate xs.length 0 := by simp [cps]
theorem cps_all (xs : List Int) : cps xs.length xs = xs := by simp [cps]
theorem cps_len (i : Nat) (xs : List Int) (h : i ≤ xs.length) : (cps i xs).length = xs.length := by simp [cps]; omega
theorem cps_set (i : Nat) (xs : List Int) (h : i < xs.length) : (cps i xs).set i (xs.getD i 0) = cps (i + 1) xs := by
  unfold cps
  rw [List.set_append_right _ _ (by simp; omega)]
  have e : xs.length - i = (xs.length - (i + 1)) + 1 := by omega
  have m : min i xs.length = i := by omega
  rw [e, List.replicate_succ, List.length_take, m, Nat.sub_self, List.set_cons_zero]
  simp only [List.getD, List.getElem?_eq_getElem h, Option.getD_some]
  rw [← List.take_append_getElem h, List.append_assoc]
  rfl
theorem Tryd.infoI : (Tryd.prog.info? 3).map (fun i => (i.zero, i.size, i.bytes)) = some (some (.int .i64 0), 1, 8) := by kernel_rfl
def CRel (B : Nat) (xs : List Int) (v : Value) (w : World) (i : Value) (wr : World) : Prop := ∃ k : Nat, k ≤ xs.length ∧ i = .int .i64 k ∧ OwnI wr B v (cps k xs) ∧ Below B w wr
end Go.Proofs
