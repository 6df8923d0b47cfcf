/-
  Chapter 9: the best clue, both sides.
-/
import Derived.Test.YtokfnhbdncebmabPzQ
namespace Go.Proofs
open Go.RowKit
set_option linter.unusedVariables false
set_option linter.unusedSimpArgs false
def cnt1 (k p : Int) (cs : List Clu) (q : Nat) : Int := ((pall k p ((cs.drop q).take 1)).length : Int)
def bstT (k p : Int) (cs : List Clu) : Nat → Nat × Int
  | 0 => (0, 41)
  | q + 1 => if cnt1 k p cs q < (bstT k p cs q).2 then (q, cnt1 k p cs q) else bstT k p cs q
theorem bst_lt (k p : Int) (cs : List Clu) (q : Nat) : (bstT k p cs q).1 ≤ q := by
  induction q with
  | zero => exact Nat.le_refl _
  | succ q ih => unfold bstT; split <;> (try simp only) <;> omega
def bcB (k p : Int) (cs : List Clu) : Bool := pgood k p cs && decide (0 < cs.length)
def bcV (k p : Int) (cs : List Clu) : Int := if bcB k p cs then ((bstT k p cs cs.length).1 : Int) else 0
theorem cnt1_le {k p : Int} (h : pst k p = true) (cs : List Clu) (q : Nat) : cnt1 k p cs q ≤ 40 := by
  have := pall_len h ((cs.drop q).take 1)
  unfold cnt1
  omega
def BRelS (k p : Int) (cs : List Clu) (w W0 : World) (s t i : Value) (wr : World) : Prop := ∃ q : Nat, q ≤ cs.length ∧ i = .int .i64 q ∧ ((q = 0 ∧ s = .int .i64 0 ∧ t = .int .i64 0) ∨ (0 < q ∧ s = .int .i64 (bstT k p cs q).1 ∧ t = .int .i64 (bstT k p cs q).2)) ∧ Below (w.heap.size + 1) W0 wr
def BRelI (k p : Int) (cs : List Clu) (w W0 : World) (s t i : Value) (wr : World) : Prop := ∃ q : Nat, q ≤ cs.length ∧ i = .int .i64 q ∧ (s = .int .i64 (bstT k p cs q).1 ∧ t = .int .i64 (bstT k p cs q).2) ∧ Below (w.heap.size + 1) W0 wr
end Go.Proofs
