/-
  Chapter 9: a clue dropped, both sides.
-/
import Derived.Test.YtokfnhbdncebmabPzR
namespace Go.Proofs
open Go.RowKit
set_option linter.unusedVariables false
set_option linter.unusedSimpArgs false
/-- a puzzle that a call hands back: a street, and clues of the call's own -/
def RetZ (w : World) (K P : Int) (cs : List Clu) (b : Bool) (e : Ending) (w' : World) : Prop := ∃ v', e = .returned (.tuple #[.agg #[.int .i64 K, .int .i64 P, v'], .bool b]) ∧ OwnC w' w.heap.size v' cs ∧ Below w.heap.size w w'
def dcB (k p : Int) (cs : List Clu) (j : Int) : Bool := pgood k p cs && inn j 0 ((cs.length : Int) - 1)
def dcL (k p : Int) (cs : List Clu) (j : Int) : List Clu := if dcB k p cs j then wout cs j.toNat else []
theorem dcL_len (k p : Int) (cs : List Clu) (j : Int) : (dcL k p cs j).length ≤ 6 := by
  unfold dcL
  cases h : dcB k p cs j
  · simp
  · rw [if_pos rfl]
    unfold dcB at h
    rw [Bool.and_eq_true] at h
    have := (pgood_lt h.1).2.1
    unfold wout
    simp
    omega
def ifZ (b : Bool) (n : Int) : Int := if b then n else 0
theorem cell_set_lt {w : World} {a b : Addr} {u v : Value} (h : w.cell? a = some v) (hb : a.block < b.block) : (w.setCell b u).cell? a = some v := by
  unfold World.cell? at *
  rw [heap_setCell_other w b a.block u (fun e => by omega)]
  exact h
theorem keep3S {w : World} {a b c : Addr} {x y z : Value} {n o : Nat} {u : Value} (ha : a.block < n) (hb : b.block < n) (hc : c.block < n) (h : w.cell? a = some x ∧ w.cell? b = some y ∧ w.cell? c = some z) :
    (w.setCell ⟨n, o, none⟩ u).cell? a = some x ∧ (w.setCell ⟨n, o, none⟩ u).cell? b = some y ∧ (w.setCell ⟨n, o, none⟩ u).cell? c = some z :=
  ⟨cell_set_lt h.1 ha, cell_set_lt h.2.1 hb, cell_set_lt h.2.2 hc⟩
end Go.Proofs
