/-
  Contracts of chapter 1: the numbers on a side.
-/
import Derived.Test.YtcmlojidcpomjaaNuB
import Derived.Test.YtcmlojidcpomjaaInts
namespace Go.Proofs
open Go.RowKit
set_option linter.unusedVariables false
set_option linter.unusedSimpArgs false
/-- A call that hands back a list of ints and a bool. -/
def RetI (w : World) (xs : List Int) (b : Bool) (e : Ending) (w' : World) : Prop := ∃ v, e = .returned (.tuple #[v, .bool b]) ∧ OwnI w' w.heap.size v xs ∧ Below w.heap.size w w'
theorem Try.infoInt : (Try.prog.info? 3).map (fun i => (i.zero, i.size, i.bytes)) = some (some (.int .i64 0), 1, 8) := by kernel_rfl
theorem OwnI.nil (w : World) (B : Nat) : OwnI w B (.slice none 0 0) [] := World.ownsRow_nil w B _ 1
def nlist (k p sd : Int) (i : Nat) : List Int := if hsd k sd then (List.range i).map (fun (j : Nat) => num k p sd j) else []
theorem nlist_succ (k p sd : Int) (i : Nat) (h : hsd k sd = true) : nlist k p sd (i + 1) = nlist k p sd i ++ [num k p sd i] := by simp [nlist, h, List.range_succ]
theorem nlist_no (k p sd : Int) (i : Nat) (h : hsd k sd = false) : nlist k p sd i = [] := by simp [nlist, h]
theorem nlist_len (k p sd : Int) (i : Nat) : (nlist k p sd i).length ≤ i := by unfold nlist; split <;> simp
def NRel (k p sd : Int) (w : World) (s n : Value) (wr : World) : Prop := ∃ i : Nat, (i : Int) ≤ p ∧ n = .int .i64 i ∧ OwnI wr w.heap.size s (nlist k p sd i) ∧ Below w.heap.size w wr
end Go.Proofs
