/-
  Chapter 9: needless clues, houses left by clues, the best clue, both sides.
-/
import Derived.Test.YtokfnhbdncebmabPzO
import Derived.Test.YtokfnhbdncebmabPzK
import Derived.Test.YtokfnhbdncebmabCtK
namespace Go.Proofs
open Go.RowKit
set_option linter.unusedVariables false
set_option linter.unusedSimpArgs false
def ndlP (k p : Int) (cs : List Clu) (j : Nat) : Bool := decide ((pall k p (wout cs j)).length = (pall k p cs).length)
def ndlT (k p : Int) (cs : List Clu) (q : Nat) : List Int := ((List.range q).filter (ndlP k p cs)).map (fun (j : Nat) => (j : Int))
theorem ndlT_succ (k p : Int) (cs : List Clu) (q : Nat) : ndlT k p cs (q + 1) = if ndlP k p cs q = true then ndlT k p cs q ++ [(q : Int)] else ndlT k p cs q := by
  unfold ndlT
  rw [List.range_succ, List.filter_append, List.map_append]
  cases h : ndlP k p cs q <;> simp [List.filter_cons, h]
theorem ndlT_len (k p : Int) (cs : List Clu) (q : Nat) : (ndlT k p cs q).length ≤ q := by
  unfold ndlT
  rw [List.length_map]
  exact Nat.le_trans (List.length_filter_le _ _) (by simp)
def ndl (k p : Int) (cs : List Clu) : List Int := if pgood k p cs then ndlT k p cs cs.length else []
theorem ndl_len (k p : Int) (cs : List Clu) : (ndl k p cs).length ≤ 6 := by
  unfold ndl
  cases h : pgood k p cs
  · simp
  · rw [if_pos rfl]
    have := ndlT_len k p cs cs.length
    have := (pgood_lt h).2.1
    omega
theorem wout_all {cs : List Clu} (h : cs.all cok = true) (j : Nat) : (wout cs j).all cok = true := by
  unfold wout
  rw [List.all_append, Bool.and_eq_true]
  refine ⟨List.all_eq_true.2 fun x hx => List.all_eq_true.1 h x (List.mem_of_mem_take hx), List.all_eq_true.2 fun x hx => List.all_eq_true.1 h x (List.mem_of_mem_drop hx)⟩
def NRelZ (k p : Int) (cs : List Clu) (w W0 : World) (s i : Value) (wr : World) : Prop := ∃ q : Nat, q ≤ cs.length ∧ i = .int .i64 q ∧ OwnI wr (w.heap.size + 1) s (ndlT k p cs q) ∧ Below (w.heap.size + 1) W0 wr
end Go.Proofs
