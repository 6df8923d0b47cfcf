/-
  Chapter 9: the houses that fit all clues, the model (spec.pzAll).
-/
import Derived.Test.YtokfnhbdncebmabPzH
namespace Go.Proofs
open Go.RowKit
set_option linter.unusedVariables false
set_option linter.unusedSimpArgs false
def fitN (k p : Int) (cs : List Clu) (n : Int) (q : Nat) : Bool := (cs.take q).all (fun c => pfit k p c n)
theorem fitN_zero (k p : Int) (cs : List Clu) (n : Int) : fitN k p cs n 0 = true := by simp [fitN]
theorem fitN_succ (k p : Int) (cs : List Clu) (n : Int) (q : Nat) (h : q < cs.length) : fitN k p cs n (q + 1) = (fitN k p cs n q && pfit k p (cs.getD q cl0) n) := by
  unfold fitN
  rw [List.take_add_one, List.all_append]
  simp [List.getD, List.getElem?_eq_getElem h]
theorem fitN_all (k p : Int) (cs : List Clu) (n : Int) : fitN k p cs n cs.length = pfits k p cs n := by simp [fitN, pfits]
def MRelZ (k p : Int) (cs : List Clu) (w W0 : World) (s5 s6 : Value) (wr : World) : Prop := ∃ m : Nat, m ≤ (hs k p).toNat ∧ s6 = .int .i64 ((m : Int) + 1) ∧ OwnI wr (w.heap.size + 1) s5 (pallT k p cs m) ∧ Below (w.heap.size + 1) W0 wr
def FRelZ (k p : Int) (cs : List Clu) (n : Int) (W : World) (s7 s18 : Value) (wr : World) : Prop := ∃ q : Nat, q ≤ cs.length ∧ s18 = .int .i64 q ∧ s7 = .bool (fitN k p cs n q) ∧ Gr W wr
end Go.Proofs
