/-
  Chapter 9: houses left by clues, both sides.
-/
import Derived.Test.YtokfnhbdncebmabPzP
import Derived.Test.YtokfnhbdncebmabInts3
namespace Go.Proofs
open Go.RowKit
set_option linter.unusedVariables false
set_option linter.unusedSimpArgs false
def lefT (k p : Int) (cs : List Clu) (q : Nat) : List Int := (List.range q).map (fun j => ((pall k p (cs.take j)).length : Int))
theorem lefT_succ (k p : Int) (cs : List Clu) (q : Nat) : lefT k p cs (q + 1) = lefT k p cs q ++ [((pall k p (cs.take q)).length : Int)] := by
  unfold lefT
  rw [List.range_succ, List.map_append]
  rfl
theorem lefT_len (k p : Int) (cs : List Clu) (q : Nat) : (lefT k p cs q).length = q := by simp [lefT]
def lef (k p : Int) (cs : List Clu) : List Int := if pgood k p cs then lefT k p cs (cs.length + 1) else []
theorem lef_len (k p : Int) (cs : List Clu) : (lef k p cs).length ≤ 7 := by
  unfold lef
  cases h : pgood k p cs
  · simp
  · rw [if_pos rfl, lefT_len]
    have := (pgood_lt h).2.1
    omega
theorem keep3B {C : Nat} {w w' : World} {a b c : Addr} {x y z : Value} (g : Below C w w') (ha : a.block < C) (hb : b.block < C) (hc : c.block < C) (h : w.cell? a = some x ∧ w.cell? b = some y ∧ w.cell? c = some z) : w'.cell? a = some x ∧ w'.cell? b = some y ∧ w'.cell? c = some z :=
  ⟨(g.cell ha).trans h.1, (g.cell hb).trans h.2.1, (g.cell hc).trans h.2.2⟩
theorem CluRow.sub {w : World} {g o : Nat} {cs : List Clu} (hc : ∀ j, j < cs.length → w.cell? ⟨g, o + j * 3, none⟩ = some (.int .i64 (cs.getD j cl0).1) ∧ w.cell? ⟨g, o + j * 3 + 1, none⟩ = some (.int .i64 (cs.getD j cl0).2.1) ∧ w.cell? ⟨g, o + j * 3 + 2, none⟩ = some (.int .i64 (cs.getD j cl0).2.2))
    (m l c : Nat) (hm : m + l ≤ cs.length) (hl : l ≤ c) (hcm : c ≤ maxLen) : CluRow w (.slice (some ⟨g, o + m * 3, none⟩) l c) ((cs.drop m).take l) := by
  have hlen : ((cs.drop m).take l).length = l := by simp; omega
  refine ⟨_, c, by rw [hlen], by rw [hlen]; exact hl, hcm, .inr ⟨g, o + m * 3, rfl, fun j hj => ?_⟩⟩
  rw [hlen] at hj
  have e : ((cs.drop m).take l).getD j cl0 = cs.getD (m + j) cl0 := by simp [List.getD, List.getElem?_take, hj, List.getElem?_drop]
  rw [e]
  obtain ⟨c0, c1, c2⟩ := hc (m + j) (by omega)
  rw [show o + m * 3 + j * 3 = o + (m + j) * 3 by omega]
  exact ⟨c0, c1, c2⟩
theorem take_all {cs : List Clu} (h : cs.all cok = true) (q : Nat) : (cs.take q).all cok = true := List.all_eq_true.2 fun x hx => List.all_eq_true.1 h x (List.mem_of_mem_take hx)
theorem drop_all {cs : List Clu} (h : cs.all cok = true) (q l : Nat) : ((cs.drop q).take l).all cok = true := List.all_eq_true.2 fun x hx => List.all_eq_true.1 h x (List.mem_of_mem_drop (List.mem_of_mem_take hx))
theorem ics1 {w : World} {b : Nat} {x : Int} (h : w.cell? ⟨b, 0, none⟩ = some (.int .i64 x)) : ∀ j u, (ics [x])[j]? = some u → w.cell? ((⟨b, 0, none⟩ : Addr).add j) = some u := by
  intro j u hu
  cases j with
  | zero => simp [ics] at hu; subst hu; simpa [Addr.add] using h
  | succ j => simp [ics] at hu
def VRelZ (k p : Int) (cs : List Clu) (w W0 : World) (s i : Value) (wr : World) : Prop := ∃ q : Nat, q ≤ cs.length + 1 ∧ i = .int .i64 q ∧ OwnI wr (w.heap.size + 1) s (lefT k p cs q) ∧ Below (w.heap.size + 1) W0 wr
end Go.Proofs
