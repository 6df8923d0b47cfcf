/-
  Lists of ints: words for cells of ints that can be read; append of some of them, as an operation of a plain region and of one that draws its order. No program's text here.
-/
import Derived.Test.YtjhpebihflcanaaInts2
namespace Go.Proofs
open Go.RowKit
set_option linter.unusedVariables false
set_option linter.unusedSimpArgs false
def ics (xs : List Int) : List Value := xs.map (Value.int .i64)
theorem ics_len (xs : List Int) : (ics xs).length = xs.length := by simp [ics]
theorem ics_one (xs : List Int) : ∀ u ∈ ics xs, u.oneCell' = true := by
  intro u hu
  obtain ⟨x, _, rfl⟩ := List.mem_map.1 hu
  rfl
theorem ics_get (xs : List Int) (j : Nat) (h : j < xs.length) : (ics xs)[j]? = some (.int .i64 (xs.getD j 0)) := by simp [ics, List.getD, h]
section
variable {P : Program} {o : Oper} {a : Act} {w : World} {Q : Exit → Act → World → Prop}
theorem wp_appI {K : Act → World → Prop} (s x : Operand) (t : TypeId)
    (ho : o.op = .call { callee := .builtin .append, args := #[s, x], argTypes := #[t, t] }) (ht : P.underlying t = some (.slice 3))
    (hinfo : (P.info? 3).map (fun i => (i.zero, i.size, i.bytes)) = some (some (.int .i64 0), 1, 8)) (B : Nat) (v : Value) (ps : List Int) (hs : a.eval s = v) (h : OwnI w B v ps)
    (ad : Addr) (m c : Nat) (qs : List Int) (hx : a.eval x = .slice (some ad) m c) (hm : qs.length = m) (hq : ∀ j u, (ics qs)[j]? = some u → w.cell? (ad.add j) = some u) (hl : ps.length ≤ 1000000000) (hl2 : qs.length ≤ 1000000000) (hB : B ≤ w.heap.size)
    (k : ∀ v' w', OwnI w' B v' (ps ++ qs) → Below B w w' → w.grownBy w' v.ownBlock → K (a.put o.dst v') w') : Oper.wp P o a w K Q := by
  obtain ⟨i0, hi, hz0, hz1, hz2⟩ := info_parts hinfo
  refine wp_append_own w s x t ho B 3 i0 _ 1 8 ht hi hz0 hz1 hz2 rfl (by decide) v ps.length (ics ps) hs h ad m c (ics qs) hx (by rw [ics_len, hm]; omega) hq (ics_one qs) (by unfold maxLen; omega) (by omega) hB fun v' w' ho' hg _ => ?_
  refine k v' w' ?_ (Below.grown (Below.refl _ _) hg hB fun j hj => (World.ownsRow.lt h j hj).1) hg
  unfold OwnI
  rw [List.map_append, List.length_append, hm]
  exact ho'
theorem step_appI {ops : Array Oper} {K : Act → World → Prop} {E : Prop} (hgd : o.guard = none) (s x : Operand) (t : TypeId)
    (ho : o.op = .call { callee := .builtin .append, args := #[s, x], argTypes := #[t, t] }) (ht : P.underlying t = some (.slice 3))
    (hinfo : (P.info? 3).map (fun i => (i.zero, i.size, i.bytes)) = some (some (.int .i64 0), 1, 8)) (B : Nat) (v : Value) (ps : List Int) (hs : a.eval s = v) (h : OwnI w B v ps)
    (ad : Addr) (m c : Nat) (qs : List Int) (hx : a.eval x = .slice (some ad) m c) (hm : qs.length = m) (hq : ∀ j u, (ics qs)[j]? = some u → w.cell? (ad.add j) = some u) (hl : ps.length ≤ 1000000000) (hl2 : qs.length ≤ 1000000000) (hB : B ≤ w.heap.size)
    (k : ∀ v' w', OwnI w' B v' (ps ++ qs) → Below B w w' → w.grownBy w' v.ownBlock → K (a.put o.dst v') w') :
    if Region.wanted o (yielded ops a.tmps) = true then Oper.wp P o a w K Q else E := by
  rw [if_pos (show Region.wanted o (yielded ops a.tmps) = true by simp [Region.wanted, hgd])]
  exact wp_appI s x t ho ht hinfo B v ps hs h ad m c qs hx hm hq hl hl2 hB k
theorem wpList_appI {ops : Array Oper} {rest : List Oper} (hgd : o.guard = none) (s x : Operand) (t : TypeId)
    (ho : o.op = .call { callee := .builtin .append, args := #[s, x], argTypes := #[t, t] }) (ht : P.underlying t = some (.slice 3))
    (hinfo : (P.info? 3).map (fun i => (i.zero, i.size, i.bytes)) = some (some (.int .i64 0), 1, 8)) (B : Nat) (v : Value) (ps : List Int) (hs : a.eval s = v) (h : OwnI w B v ps)
    (ad : Addr) (m c : Nat) (qs : List Int) (hx : a.eval x = .slice (some ad) m c) (hm : qs.length = m) (hq : ∀ j u, (ics qs)[j]? = some u → w.cell? (ad.add j) = some u) (hl : ps.length ≤ 1000000000) (hl2 : qs.length ≤ 1000000000) (hB : B ≤ w.heap.size)
    (k : ∀ v' w', OwnI w' B v' (ps ++ qs) → Below B w w' → w.grownBy w' v.ownBlock → wpList P ops Q rest (a.put o.dst v') w') : wpList P ops Q (o :: rest) a w :=
  wpList_plain hgd fun _ hK => wp_appI s x t ho ht hinfo B v ps hs h ad m c qs hx hm hq hl hl2 hB fun v' w' h1 h2 h3 => hK _ _ (k v' w' h1 h2 h3)
end
theorem own_emptyI {w : World} {B b : Nat} (h : w.heap[b]? = some (.cells #[] 3 (0, 0))) (hB : B ≤ b) : OwnI w B (.slice (some ⟨b, 0, none⟩) 0 0) [] :=
  ⟨rfl, .inr ⟨b, 0, #[], rfl, hB, h, Nat.le_refl _, by decide, rfl, rfl⟩⟩
theorem OwnI.reads {w : World} {B g n c : Nat} {ps : List Int} (h : OwnI w B (.slice (some ⟨g, 0, none⟩) n c) ps) (hn : ps.length = n) (k m : Nat) (hk : k + m ≤ n) :
    ∀ j u, (ics ((ps.drop k).take m))[j]? = some u → w.cell? ((⟨g, k, none⟩ : Addr).add j) = some u := by
  intro j u hu
  subst hn
  have hj : j < m := by
    have := (List.getElem?_eq_some_iff.1 hu).1
    rw [ics_len] at this
    simp at this; omega
  rw [show (⟨g, k, none⟩ : Addr).add j = ⟨g, k + j, none⟩ from Addr.add_lit _ _ _]
  rw [World.ownsRow.cellAt h (k + j) (by omega)]
  rw [← hu]
  simp [ics, List.getElem?_take, hj]
theorem allocI {w : World} {b : Nat} {xs : List Int} {T : TypeId} (hb : w.heap.size = b) : ∀ j u, (ics xs)[j]? = some u → (w.alloc (.cells (ics xs).toArray T)).cell? ((⟨b, 0, none⟩ : Addr).add j) = some u := by
  intro j u hu
  subst hb
  rw [show (⟨w.heap.size, 0, none⟩ : Addr).add j = ⟨w.heap.size, j, none⟩ by cases j <;> simp [Addr.add]]
  rw [cell_of_row _ w.heap.size j (ics xs).toArray T (0, 0) (heap_alloc_new w _)]
  simpa using hu
end Go.Proofs
