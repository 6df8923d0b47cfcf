/-
  Chapter 7: the loots with the greatest sum (bestLoots).
-/
import Derived.Test.YtjhpebihflcanaaRsH
import Derived.Test.YtjhpebihflcanaaRlL
import Derived.Test.YtjhpebihflcanaaRwA
namespace Go.Proofs
open Go.RowKit Go.Maps Rl
set_option linter.unusedVariables false
set_option linter.unusedSimpArgs false
/-! ### rows of options that grow -/
/-- a row of options of one's own -/
def OptH (w : World) (B : Nat) (u : Value) (os : List Rl.Op) : Prop := ∃ g c cur, u = .slice (some ⟨g, 0, none⟩) os.length c ∧ w.heap[g]? = some (Obj.cells cur 63 (0, 0)) ∧ ∀ i o, os[i]? = some o → ∃ t, cur[i * 3]? = some (.int .i64 o.st) ∧ cur[i * 3 + 1]? = some (.int .i64 o.cost) ∧ cur[i * 3 + 2]? = some t ∧ OwnI w B t o.tells
theorem OptH.opt {w : World} {B : Nat} {u : Value} {os : List Rl.Op} (h : OptH w B u os) : OptR w B u os := by
  obtain ⟨g, c, cur, e, hg, h⟩ := h
  refine ⟨_, c, e, fun i o hi => ?_⟩
  obtain ⟨t, a1, a2, a3, a4⟩ := h i o hi
  exact ⟨g, t, rfl, by rw [blk_cell hg]; exact a1, by rw [blk_cell hg]; exact a2, by rw [blk_cell hg]; exact a3, a4⟩
theorem OptH.kq {q : Nat} {w w' : World} {B : Nat} {u : Value} {os : List Rl.Op} (h : OptH w B u os) (k : Kq q w w') (hq : ∀ c t fz, w.heap[q]? = some (Obj.cells c t fz) → t ≠ 3 ∧ t ≠ 63) : OptH w' B u os := by
  obtain ⟨g, c, cur, e, hg, h⟩ := h
  refine ⟨g, c, cur, e, k.blk _ _ _ _ (fun e => by subst e; exact (hq _ _ _ hg).2 rfl) hg, fun i o hi => ?_⟩
  obtain ⟨t, a1, a2, a3, a4⟩ := h i o hi
  refine ⟨t, a1, a2, a3, ?_⟩
  refine ⟨a4.1, ?_⟩
  rcases a4.2 with hn | ⟨g', cap, cur', rfl, hb', hg', r⟩
  · exact .inl hn
  · exact .inr ⟨g', cap, cur', rfl, hb', k.blk _ _ _ _ (fun e => by subst e; exact (hq _ _ _ hg').1 rfl) hg', r⟩
theorem OptH.kp {w w' : World} {B : Nat} {u : Value} {os : List Rl.Op} (h : OptH w B u os) (k : Kp w w') : OptH w' B u os := by
  obtain ⟨g, c, cur, e, hg, h⟩ := h
  exact ⟨g, c, cur, e, k.blk _ _ _ _ hg, fun i o hi => by obtain ⟨t, a1, a2, a3, a4⟩ := h i o hi; exact ⟨t, a1, a2, a3, k.own a4⟩⟩
theorem OptH.one {w : World} {B : Nat} {u : Value} {os : List Rl.Op} (h : OptH w B u os) : u.oneCell' = true := by obtain ⟨g, c, cur, rfl, _⟩ := h; rfl
/-- the options of some houses, a row of one's own -/
def OwnRR (w : World) (B : Nat) (v : Value) (oss : List (List Rl.Op)) : Prop := ∃ vs : List Value, w.ownsRow B 61 1 v oss.length vs ∧ ∀ (k : Nat) (u : Value), vs[k]? = some u → ∃ os, oss[k]? = some os ∧ OptH w B u os
theorem OwnRR.nil (w : World) (B : Nat) : OwnRR w B (.slice none 0 0) [] := ⟨[], World.ownsRow_nil w B _ 1, fun k u h => by simp at h⟩
theorem OwnRR.form {w : World} {B : Nat} {v : Value} {oss : List (List Rl.Op)} (h : OwnRR w B v oss) : ∃ A c, v = .slice A oss.length c := by
  obtain ⟨vs, h1, _⟩ := h
  rcases h1.2 with ⟨rfl, hn⟩ | ⟨g, cap, cur, rfl, _⟩
  · rw [hn]; exact ⟨none, 0, rfl⟩
  · exact ⟨_, _, rfl⟩
theorem OwnRR.kp {w w' : World} {B : Nat} {v : Value} {oss : List (List Rl.Op)} (h : OwnRR w B v oss) (k : Kp w w') : OwnRR w' B v oss := by
  obtain ⟨vs, h1, h2⟩ := h
  refine ⟨vs, ⟨h1.1, ?_⟩, fun i u hi => by obtain ⟨os, a, b⟩ := h2 i u hi; exact ⟨os, a, b.kp k⟩⟩
  rcases h1.2 with hn | ⟨g, cap, cur, rfl, hb', hg, r⟩
  · exact .inl hn
  · exact .inr ⟨g, cap, cur, rfl, hb', k.blk _ _ _ _ hg, r⟩
theorem OwnRR.rows {w : World} {B : Nat} {v : Value} {oss : List (List Rl.Op)} (h : OwnRR w B v oss) (h0 : 0 < oss.length) : RowsR w B v oss := by
  obtain ⟨vs, h1, h2⟩ := h
  have h10 := h1
  rcases h1.2 with ⟨_, hn⟩ | ⟨g, cap, cur, rfl, hb', hg, r⟩
  · omega
  · refine ⟨g, cap, rfl, fun i os hi => ?_⟩
    have hil : i < oss.length := (List.getElem?_eq_some_iff.1 hi).1
    have hlen : vs.length = oss.length := by have := h10.1; simpa using this
    refine ⟨vs[i], ?_, ?_⟩
    · rw [World.ownsRow.cellAt h10 i (by omega)]
      simp [show i < vs.length by omega]
    · obtain ⟨os', a, b⟩ := h2 i vs[i] (List.getElem?_eq_getElem (by omega))
      rw [hi] at a
      cases a
      exact b.opt
theorem Try.infoRR : (Try.prog.info? 61).map (fun i => (i.zero, i.size, i.bytes)) = some (some (.slice none 0 0), 1, 24) := by kernel_rfl
/-- one house more -/
theorem wpList_app1RR {P : Program} {ops : Array Oper} {rest : List Oper} {o : Oper} {a : Act} {Q : Exit → Act → World → Prop} {W : World} (hgd : o.guard = none) (s x : Operand) (t : TypeId)
    (ho : o.op = .call { callee := .builtin .append, args := #[s, x], argTypes := #[t, t] }) (ht : P.underlying t = some (.slice 61))
    (hinfo : (P.info? 61).map (fun i => (i.zero, i.size, i.bytes)) = some (some (.slice none 0 0), 1, 24)) (B : Nat) (v : Value) (oss : List (List Rl.Op)) (hs : a.eval s = v) (h : OwnRR W B v oss)
    (u : Value) (os : List Rl.Op) (hu : OptH W B u os) (hx : a.eval x = .slice (some ⟨W.heap.size, 0, none⟩) 1 1) (hl : oss.length ≤ 1000000) (hB : B ≤ W.heap.size)
    (k : ∀ v' w', OwnRR w' B v' (oss ++ [os]) → Below B W w' → wpList P ops Q rest (a.put o.dst v') w') :
    wpList P ops Q (o :: rest) a (W.alloc (.cells #[u] 61)) := by
  obtain ⟨i0, hi, hz0, hz1, hz2⟩ := info_parts hinfo
  obtain ⟨vs, h3, h4⟩ := h
  have hlen : vs.length = oss.length := by have := h3.1; simpa using this
  refine wpList_append_own _ hgd s x t ho B 61 i0 _ 1 24 ht hi hz0 hz1 hz2 rfl (by decide) v oss.length vs hs (World.ownsRow.alloc h3 _) ⟨W.heap.size, 0, none⟩ 1 1 [u] hx rfl
    (fun j z hz => alloc_cells (by simpa using hz)) (fun z hz => by simp at hz; subst hz; exact hu.one) (by unfold maxLen; omega) (by omega) (by simp; omega) fun v' w' ho' hg _ => ?_
  have g2 : W.grownBy w' v.ownBlock := by
    have g1 := World.grownBy_alloc W (.cells #[u] 61) v.ownBlock
    exact ⟨hg.os.trans g1.os, hg.tape.trans g1.tape, hg.output.trans g1.output, Nat.le_trans g1.size hg.size, fun j hj hne => (hg.block j (Nat.lt_of_lt_of_le hj g1.size) hne).trans (g1.block j hj hne)⟩
  have keep : ∀ (u' : Value) (os' : List Rl.Op), OptH W B u' os' → OptH w' B u' os' := fun u' os' h' => by
    rcases h3.2 with ⟨rfl, _⟩ | ⟨g, cap, cur, rfl, _, hg3, _⟩
    · exact h'.kp (none_kp g2)
    · refine h'.kq (q := g) ⟨g2.size, fun i c t fz hi e => ?_⟩ (fun c t fz e => ?_)
      · rw [g2.block i (Array.getElem?_eq_some_iff.1 e).1 (fun q => hi (Option.some.inj q))]; exact e
      · rw [hg3] at e
        simp only [Option.some.injEq, Obj.cells.injEq] at e
        rw [← e.2.1]
        exact ⟨by decide, by decide⟩
  refine k v' w' ⟨vs ++ [u], by simpa using ho', fun j z hz => ?_⟩ (Below.grown (Below.refl _ _) g2 hB fun j hj => (World.ownsRow.lt h3 j hj).1)
  rcases Nat.lt_or_ge j vs.length with c | c
  · rw [List.getElem?_append_left c] at hz
    obtain ⟨os', a1, a2⟩ := h4 j z hz
    exact ⟨os', by rw [List.getElem?_append_left (by omega)]; exact a1, keep _ _ a2⟩
  · rw [List.getElem?_append_right c] at hz
    have ej : j = vs.length := by
      rcases Nat.lt_or_ge (j - vs.length) 1 with q | q
      · omega
      · rw [List.getElem?_eq_none (by simp; omega)] at hz; cases hz
    subst ej
    rw [Nat.sub_self] at hz
    simp only [List.getElem?_cons_zero, Option.some.injEq] at hz
    subst hz
    exact ⟨os, by rw [hlen, List.getElem?_append_right (Nat.le_refl _)]; simp, keep _ _ hu⟩
end Go.Proofs
