/-
  Lists of lists of ints: words (OwnLL, as in BxB, without chapter 5); one more list is appended.
-/
import Derived.Test.YtjhpebihflcanaaInts2
import Derived.Test.YtjhpebihflcanaaQTail
namespace Go.Proofs
open Go.RowKit
set_option linter.unusedVariables false
set_option linter.unusedSimpArgs false
/-- v is a row of m lists of ints, the k-th is F k, all of the call's own from block B on -/
def OwnLL (w : World) (B : Nat) (v : Value) (m : Nat) (F : Nat → List Int) : Prop :=
  ∃ vs : List Value, vs.length = m ∧ w.ownsRow B 29 1 v m vs ∧ ∀ k u, vs[k]? = some u → OwnI w B u (F k)
theorem OwnLL.nil (w : World) (B : Nat) (F : Nat → List Int) : OwnLL w B (.slice none 0 0) 0 F := ⟨[], rfl, World.ownsRow_nil w B _ 1, fun k u h => by simp at h⟩
theorem OwnLL.below {w w' : World} {B C m : Nat} {v : Value} {F : Nat → List Int} (h : OwnLL w B v m F) (hb : Below C w w') (hC : w.heap.size ≤ C) : OwnLL w' B v m F := by
  obtain ⟨vs, h1, h3, h4⟩ := h
  refine ⟨vs, h1, ⟨h3.1, ?_⟩, fun k u hk => (h4 k u hk).below hb hC⟩
  rcases h3.2 with hn | ⟨g, cap, cur, rfl, hb', hg, r⟩
  · exact .inl hn
  · exact .inr ⟨g, cap, cur, rfl, hb', by rw [hb.block g (by have := (Array.getElem?_eq_some_iff.1 hg).1; omega)]; exact hg, r⟩
theorem OwnLL.gr {w w' : World} {B m : Nat} {v : Value} {F : Nat → List Int} (h : OwnLL w B v m F) (g : Gr w w') : OwnLL w' B v m F := h.below g.below (Nat.le_refl _)
theorem OwnLL.form {w : World} {B m : Nat} {v : Value} {F : Nat → List Int} (h : OwnLL w B v m F) (hm : 0 < m) : ∃ g c, v = .slice (some ⟨g, 0, none⟩) m c ∧ ∀ k, k < m → ∃ u, w.cell? ⟨g, k, none⟩ = some u ∧ OwnI w B u (F k) := by
  obtain ⟨vs, h1, h3, h4⟩ := h
  have h30 := h3
  rcases h3.2 with ⟨_, hn⟩ | ⟨g, cap, cur, rfl, hb, hg, hc, hm', hs, ht⟩
  · omega
  · refine ⟨g, cap, rfl, fun k hk => ⟨vs[k], ?_, h4 k _ (by simp)⟩⟩
    rw [World.ownsRow.cellAt h30 k (by omega)]
    simp [show k < vs.length by omega]
theorem OwnLL.slice {w : World} {B m : Nat} {v : Value} {F : Nat → List Int} (h : OwnLL w B v m F) : ∃ A c, v = .slice A m c ∧ OwnLL w B (.slice A m c) m F := by
  have h0 := h
  obtain ⟨vs, h1, h3, h4⟩ := h
  rcases h3.2 with ⟨rfl, hn⟩ | ⟨g, cap, cur, rfl, _⟩
  · subst hn; exact ⟨none, 0, rfl, h0⟩
  · exact ⟨_, _, rfl, h0⟩
theorem rows_ne {w : World} {B B' n : Nat} {v u : Value} {xs : List Int} {cs : List Value} (h : OwnI w B u xs) (h' : w.ownsRow B' 29 1 v n cs) : u.ownBlock = none ∨ u.ownBlock ≠ v.ownBlock := by
  rcases h.2 with ⟨rfl, _⟩ | ⟨g2, cap2, cur2, rfl, _, hg2, _⟩
  · exact .inl rfl
  · refine .inr ?_
    rcases h'.2 with ⟨rfl, _⟩ | ⟨g, cap, cur, rfl, _, hg, _⟩
    · simp [Value.ownBlock]
    · intro e
      have e' : g2 = g := by simpa [Value.ownBlock] using e
      subst e'
      rw [hg] at hg2
      simp only [Option.some.injEq, Obj.cells.injEq] at hg2
      exact absurd hg2.2.1 (by decide)
theorem OwnI.rowB {w : World} {B : Nat} {v : Value} {xs : List Int} (h : OwnI w B v xs) (h0 : 0 < xs.length) : ∃ g c, v = .slice (some ⟨g, 0, none⟩) xs.length c ∧ B ≤ g ∧ g < w.heap.size ∧ OwnI w B (.slice (some ⟨g, 0, none⟩) xs.length c) xs := by
  rcases h.view with ⟨e, _⟩ | ⟨_, g, c, rfl, h1, h2, _⟩
  · rw [e] at h0; simp at h0
  · exact ⟨g, c, rfl, h1, h2, h⟩
/-- one more list is appended -/
theorem wpList_app1L {P : Program} {ops : Array Oper} {rest : List Oper} {o : Oper} {a : Act} {Q : Exit → Act → World → Prop} {W : World} (hgd : o.guard = none) (s x : Operand) (t : TypeId)
    (ho : o.op = .call { callee := .builtin .append, args := #[s, x], argTypes := #[t, t] }) (ht : P.underlying t = some (.slice 29))
    (hinfo : (P.info? 29).map (fun i => (i.zero, i.size, i.bytes)) = some (some (.slice none 0 0), 1, 24)) (B : Nat) (v : Value) (m : Nat) (F : Nat → List Int) (hs : a.eval s = v) (h : OwnLL W B v m F)
    (u : Value) (hu : OwnI W B u (F m)) (hx : a.eval x = .slice (some ⟨W.heap.size, 0, none⟩) 1 1) (hl : m ≤ 1000000) (hB : B ≤ W.heap.size)
    (k : ∀ v' w', OwnLL w' B v' (m + 1) F → Below B W w' → W.grownBy w' v.ownBlock → wpList P ops Q rest (a.put o.dst v') w') :
    wpList P ops Q (o :: rest) a (W.alloc (.cells #[u] 29)) := by
  obtain ⟨i0, hi, hz0, hz1, hz2⟩ := info_parts hinfo
  obtain ⟨vs, h1, h3, h4⟩ := h
  have hone : u.oneCell' = true := by
    rcases hu.2 with ⟨rfl, _⟩ | ⟨g, cap, cur, rfl, _⟩ <;> rfl
  refine wpList_append_own _ hgd s x t ho B 29 i0 _ 1 24 ht hi hz0 hz1 hz2 rfl (by decide) v m vs hs (World.ownsRow.alloc h3 _) ⟨W.heap.size, 0, none⟩ 1 1 [u] hx rfl
    (fun j z hz => alloc_cells (by simpa using hz)) (fun z hz => by simp at hz; subst hz; exact hone) (by unfold maxLen; omega) (by omega) (by simp; omega) fun v' w' ho' hg _ => ?_
  have g2 : W.grownBy w' v.ownBlock := by
    have g1 := World.grownBy_alloc W (.cells #[u] 29) v.ownBlock
    exact ⟨hg.os.trans g1.os, hg.tape.trans g1.tape, hg.output.trans g1.output, Nat.le_trans g1.size hg.size, fun j hj hne => (hg.block j (Nat.lt_of_lt_of_le hj g1.size) hne).trans (g1.block j hj hne)⟩
  refine k v' w' ⟨vs ++ [u], by simp [h1], ho', fun j z hz => ?_⟩ (Below.grown (Below.refl _ _) g2 hB fun j hj => (World.ownsRow.lt h3 j hj).1) g2
  rcases Nat.lt_or_ge j vs.length with c | c
  · rw [List.getElem?_append_left c] at hz
    exact (h4 j z hz).grown g2 (rows_ne (h4 j z hz) h3)
  · rw [List.getElem?_append_right c] at hz
    have ej : j = m := by
      rcases Nat.lt_or_ge (j - vs.length) 1 with q | q
      · omega
      · rw [List.getElem?_eq_none (by simp; omega)] at hz; cases hz
    subst ej
    rw [h1, Nat.sub_self] at hz
    simp only [List.getElem?_cons_zero, Option.some.injEq] at hz
    subst hz
    exact hu.grown g2 (rows_ne hu h3)
theorem Try.infoS2 : (Try.prog.info? 29).map (fun i => (i.zero, i.size, i.bytes)) = some (some (.slice none 0 0), 1, 24) := by kernel_rfl
end Go.Proofs
