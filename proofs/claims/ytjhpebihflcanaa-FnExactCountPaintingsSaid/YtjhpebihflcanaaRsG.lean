/-
  Chapter 7, plain mathematics: ways within their bounds; the last house, option by option.
-/
import Derived.Test.YtjhpebihflcanaaRsF
namespace Go.Proofs
open Go.RowKit Go.Maps Rl
set_option linter.unusedVariables false
set_option linter.unusedSimpArgs false
structure WyB (n : Nat) (x : Wy) : Prop where
  f : inS x.f
  l : inS x.l
  c0 : -1000 * (n : Int) ≤ x.c
  c1 : x.c ≤ 1000 * (n : Int)
  t : x.t.length ≤ n
theorem ways_bd (fits : Int → Int → Bool) : ∀ (oss : List (List Rl.Op)), (∀ os ∈ oss, ∀ o ∈ os, OpB o) → ∀ x ∈ Rl.ways fits oss, WyB oss.length x
  | [], _, x, hx => by simp [Rl.ways] at hx
  | [os], h, x, hx => by
    simp only [Rl.ways, List.mem_map] at hx
    obtain ⟨o, ho, rfl⟩ := hx
    have b := h os (by simp) o ho
    exact ⟨b.st, b.st, by have := b.c0; simp [Op.wy]; omega, by have := b.c1; simp [Op.wy]; omega, by simpa [Op.wy] using b.tl⟩
  | os :: os2 :: r, h, x, hx => by
    simp only [Rl.ways, lead, List.mem_flatMap, List.mem_map, List.mem_filter] at hx
    obtain ⟨o, ho, y, ⟨hy, _⟩, rfl⟩ := hx
    have b := h os (by simp) o ho
    have ih := ways_bd fits (os2 :: r) (fun q hq => h q (List.mem_cons_of_mem _ hq)) y hy
    have i1 := ih.c0
    have i2 := ih.c1
    have i3 := ih.t
    have i4 := b.c0
    have i5 := b.c1
    have i6 := b.tl
    refine ⟨b.st, ih.l, ?_, ?_, ?_⟩
    · show _ ≤ y.c + o.cost
      simp only [List.length_cons] at i1 ⊢; omega
    · show y.c + o.cost ≤ _
      simp only [List.length_cons] at i2 ⊢; omega
    · show (o.tells ++ y.t).length ≤ _
      simp only [List.length_cons, List.length_append] at i3 ⊢; omega
theorem flat_len {α β : Type} (f : α → List β) (m : Nat) : ∀ (l : List α), (∀ x ∈ l, (f x).length ≤ m) → (l.flatMap f).length ≤ l.length * m
  | [], _ => by simp
  | a :: l, h => by
    have h1 := h a (by simp)
    have ih := flat_len f m l (fun x hx => h x (List.mem_cons_of_mem _ hx))
    rw [List.flatMap_cons, List.length_append, List.length_cons, Nat.succ_mul]
    omega
theorem ways_len (fits : Int → Int → Bool) : ∀ (oss : List (List Rl.Op)), (∀ os ∈ oss, os.length ≤ 8) → (Rl.ways fits oss).length ≤ 8 ^ oss.length
  | [], _ => by simp [Rl.ways]
  | [os], h => by simp only [Rl.ways, List.length_map]; simpa using h os (by simp)
  | os :: os2 :: r, h => by
    have ih := ways_len fits (os2 :: r) (fun q hq => h q (List.mem_cons_of_mem _ hq))
    have h8 := h os (by simp)
    simp only [Rl.ways, lead]
    refine Nat.le_trans (flat_len _ (8 ^ (os2 :: r).length) os fun o _ => ?_) ?_
    · rw [List.length_map]
      exact Nat.le_trans (List.length_filter_le _ _) ih
    · rw [show (os :: os2 :: r).length = (os2 :: r).length + 1 from rfl, Nat.pow_succ, Nat.mul_comm]
      exact Nat.mul_le_mul_left _ h8
theorem agg_le {U : List (Int × List Int)} {l : Le} {n : Nat} (hn : n ≤ 21) (hU : U.length ≤ 8 ^ 20) (h : ∀ u ∈ U, -1000 * (n : Int) ≤ u.1 ∧ u.1 ≤ 1000 * (n : Int) ∧ u.2.length ≤ n) (e : agg U = some l) : LeB l := by
  obtain ⟨_, h2, h3, _⟩ := agg_is e
  obtain ⟨a, b, c⟩ := h _ h3
  simp only at a b c
  have hc : l.count ≤ U.length := by rw [h2]; exact List.countP_le_length
  have hp : 0 < U.countP (fun w => decide (w.1 = l.cost)) := List.countP_pos_iff.2 ⟨_, h3, by simp⟩
  have h20 : (8 : Nat) ^ 20 = 1152921504606846976 := by decide
  exact ⟨by omega, by omega, by omega, by omega, by omega⟩
section
variable {fits : Int → Int → Bool} {os : List Rl.Op} {r : List (List Rl.Op)}
theorem T_le (hr : r.length ≤ 20) (h8 : ∀ q ∈ r, q.length ≤ 8) (hb : ∀ q ∈ r, ∀ o ∈ q, OpB o) (k : Int × Int) (l : Le) (e : T (Rl.ways fits r) k = some l) : LeB l := by
  unfold T at e
  refine agg_le (n := r.length) (by omega) ?_ (fun u hu => ?_) e
  · rw [List.length_map]
    exact Nat.le_trans (List.length_filter_le _ _) (Nat.le_trans (ways_len fits r h8) (Nat.pow_le_pow_right (by decide) hr))
  · obtain ⟨x, hx, rfl⟩ := List.mem_map.1 hu
    have := ways_bd fits r hb x (List.mem_filter.1 hx).1
    exact ⟨this.c0, this.c1, this.t⟩
theorem LE_le (hr : r.length ≤ 20) (h8 : ∀ q ∈ r, q.length ≤ 8) (hb : ∀ q ∈ r, ∀ o ∈ q, OpB o) (R D : Int × Int → Bool) (l : Le) (e : Rl.LE R (Rl.ways fits r) D = some l) : LeB l := by
  unfold Rl.LE at e
  refine agg_le (n := r.length) (by omega) ?_ (fun u hu => ?_) e
  · rw [List.length_map]
    exact Nat.le_trans (List.length_filter_le _ _) (Nat.le_trans (ways_len fits r h8) (Nat.pow_le_pow_right (by decide) hr))
  · obtain ⟨x, hx, rfl⟩ := List.mem_map.1 hu
    have := ways_bd fits r hb x (List.mem_filter.1 hx).1
    exact ⟨this.c0, this.c1, this.t⟩
theorem LG_le (hr : r.length ≤ 19) (h8 : ∀ q ∈ r, q.length ≤ 8) (hb : ∀ q ∈ r, ∀ o ∈ q, OpB o) (ho8 : os.length ≤ 8) (hob : ∀ o ∈ os, OpB o) (D : Int → Int × Int → Bool) (k : Int × Int) (l : Le) (e : LG fits os (Rl.ways fits r) D k = some l) : LeB l := by
  unfold LG at e
  replace e := (agg_flatMap (fun o : Rl.Op => ((Rl.ways fits r).filter fun w => fits o.st w.f && D o.st (w.f, w.l) && (o.st == k.1) && (w.l == k.2)).map fun w => (w.c + o.cost, o.tells ++ w.t)) os).trans e
  refine agg_le (n := r.length + 1) (by omega) ?_ (fun u hu => ?_) e
  · refine Nat.le_trans (flat_len _ (8 ^ 19) os fun o _ => ?_) ?_
    · rw [List.length_map]
      exact Nat.le_trans (List.length_filter_le _ _) (Nat.le_trans (ways_len fits r h8) (Nat.pow_le_pow_right (by decide) hr))
    · exact Nat.le_trans (Nat.mul_le_mul_right _ ho8) (by decide)
  · obtain ⟨o, ho, hu⟩ := List.mem_flatMap.1 hu
    obtain ⟨x, hx, rfl⟩ := List.mem_map.1 hu
    have b := ways_bd fits r hb x (List.mem_filter.1 hx).1
    have i1 := b.c0
    have i2 := b.c1
    have i3 := b.t
    have i4 := (hob o ho).c0
    have i5 := (hob o ho).c1
    have i6 := (hob o ho).tl
    simp only [List.length_append]
    exact ⟨by omega, by omega, by omega⟩
theorem beh_le (hr : r.length ≤ 19) (h8 : ∀ q ∈ r, q.length ≤ 8) (hb : ∀ q ∈ r, ∀ o ∈ q, OpB o) (hob : ∀ o ∈ os, OpB o) (k : Int × Int) (l : Le) (o : Rl.Op) (e : T (Rl.ways fits r) k = some l) (ho : o ∈ os) : LeB (behE o.cost o.tells l) := by
  have e2 := agg_is (by unfold T at e; exact e)
  obtain ⟨_, h2, h3, _⟩ := e2
  obtain ⟨x, hx, hx2⟩ := List.mem_map.1 h3
  have b := ways_bd fits r hb x (List.mem_filter.1 hx).1
  simp only [Wy.v, Prod.mk.injEq] at hx2
  have t := T_le (by omega) h8 hb k l e
  have i1 := b.c0
  have i2 := b.c1
  have i3 := b.t
  rw [hx2.1] at i1 i2
  rw [hx2.2] at i3
  have i4 := (hob o ho).c0
  have i5 := (hob o ho).c1
  have i6 := (hob o ho).tl
  exact ⟨by simp only [behE]; omega, by simp only [behE]; omega, t.n0, t.n1, by simp only [behE, List.length_append]; omega⟩
end
/-- the last house, one option more -/
theorem T_snoc (os : List Rl.Op) (o : Rl.Op) (hd : ∀ b ∈ os, b.st ≠ o.st) (k : Int × Int) : T ((os ++ [o]).map Op.wy) k = if k = (o.st, o.st) then some ⟨o.cost, 1, o.tells⟩ else T (os.map Op.wy) k := by
  unfold T
  rw [List.map_append, List.filter_append, List.map_append, agg_app]
  by_cases e : k = (o.st, o.st)
  · subst e
    rw [if_pos rfl]
    have h0 : agg (((os.map Op.wy).filter fun w => w.f == o.st && w.l == o.st).map Wy.v) = none := by
      rw [agg_none, List.map_eq_nil_iff, List.filter_eq_nil_iff]
      intro w hw
      obtain ⟨b, hb, rfl⟩ := List.mem_map.1 hw
      simp [Op.wy, hd b hb]
    rw [h0]
    simp [Op.wy, Wy.v, agg, orL]
  · rw [if_neg e]
    have : (([o].map Op.wy).filter fun w => w.f == k.1 && w.l == k.2) = [] := by
      rw [List.filter_eq_nil_iff]
      intro w hw
      simp only [List.map_cons, List.map_nil, List.mem_singleton] at hw
      subst hw
      simp only [Op.wy, Bool.and_eq_true, beq_iff_eq, not_and]
      intro h1 h2
      exact e (by rw [h1]; rw [h1] at h2; exact Prod.ext rfl h2.symm)
    rw [this]
    simp [agg, orL_none]
theorem LE_congr (R : Int × Int → Bool) (W : List Wy) (D D' : Int × Int → Bool) (h : ∀ x ∈ W, D (x.f, x.l) = D' (x.f, x.l)) : Rl.LE R W D = Rl.LE R W D' := by
  unfold Rl.LE
  exact agg_congr _ fun w hw => by rw [h w hw]
theorem LE_none (R : Int × Int → Bool) (W : List Wy) : Rl.LE R W (fun _ => false) = none := by
  unfold Rl.LE
  rw [agg_none, List.map_eq_nil_iff, List.filter_eq_nil_iff]
  intro w _
  simp
/-- every block of cells but one is as it was -/
structure Kq (q : Nat) (w w' : World) : Prop where
  size : w.heap.size ≤ w'.heap.size
  blk : ∀ (k : Nat) (c : Array Value) (t : TypeId) (fz : Nat × Nat), k ≠ q → w.heap[k]? = some (Obj.cells c t fz) → w'.heap[k]? = some (Obj.cells c t fz)
theorem Kp.kq {q : Nat} {w w' : World} (h : Kp w w') : Kq q w w' := ⟨h.size, fun k c t f _ e => h.blk k c t f e⟩
theorem Kq.trans {q : Nat} {a b c : World} (h : Kq q a b) (k : Kq q b c) : Kq q a c := ⟨Nat.le_trans h.size k.size, fun i x t f hi e => k.blk i x t f hi (h.blk i x t f hi e)⟩
theorem kq_box3 {w : World} {q : Nat} (u1 u2 u3 : Value) : Kq q w (((w.setCell ⟨q, 0, none⟩ u1).setCell ⟨q, 1, none⟩ u2).setCell ⟨q, 2, none⟩ u3) :=
  ⟨by simp, fun k c t f hk e => by
    have g := grownBy_set (grownBy_set (grownBy_set (World.grownBy.refl w (some q)) (o := 0) (u := u1)) (o := 1) (u := u2)) (o := 2) (u := u3)
    rw [g.block k (Array.getElem?_eq_some_iff.1 e).1 (fun h => hk (Option.some.inj h))]; exact e⟩
theorem Kq.own {q : Nat} {w w' : World} (h : Kq q w w') {B : Nat} {v : Value} {xs : List Int} (ho : OwnI w B v xs) {c : Array Value} {T : TypeId} {fz : Nat × Nat} (hq : w.heap[q]? = some (Obj.cells c T fz)) (hT : T ≠ 3) : OwnI w' B v xs := by
  refine ⟨ho.1, ?_⟩
  rcases ho.2 with hn | ⟨g, cap, cur, rfl, hb', hg, r⟩
  · exact .inl hn
  · refine .inr ⟨g, cap, cur, rfl, hb', h.blk _ _ _ _ (fun e => ?_) hg, r⟩
    subst e
    rw [hg] at hq
    simp only [Option.some.injEq, Obj.cells.injEq] at hq
    exact hT hq.2.1.symm
theorem LeV.kq {q : Nat} {w w' : World} {B : Nat} {v : Value} {o : Option Le} (h : LeV w B v o) (k : Kq q w w') {c : Array Value} {T : TypeId} {fz : Nat × Nat} (hq : w.heap[q]? = some (Obj.cells c T fz)) (hT : T ≠ 3) : LeV w' B v o := by
  cases o with
  | none => exact h
  | some l => obtain ⟨s, rfl, ho⟩ := h; exact ⟨s, rfl, k.own ho hq hT⟩
theorem MapL.kq {q : Nat} {w w' : World} {B : Nat} {D : DataW Unit} {τ : Int × Int → Option Le} (h : MapL w B D τ) (k : Kq q w w') {c : Array Value} {T : TypeId} {fz : Nat × Nat} (hq : w.heap[q]? = some (Obj.cells c T fz)) (hT : T ≠ 3) : MapL w' B D τ :=
  ⟨h.tidy, h.only, h.has, fun p l hp e => by obtain ⟨v, d, a, b, c'⟩ := h.val p l hp e; exact ⟨v, d, a, b, c'.kq k hq hT⟩⟩
theorem box3_blk {w : World} {q : Nat} {x y z u1 u2 u3 : Value} {t : TypeId} (h : w.heap[q]? = some (Obj.cells #[x, y, z] t (0, 0))) : (((w.setCell ⟨q, 0, none⟩ u1).setCell ⟨q, 1, none⟩ u2).setCell ⟨q, 2, none⟩ u3).heap[q]? = some (Obj.cells #[u1, u2, u3] t (0, 0)) := by
  unfold World.setCell
  simp [Array.getElem?_modify, h]
theorem blk_cell {w : World} {q : Nat} {c : Array Value} {t : TypeId} {fz : Nat × Nat} (h : w.heap[q]? = some (Obj.cells c t fz)) (i : Nat) : w.cell? ⟨q, i, none⟩ = c[i]? := by
  simp [World.cell?, h]
theorem blk_frz {w : World} {q : Nat} {c : Array Value} {t : TypeId} (h : w.heap[q]? = some (Obj.cells c t (0, 0))) (i : Nat) : w.frozen? ⟨q, i, none⟩ = false := by
  simp [World.frozen?, h]
end Go.Proofs
