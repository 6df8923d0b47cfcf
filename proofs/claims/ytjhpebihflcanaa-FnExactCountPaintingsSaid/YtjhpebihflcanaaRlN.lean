/-
  Chapter 7, plain mathematics: the lists of some houses by the states of their ends, led on by a house more in any order of the keys (leastOf, leadOn). No seat.
-/
import Derived.Test.YtjhpebihflcanaaRlM
namespace Go.Proofs.Rl
set_option linter.unusedVariables false
set_option linter.unusedSimpArgs false
theorem pbeq (a b c d : Int) : (((a, b) : Int × Int) == (c, d)) = (a == c && b == d) := rfl
structure Op where
  st : Int
  cost : Int
  tells : List Int
/-- a way: the states of its ends, its cost, its list -/
structure Wy where
  f : Int
  l : Int
  c : Int
  t : List Int
def Op.wy (o : Op) : Wy := ⟨o.st, o.st, o.cost, o.tells⟩
def Op.on (o : Op) (w : Wy) : Wy := ⟨o.st, w.l, w.c + o.cost, o.tells ++ w.t⟩
def Wy.v (w : Wy) : Int × List Int := (w.c, w.t)
def lead (fits : Int → Int → Bool) (os : List Op) (W : List Wy) : List Wy := os.flatMap fun o => (W.filter fun w => fits o.st w.f).map o.on
def ways (fits : Int → Int → Bool) : List (List Op) → List Wy
  | [] => []
  | [os] => os.map Op.wy
  | os :: r => lead fits os (ways fits r)
/-- those with ends k -/
def T (W : List Wy) (k : Int × Int) : Option Le := agg ((W.filter fun w => w.f == k.1 && w.l == k.2).map Wy.v)
theorem agg_or {α : Type} (v : α → Int × List Int) (p q : α → Bool) : ∀ (W : List α), (∀ w ∈ W, ¬ (p w = true ∧ q w = true)) → agg ((W.filter fun w => p w || q w).map v) = orL (agg ((W.filter p).map v)) (agg ((W.filter q).map v))
  | [], _ => rfl
  | w :: W, h => by
    have ih := agg_or v p q W (fun u hu => h u (List.mem_cons_of_mem _ hu))
    have h0 := h w (List.mem_cons_self ..)
    cases hp : p w <;> cases hq : q w
    · simp only [List.filter_cons, hp, hq, Bool.or_self, Bool.false_eq_true, if_false]; exact ih
    · simp only [List.filter_cons, hp, hq, Bool.false_or, Bool.false_eq_true, if_false, if_true, List.map_cons]
      rcases hv : v w with ⟨c, t⟩
      simp only [agg]
      rw [ih, ← orL_assoc, ← orL_assoc, orL_comm (some _)]
    · simp only [List.filter_cons, hp, hq, Bool.or_false, Bool.false_eq_true, if_false, if_true, List.map_cons]
      rcases hv : v w with ⟨c, t⟩
      simp only [agg]
      rw [ih, ← orL_assoc]
    · exact absurd ⟨hp, hq⟩ h0
theorem agg_congr {α : Type} (v : α → Int × List Int) {p q : α → Bool} {W : List α} (h : ∀ w ∈ W, p w = q w) : agg ((W.filter p).map v) = agg ((W.filter q).map v) := by
  rw [List.filter_congr h]
/-- led on by the pairs of an option and a key that are done -/
def LG (fits : Int → Int → Bool) (os : List Op) (W : List Wy) (D : Int → Int × Int → Bool) (a : Int × Int) : Option Le :=
  (os.map fun o => agg ((W.filter fun w => fits o.st w.f && D o.st (w.f, w.l) && (o.st == a.1) && (w.l == a.2)).map fun w => (w.c + o.cost, o.tells ++ w.t))).foldr orL none
theorem beh_v (o : Op) (p : Wy → Bool) (W : List Wy) : agg ((W.filter p).map fun w => (w.c + o.cost, o.tells ++ w.t)) = (agg ((W.filter p).map Wy.v)).map (behE o.cost o.tells) := by
  rw [← agg_beh, List.map_map]; rfl
theorem foldr_one {α : Type} (g g' : α → Option Le) (o : α) (x : Option Le) (R : α → α → Prop) (hR : ∀ a, ¬ R a a) : ∀ (os : List α), os.Pairwise R → o ∈ os → (∀ b ∈ os, (R b o ∨ R o b) → g' b = g b) → g' o = orL (g o) x →
    (os.map g').foldr orL none = orL ((os.map g).foldr orL none) x
  | [], _, h, _, _ => by simp at h
  | b :: os, hp, h, h1, h2 => by
    obtain ⟨hb, hp⟩ := List.pairwise_cons.1 hp
    simp only [List.map_cons, List.foldr_cons]
    rcases List.mem_cons.1 h with rfl | h
    · have e : os.map g' = os.map g := List.map_congr_left fun c hc => h1 c (List.mem_cons_of_mem _ hc) (.inr (hb c hc))
      rw [e, h2, orL_assoc, orL_comm x, ← orL_assoc]
    · rw [foldr_one g g' o x R hR os hp h (fun c hc => h1 c (List.mem_cons_of_mem _ hc)) h2, h1 b (List.mem_cons_self ..) (.inl (hb o h)), orL_assoc]
/-- the states of one house are all different -/
def Dif (os : List Op) : Prop := os.Pairwise fun a b => a.st ≠ b.st
theorem LG_step (fits : Int → Int → Bool) (os : List Op) (W : List Wy) (D : Int → Int × Int → Bool) (o : Op) (k : Int × Int) (hd : Dif os) (ho : o ∈ os) (hD : D o.st k = false) (a : Int × Int) :
    LG fits os W (fun s q => D s q || (s == o.st && q == k)) a = if fits o.st k.1 = true ∧ a = (o.st, k.2) then orL (LG fits os W D a) ((T W k).map (behE o.cost o.tells)) else LG fits os W D a := by
  obtain ⟨a1, a2⟩ := a
  obtain ⟨k1, k2⟩ := k
  have other : ∀ b : Op, b.st ≠ o.st → agg ((W.filter fun w => fits b.st w.f && (D b.st (w.f, w.l) || (b.st == o.st && (w.f, w.l) == (k1, k2))) && (b.st == a1) && (w.l == a2)).map fun w => (w.c + b.cost, b.tells ++ w.t))
      = agg ((W.filter fun w => fits b.st w.f && D b.st (w.f, w.l) && (b.st == a1) && (w.l == a2)).map fun w => (w.c + b.cost, b.tells ++ w.t)) := by
    intro b hb
    have e : (b.st == o.st) = false := by simpa using hb
    simp only [e, Bool.false_and, Bool.or_false]
  by_cases hf : fits o.st k1 = true ∧ ((a1, a2) : Int × Int) = (o.st, k2)
  · rw [if_pos hf]
    obtain ⟨hf, ha⟩ := hf
    injection ha with ha1 ha2
    subst ha1 ha2
    unfold LG
    refine foldr_one _ _ o _ (fun a b => a.st ≠ b.st) (fun a h => h rfl) os hd ho (fun b _ hb => other b (hb.elim id Ne.symm)) ?_
    have e : (T W (k1, a2)).map (behE o.cost o.tells) = agg ((W.filter fun w => w.f == k1 && w.l == a2).map fun w => (w.c + o.cost, o.tells ++ w.t)) := (beh_v o _ W).symm
    rw [e, ← agg_or]
    · refine agg_congr _ ?_
      intro w hw
      by_cases h1 : w.f = k1
      · by_cases h2 : w.l = a2
        · simp [h1, h2, hf, hD]
        · have e : (w.l == a2) = false := by simpa using h2
          dsimp only
          rw [e]; simp
      · have e : (w.f == k1) = false := by simpa using h1
        have e2 : ((w.f, w.l) == (k1, a2)) = false := by
          cases q : ((w.f, w.l) == (k1, a2))
          · rfl
          · exfalso
            rw [beq_iff_eq, Prod.mk.injEq] at q
            exact h1 q.1
        dsimp only
        rw [e, e2]; simp
    · intro w hw ⟨h1, h2⟩
      simp only [Bool.and_eq_true, beq_iff_eq] at h1 h2
      rw [h2.1, h2.2, hD] at h1
      simp at h1
  · rw [if_neg hf]
    unfold LG
    congr 1
    refine List.map_congr_left ?_
    intro b hb
    refine agg_congr _ ?_
    intro w hw
    by_cases h0 : b.st = o.st ∧ w.f = k1 ∧ w.l = k2
    · obtain ⟨h0, h1, h2⟩ := h0
      rw [h0, h1, h2]
      cases h3 : fits o.st k1
      · simp
      · cases h4 : (o.st == a1)
        · simp
        · cases h5 : (k2 == a2)
          · simp
          · exfalso
            rw [beq_iff_eq] at h4 h5
            exact hf ⟨h3, by rw [h4, h5]⟩
    · have e : (b.st == o.st && (w.f, w.l) == (k1, k2)) = false := by
        cases q : (b.st == o.st && (w.f, w.l) == (k1, k2))
        · rfl
        · exfalso
          rw [Bool.and_eq_true, beq_iff_eq, beq_iff_eq, Prod.mk.injEq] at q
          exact h0 ⟨q.1, q.2.1, q.2.2⟩
      dsimp only
      rw [e, Bool.or_false]
theorem LG_none (fits : Int → Int → Bool) (W : List Wy) (a : Int × Int) : ∀ (os : List Op), LG fits os W (fun _ _ => false) a = none
  | [] => rfl
  | o :: os => by
    have ih := LG_none fits W a os
    unfold LG at ih ⊢
    rw [List.map_cons, List.foldr_cons, ih, orL_none, agg_none, List.map_eq_nil_iff, List.filter_eq_nil_iff]
    intro w hw
    simp
theorem LG_all (fits : Int → Int → Bool) (W : List Wy) (D : Int → Int × Int → Bool) (a : Int × Int) : ∀ (os : List Op), (∀ o ∈ os, ∀ w ∈ W, D o.st (w.f, w.l) = true) → LG fits os W D a = T (lead fits os W) a
  | [], _ => rfl
  | o :: os, hD => by
    have ih := LG_all fits W D a os (fun b hb => hD b (List.mem_cons_of_mem _ hb))
    unfold LG T lead at ih ⊢
    rw [List.map_cons, List.foldr_cons, ih, List.flatMap_cons, List.filter_append, List.map_append, agg_app]
    congr 1
    rw [List.filter_map, List.map_map, List.filter_filter]
    refine agg_congr _ ?_
    intro w hw
    simp only [hD o (List.mem_cons_self ..) w hw, Function.comp, Op.on, Bool.and_true]
    cases fits o.st w.f <;> simp [Bool.and_comm]
/-- the last house alone -/
theorem T_one : ∀ (os : List Op), Dif os → ∀ o ∈ os, T (os.map Op.wy) (o.st, o.st) = some ⟨o.cost, 1, o.tells⟩
  | [], _, _, h => by simp at h
  | b :: os, hd, o, h => by
    obtain ⟨hb, hd'⟩ := List.pairwise_cons.1 hd
    have none_ : ∀ s, (∀ c ∈ os, c.st ≠ s) → T (os.map Op.wy) (s, s) = none := by
      intro s hs
      unfold T
      rw [agg_none, List.map_eq_nil_iff, List.filter_eq_nil_iff]
      intro w hw
      obtain ⟨c, hc, rfl⟩ := List.mem_map.1 hw
      simp [Op.wy, hs c hc]
    rcases List.mem_cons.1 h with rfl | h
    · have e := none_ o.st (fun c hc => (hb c hc).symm)
      unfold T at e ⊢
      simp only [List.map_cons, List.filter_cons, Op.wy, beq_self_eq_true, Bool.and_self, if_true, List.map_cons, Wy.v, agg]
      simp only [Op.wy, Wy.v] at e
      rw [e]; rfl
    · have ih := T_one os hd' o h
      have hne := hb o h
      unfold T at ih ⊢
      simp only [List.map_cons, List.filter_cons, Op.wy]
      rw [if_neg (by simp [hne])]
      exact ih
theorem T_other (os : List Op) (k : Int × Int) (h : ∀ o ∈ os, k ≠ (o.st, o.st)) : T (os.map Op.wy) k = none := by
  unfold T
  rw [agg_none, List.map_eq_nil_iff, List.filter_eq_nil_iff]
  intro w hw
  obtain ⟨c, hc, rfl⟩ := List.mem_map.1 hw
  have hq := h c hc
  simp only [Op.wy, Bool.and_eq_true, beq_iff_eq, not_and]
  intro h1 h2
  exact hq (by rw [h1]; rw [h1] at h2; rw [Prod.mk.injEq]; exact ⟨rfl, h2.symm⟩)
/-- the end: those whose ends suit each other, of the keys that are done -/
def LE (R : Int × Int → Bool) (W : List Wy) (D : Int × Int → Bool) : Option Le := agg ((W.filter fun w => R (w.f, w.l) && D (w.f, w.l)).map Wy.v)
theorem LE_step (R : Int × Int → Bool) (W : List Wy) (D : Int × Int → Bool) (k : Int × Int) (hD : D k = false) :
    LE R W (fun q => D q || q == k) = if R k = true then orL (LE R W D) (T W k) else LE R W D := by
  obtain ⟨k1, k2⟩ := k
  unfold LE T
  split
  · rename_i hR
    rw [← agg_or]
    · refine agg_congr _ ?_
      intro w hw
      cases h1 : (w.f == k1) <;> cases h2 : (w.l == k2) <;> simp [pbeq, h1, h2]
      rw [beq_iff_eq] at h1 h2
      rw [h1, h2, hR]
    · intro w hw ⟨h1, h2⟩
      simp only [Bool.and_eq_true, beq_iff_eq] at h1 h2
      rw [h2.1, h2.2, hD] at h1
      simp at h1
  · rename_i hR
    refine agg_congr _ ?_
    intro w hw
    cases h1 : (w.f == k1) <;> cases h2 : (w.l == k2) <;> simp [pbeq, h1, h2]
    rw [beq_iff_eq] at h1 h2
    rw [h1, h2]
    intro q
    exact absurd q hR
theorem T_none (W : List Wy) (k : Int × Int) : T W k = none ↔ ∀ w ∈ W, (w.f, w.l) ≠ k := by
  unfold T
  rw [agg_none, List.map_eq_nil_iff, List.filter_eq_nil_iff]
  constructor
  · intro h w hw e
    subst e
    exact h w hw (by simp)
  · intro h w hw e
    simp only [Bool.and_eq_true, beq_iff_eq] at e
    exact h w hw (by rw [e.1, e.2])
end Go.Proofs.Rl
