/-
  Chapter 7, plain mathematics: ways by the state of the first house, and what suits the last one (the table of rwPaint). No seat.
-/
import Derived.Test.YtjhpebihflcanaaRlN
namespace Go.Proofs.Rl
set_option linter.unusedVariables false
set_option linter.unusedSimpArgs false
def PB (fits : Int → Int → Bool) (opts : List (List Op)) (Q : Int → Bool) (c : Int) : Option Le := agg (((ways fits opts).filter fun w => w.f == c && Q w.l).map Wy.v)
/-- parted by the state of the first house -/
theorem agg_split (v : Wy → Int × List Int) (p : Wy → Bool) (W : List Wy) : ∀ (ds : List Int), ds.Nodup → agg ((W.filter fun w => p w && ds.contains w.f).map v) = (ds.map fun d => agg ((W.filter fun w => p w && w.f == d).map v)).foldr orL none
  | [], _ => by
    rw [List.map_nil, List.foldr_nil, agg_none, List.map_eq_nil_iff, List.filter_eq_nil_iff]
    intro w hw; simp
  | d :: ds, hn => by
    obtain ⟨h1, h2⟩ := List.nodup_cons.1 hn
    rw [List.map_cons, List.foldr_cons, ← agg_split v p W ds h2, ← agg_or]
    · refine agg_congr v ?_
      intro w hw
      rw [List.contains_cons]
      cases p w <;> simp
    · intro w hw ⟨a, b⟩
      simp only [Bool.and_eq_true, beq_iff_eq, List.contains_iff_mem] at a b
      rw [a.2] at b
      exact h1 b.2
theorem foldr_none {α : Type} (g : α → Option Le) : ∀ (l : List α), (∀ x ∈ l, g x = none) → (l.map g).foldr orL none = none
  | [], _ => rfl
  | x :: l, h => by rw [List.map_cons, List.foldr_cons, h x (List.mem_cons_self ..), foldr_none g l (fun y hy => h y (List.mem_cons_of_mem _ hy))]; rfl
theorem foldr_only {α : Type} (g : α → Option Le) (o : α) (R : α → α → Prop) : ∀ (l : List α), l.Pairwise R → o ∈ l → (∀ b ∈ l, (R b o ∨ R o b) → g b = none) → (l.map g).foldr orL none = g o
  | [], _, h, _ => by simp at h
  | b :: l, hp, h, h1 => by
    obtain ⟨hb, hp⟩ := List.pairwise_cons.1 hp
    rw [List.map_cons, List.foldr_cons]
    rcases List.mem_cons.1 h with rfl | h
    · rw [foldr_none g l (fun c hc => h1 c (List.mem_cons_of_mem _ hc) (.inr (hb c hc))), orL_none]
    · rw [foldr_only g o R l hp h (fun c hc => h1 c (List.mem_cons_of_mem _ hc)), h1 b (List.mem_cons_self ..) (.inl (hb o h))]; rfl
theorem PB_last (fits : Int → Int → Bool) (os : List Op) (Q : Int → Bool) (hd : Dif os) (o : Op) (ho : o ∈ os) : PB fits [os] Q o.st = if Q o.st then some ⟨o.cost, 1, o.tells⟩ else none := by
  unfold PB ways
  have e : (os.map Op.wy).filter (fun w => w.f == o.st && Q w.l) = if Q o.st then (os.map Op.wy).filter (fun w => w.f == o.st && w.l == o.st) else [] := by
    split
    · rename_i hq
      refine List.filter_congr ?_
      intro w hw
      obtain ⟨b, hb, rfl⟩ := List.mem_map.1 hw
      simp only [Op.wy]
      cases h : (b.st == o.st)
      · rfl
      · rw [beq_iff_eq] at h; rw [h, hq]
    · rename_i hq
      rw [List.filter_eq_nil_iff]
      intro w hw
      obtain ⟨b, hb, rfl⟩ := List.mem_map.1 hw
      simp only [Op.wy, Bool.and_eq_true, beq_iff_eq, not_and]
      intro h; rw [h]; exact hq
  rw [e]
  split
  · exact T_one os hd o ho
  · rfl
theorem PB_cons (fits : Int → Int → Bool) (os : List Op) (r : List (List Op)) (hr : r ≠ []) (Q : Int → Bool) (hd : Dif os) (o : Op) (ho : o ∈ os) (ds : List Int) (hn : ds.Nodup) (hc : ∀ w ∈ ways fits r, w.f ∈ ds) :
    PB fits (os :: r) Q o.st = (ds.map fun d => if fits o.st d then (PB fits r Q d).map (behE o.cost o.tells) else none).foldr orL none := by
  have e1 : PB fits (os :: r) Q o.st = (os.map fun b => agg (((ways fits r).filter fun w => (b.st == o.st) && (fits b.st w.f && Q w.l)).map fun w => (w.c + b.cost, b.tells ++ w.t))).foldr orL none := by
    unfold PB
    have ew : ways fits (os :: r) = lead fits os (ways fits r) := by
      cases r with
      | nil => exact absurd rfl hr
      | cons a r => rfl
    rw [ew]
    generalize ways fits r = W
    clear ho hc hr ew
    induction os with
    | nil => rfl
    | cons b os ih =>
      have ih := ih (List.pairwise_cons.1 hd).2
      unfold lead at ih ⊢
      rw [List.flatMap_cons, List.filter_append, List.map_append, agg_app, ih, List.map_cons, List.foldr_cons]
      congr 1
      rw [List.filter_map, List.map_map, List.filter_filter]
      refine agg_congr _ ?_
      intro w hw
      simp only [Function.comp, Op.on]
      cases fits b.st w.f <;> simp
  rw [e1, foldr_only _ o (fun a b => a.st ≠ b.st) os hd ho]
  · rw [beh_v]
    have e2 : agg (((ways fits r).filter fun w => (o.st == o.st) && (fits o.st w.f && Q w.l)).map Wy.v) = agg (((ways fits r).filter fun w => (fits o.st w.f && Q w.l) && ds.contains w.f).map Wy.v) := by
      refine agg_congr _ ?_
      intro w hw
      rw [List.contains_iff_mem.2 (hc w hw)]
      simp
    rw [e2, agg_split Wy.v _ _ ds hn]
    clear e1 e2 hn hc
    induction ds with
    | nil => rfl
    | cons d ds ih =>
      rw [List.map_cons, List.foldr_cons, List.map_cons, List.foldr_cons, beh_or, ih]
      congr 1
      split
      · rename_i hf
        unfold PB
        congr 1
        refine agg_congr _ ?_
        intro w hw
        cases h : (w.f == d)
        · simp
        · rw [beq_iff_eq] at h; rw [h, hf]; simp
      · rename_i hf
        rw [agg_none.2]
        · rfl
        · rw [List.map_eq_nil_iff, List.filter_eq_nil_iff]
          intro w hw
          simp only [Bool.and_eq_true, beq_iff_eq, not_and]
          intro h1 h2
          rw [h2] at h1
          exact absurd h1.1 hf
  · intro b hb hne
    rw [agg_none, List.map_eq_nil_iff, List.filter_eq_nil_iff]
    intro w hw
    have : (b.st == o.st) = false := beq_eq_false_iff_ne.2 (hne.elim id Ne.symm)
    rw [this]; simp
end Go.Proofs.Rl
