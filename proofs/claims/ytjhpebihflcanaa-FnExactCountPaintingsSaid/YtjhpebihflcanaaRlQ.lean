/-
  Chapter 7, plain mathematics: the choice of the first list, and the sums a loop keeps (rwPaint, rwBest). No seat.
-/
import Derived.Test.YtjhpebihflcanaaRlP
namespace Go.Proofs.Rl
set_option linter.unusedVariables false
set_option linter.unusedSimpArgs false
theorem foldl_orL : ∀ (l : List (Option Le)) (a : Option Le), l.foldl orL a = orL a (l.foldr orL none)
  | [], a => by rw [List.foldl_nil, List.foldr_nil, orL_none]
  | x :: l, a => by rw [List.foldl_cons, List.foldr_cons, foldl_orL l, orL_assoc]
/-- cost and count, with a number for none that is greater than each cost -/
def toC (N : Int) : Option Le → Int × Int
  | none => (N, 0)
  | some l => (l.cost, l.count)
/-- one round of a loop that keeps the least sum and how many have it -/
theorem toC_step (N : Int) (a : Option Le) (m : Le) (ha : ∀ l, a = some l → l.cost < N) (hm : m.cost < N) :
    toC N (orL a (some m)) = if m.cost < (toC N a).1 then (m.cost, (m.count : Int)) else if m.cost = (toC N a).1 then ((toC N a).1, (toC N a).2 + m.count) else toC N a := by
  cases a with
  | none => simp [orL, toC, hm]
  | some l =>
    have := ha l rfl
    show toC N (some (orE l m)) = if m.cost < l.cost then (m.cost, (m.count : Int)) else if m.cost = l.cost then (l.cost, (l.count : Int) + m.count) else (l.cost, (l.count : Int))
    unfold orE
    by_cases h : m.cost < l.cost
    · rw [if_pos h, if_pos h]; rfl
    · by_cases k : l.cost < m.cost
      · rw [if_neg h, if_pos k, if_neg h, if_neg (by omega)]; rfl
      · rw [if_neg h, if_neg k, if_neg h, if_pos (by omega)]
        simp [toC]
/-- which of some, each with lists that begin with it, has the first list -/
theorem fold_pick (g : Int → Option Le) : ∀ (ds : List Int), ds.Pairwise (· < ·) → (∀ d ∈ ds, ∀ m, g d = some m → ∃ t, m.first = d :: t) → ∀ l, (ds.map g).foldr orL none = some l →
    ∃ d ∈ ds, ∃ m, g d = some m ∧ m.cost = l.cost ∧ m.first = l.first ∧ (∀ e ∈ ds, e < d → ∀ q, g e = some q → l.cost < q.cost) ∧ (∀ e ∈ ds, ∀ q, g e = some q → l.cost ≤ q.cost)
  | [], _, _, l, h => by simp at h
  | d :: ds, hp, hb, l, h => by
    obtain ⟨h1, h2⟩ := List.pairwise_cons.1 hp
    rw [List.map_cons, List.foldr_cons] at h
    have hb' : ∀ e ∈ ds, ∀ m, g e = some m → ∃ t, m.first = e :: t := fun e he => hb e (List.mem_cons_of_mem _ he)
    cases hr : (ds.map g).foldr orL none with
    | none =>
      rw [hr, orL_none] at h
      have hno : ∀ e ∈ ds, g e = none := by
        clear h hp hb h1 h2 hb'
        induction ds with
        | nil => intro e he; simp at he
        | cons b ds ih =>
          rw [List.map_cons, List.foldr_cons] at hr
          cases hq : g b with
          | some q => rw [hq] at hr; cases hs : (ds.map g).foldr orL none <;> rw [hs] at hr <;> simp [orL] at hr
          | none =>
            rw [hq] at hr
            intro e he
            rcases List.mem_cons.1 he with rfl | he
            · exact hq
            · refine ih ?_ e he
              cases hs : (ds.map g).foldr orL none
              · rfl
              · rw [hs] at hr; simp [orL] at hr
      refine ⟨d, List.mem_cons_self .., l, h, rfl, rfl, ?_, ?_⟩
      · intro e he hlt q hq
        rcases List.mem_cons.1 he with rfl | he
        · omega
        · rw [hno e he] at hq; cases hq
      · intro e he q hq
        rcases List.mem_cons.1 he with rfl | he
        · rw [h] at hq; injection hq with hq; rw [hq]; exact Int.le_refl _
        · rw [hno e he] at hq; cases hq
    | some r =>
      obtain ⟨c, hc, m, hm, e1, e2, e3, e4⟩ := fold_pick g ds h2 hb' r hr
      rw [hr] at h
      cases hg : g d with
      | none =>
        rw [hg] at h
        simp only [orL, Option.some.injEq] at h
        subst h
        refine ⟨c, List.mem_cons_of_mem _ hc, m, hm, e1, e2, ?_, ?_⟩
        · intro e he hlt q hq
          rcases List.mem_cons.1 he with rfl | he
          · rw [hg] at hq; cases hq
          · exact e3 e he hlt q hq
        · intro e he q hq
          rcases List.mem_cons.1 he with rfl | he
          · rw [hg] at hq; cases hq
          · exact e4 e he q hq
      | some k =>
        rw [hg] at h
        simp only [orL, Option.some.injEq] at h
        unfold orE at h
        by_cases q1 : r.cost < k.cost
        · rw [if_pos q1] at h
          subst h
          refine ⟨c, List.mem_cons_of_mem _ hc, m, hm, e1, e2, ?_, ?_⟩
          · intro e he hlt q hq
            rcases List.mem_cons.1 he with rfl | he
            · rw [hg] at hq; injection hq with hq; rw [← hq]; exact q1
            · exact e3 e he hlt q hq
          · intro e he q hq
            rcases List.mem_cons.1 he with rfl | he
            · rw [hg] at hq; injection hq with hq; rw [← hq]; omega
            · exact e4 e he q hq
        · rw [if_neg q1] at h
          have first : l.cost = k.cost ∧ l.first = k.first := by
            by_cases q2 : k.cost < r.cost
            · rw [if_pos q2] at h; subst h; exact ⟨rfl, rfl⟩
            · rw [if_neg q2] at h
              subst h
              refine ⟨rfl, ?_⟩
              obtain ⟨t, ht⟩ := hb d (List.mem_cons_self ..) k hg
              obtain ⟨u, hu⟩ := hb' c hc m hm
              simp only
              unfold minL
              have : ltL r.first k.first = false := by
                rw [ht, ← e2, hu, ltL, if_neg (by have := h1 c hc; omega), if_pos (h1 c hc)]
              rw [this]; simp
          refine ⟨d, List.mem_cons_self .., k, hg, first.1.symm, first.2.symm, ?_, ?_⟩
          · intro e he hlt q hq
            rcases List.mem_cons.1 he with rfl | he
            · omega
            · have := h1 e he; omega
          · intro e he q hq
            rcases List.mem_cons.1 he with rfl | he
            · rw [hg] at hq; injection hq with hq; rw [← hq, first.1]; exact Int.le_refl _
            · have := e4 e he q hq; rw [first.1]; omega
/-- all of the last and the first house suit each other: by the first house -/
theorem LE_first (fits : Int → Int → Bool) (opts : List (List Op)) (R : Int × Int → Bool) (ds : List Int) (hn : ds.Nodup) (hc : ∀ w ∈ ways fits opts, w.f ∈ ds) :
    LE R (ways fits opts) (fun _ => true) = (ds.map fun d => PB fits opts (fun l => R (d, l)) d).foldr orL none := by
  have e : LE R (ways fits opts) (fun _ => true) = agg (((ways fits opts).filter fun w => R (w.f, w.l) && ds.contains w.f).map Wy.v) := by
    unfold LE
    refine agg_congr _ ?_
    intro w hw
    rw [List.contains_iff_mem.2 (hc w hw)]
  rw [e, agg_split Wy.v _ _ ds hn]
  congr 1
  refine List.map_congr_left ?_
  intro d hd
  unfold PB
  refine agg_congr _ ?_
  intro w hw
  cases h : (w.f == d)
  · simp
  · rw [beq_iff_eq] at h; rw [h]; simp
end Go.Proofs.Rl
