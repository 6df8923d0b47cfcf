/-
  Chapter 7, plain mathematics: the least cost of some ways, how many there are of it, and the first list of theirs (what leastOf and the models come to). No seat.
-/
import Derived.Test.YtjhpebihflcanaaBase
namespace Go.Proofs.Rl
set_option linter.unusedVariables false
set_option linter.unusedSimpArgs false
/-- lists of ints in their order -/
def ltL : List Int → List Int → Bool
  | [], [] => false
  | [], _ :: _ => true
  | _ :: _, [] => false
  | a :: s, b :: t => if a < b then true else if b < a then false else ltL s t
theorem ltL_irrefl : ∀ s, ltL s s = false
  | [] => rfl
  | a :: s => by simp [ltL, ltL_irrefl s]
theorem ltL_asymm : ∀ {s t}, ltL s t = true → ltL t s = false
  | [], [], h => by simp [ltL] at h
  | [], _ :: _, h => rfl
  | _ :: _, [], h => by simp [ltL] at h
  | a :: s, b :: t, h => by
    simp only [ltL] at h ⊢
    by_cases h1 : a < b
    · rw [if_neg (by omega), if_pos h1]
    · rw [if_neg h1] at h
      by_cases h2 : b < a
      · rw [if_pos h2] at h; cases h
      · rw [if_neg h2] at h; rw [if_neg h2, if_neg h1]; exact ltL_asymm h
theorem ltL_trans : ∀ {s t u}, ltL s t = true → ltL t u = true → ltL s u = true
  | [], [], _, h, _ => by simp [ltL] at h
  | [], _ :: _, [], _, k => by simp [ltL] at k
  | [], _ :: _, _ :: _, _, _ => rfl
  | _ :: _, [], _, h, _ => by simp [ltL] at h
  | _ :: _, _ :: _, [], _, k => by simp [ltL] at k
  | a :: s, b :: t, c :: u, h, k => by
    simp only [ltL] at h k ⊢
    by_cases h1 : a < b <;> by_cases h2 : b < a <;> by_cases k1 : b < c <;> by_cases k2 : c < b <;> simp [h1, h2, k1, k2] at h k
    all_goals first
      | omega
      | (rw [if_pos (by omega)])
      | (rw [if_neg (by omega), if_neg (by omega)]; exact ltL_trans h k)
theorem ltL_total : ∀ {s t}, ltL s t = false → ltL t s = false → s = t
  | [], [], _, _ => rfl
  | [], _ :: _, h, _ => by simp [ltL] at h
  | _ :: _, [], _, k => by simp [ltL] at k
  | a :: s, b :: t, h, k => by
    simp only [ltL] at h k
    by_cases h1 : a < b
    · simp [h1] at h
    · by_cases h2 : b < a
      · simp [h2] at k
      · rw [if_neg h1, if_neg h2] at h; rw [if_neg h2, if_neg h1] at k
        rw [ltL_total h k, show a = b by omega]
theorem ltL_app : ∀ (p s t), ltL (p ++ s) (p ++ t) = ltL s t
  | [], _, _ => rfl
  | a :: p, s, t => by simp only [List.cons_append, ltL, Int.lt_irrefl, if_false]; exact ltL_app p s t
def minL (s t : List Int) : List Int := if ltL t s then t else s
theorem minL_comm (s t : List Int) : minL s t = minL t s := by
  unfold minL
  cases h : ltL t s
  · cases k : ltL s t
    · simp [ltL_total k h]
    · simp
  · rw [ltL_asymm h]; simp
theorem minL_assoc (s t u : List Int) : minL (minL s t) u = minL s (minL t u) := by
  unfold minL
  cases h : ltL t s <;> cases k : ltL u t <;> simp [h, k]
  · cases m : ltL u s
    · simp
    · exfalso
      cases n : ltL s t
      · rw [ltL_total n h] at m; rw [m] at k; cases k
      · rw [ltL_trans m n] at k; cases k
  · rw [ltL_trans k h]; simp
theorem minL_app (p s t : List Int) : minL (p ++ s) (p ++ t) = p ++ minL s t := by
  unfold minL; rw [ltL_app]; split <;> rfl
/-- the least cost, how many ways there are of it, the first list -/
structure Le where
  cost : Int
  count : Nat
  first : List Int
def orE (l o : Le) : Le :=
  if o.cost < l.cost then o else if l.cost < o.cost then l else ⟨l.cost, l.count + o.count, minL l.first o.first⟩
def orL : Option Le → Option Le → Option Le
  | none, o => o
  | l, none => l
  | some l, some o => some (orE l o)
theorem orE_comm (l o : Le) : orE l o = orE o l := by
  unfold orE
  by_cases h : o.cost < l.cost
  · rw [if_pos h, if_neg (by omega), if_pos h]
  · by_cases k : l.cost < o.cost
    · rw [if_neg h, if_pos k, if_pos k]
    · rw [if_neg h, if_neg k, if_neg k, if_neg h, Nat.add_comm, minL_comm, show l.cost = o.cost by omega]
theorem orE_assoc (a b c : Le) : orE (orE a b) c = orE a (orE b c) := by
  obtain ⟨a1, a2, a3⟩ := a
  obtain ⟨b1, b2, b3⟩ := b
  obtain ⟨c1, c2, c3⟩ := c
  unfold orE
  simp only
  by_cases h1 : b1 < a1 <;> by_cases h2 : a1 < b1 <;> by_cases k1 : c1 < b1 <;> by_cases k2 : b1 < c1 <;> simp only [h1, h2, k1, k2, if_true, if_false]
  all_goals first
    | omega
    | skip
  all_goals by_cases m1 : c1 < a1 <;> by_cases m2 : a1 < c1 <;> simp only [h1, h2, k1, k2, m1, m2, if_true, if_false]
  all_goals first
    | omega
    | rfl
    | (rw [minL_assoc, Nat.add_assoc])
theorem orL_none (l : Option Le) : orL l none = l := by cases l <;> rfl
theorem orL_comm (l o : Option Le) : orL l o = orL o l := by
  cases l <;> cases o <;> simp [orL, orE_comm]
theorem orL_assoc (a b c : Option Le) : orL (orL a b) c = orL a (orL b c) := by
  cases a <;> cases b <;> cases c <;> simp [orL, orE_assoc]
/-- a house more in front -/
def behE (c : Int) (t : List Int) (l : Le) : Le := ⟨l.cost + c, l.count, t ++ l.first⟩
theorem behE_or (c : Int) (t : List Int) (a b : Le) : behE c t (orE a b) = orE (behE c t a) (behE c t b) := by
  unfold behE orE
  simp only
  by_cases h : b.cost < a.cost
  · rw [if_pos h, if_pos (by omega)]
  · by_cases k : a.cost < b.cost
    · rw [if_neg h, if_pos k, if_neg (by omega), if_pos (by omega)]
    · rw [if_neg h, if_neg k, if_neg (by omega), if_neg (by omega), minL_app]
theorem beh_or (c : Int) (t : List Int) (a b : Option Le) : (orL a b).map (behE c t) = orL (a.map (behE c t)) (b.map (behE c t)) := by
  cases a <;> cases b <;> simp [orL, behE_or]
/-- all ways, each with its cost and its list -/
def agg : List (Int × List Int) → Option Le
  | [] => none
  | (c, t) :: ws => orL (some ⟨c, 1, t⟩) (agg ws)
theorem agg_app : ∀ (u v : List (Int × List Int)), agg (u ++ v) = orL (agg u) (agg v)
  | [], v => by simp only [List.nil_append, agg]; cases agg v <;> rfl
  | (c, t) :: u, v => by simp only [List.cons_append, agg]; rw [agg_app u v, orL_assoc]
theorem agg_perm {u v : List (Int × List Int)} (h : u.Perm v) : agg u = agg v := by
  induction h with
  | nil => rfl
  | cons x _ ih => obtain ⟨c, t⟩ := x; simp only [agg]; rw [ih]
  | swap x y l =>
    obtain ⟨c, t⟩ := x; obtain ⟨d, s⟩ := y
    simp only [agg]
    rw [← orL_assoc, ← orL_assoc, orL_comm (some ⟨d, 1, s⟩)]
  | trans _ _ a b => rw [a, b]
theorem agg_beh (c : Int) (t : List Int) : ∀ (u : List (Int × List Int)), agg (u.map fun w => (w.1 + c, t ++ w.2)) = (agg u).map (behE c t)
  | [] => rfl
  | (d, s) :: u => by simp only [List.map_cons, agg]; rw [agg_beh c t u, beh_or]; rfl
theorem agg_flatMap {α : Type} (f : α → List (Int × List Int)) : ∀ (l : List α), agg (l.flatMap f) = (l.map fun x => agg (f x)).foldr orL none
  | [] => rfl
  | x :: l => by rw [List.flatMap_cons, agg_app, agg_flatMap f l]; rfl
theorem agg_none {u : List (Int × List Int)} : agg u = none ↔ u = [] := by
  cases u with
  | nil => simp [agg]
  | cons w u =>
    obtain ⟨c, t⟩ := w
    simp only [agg]
    cases agg u <;> simp [orL]
/-- what the program keeps: count 0 for none -/
def toP : Option Le → Int × Int × List Int
  | none => (0, 0, [])
  | some l => (l.cost, l.count, l.first)
/-- what it is of all ways -/
theorem agg_is : ∀ {u : List (Int × List Int)} {l : Le}, agg u = some l → (∀ w ∈ u, l.cost ≤ w.1) ∧ l.count = u.countP (fun w => decide (w.1 = l.cost)) ∧ (l.cost, l.first) ∈ u ∧ ∀ w ∈ u, w.1 = l.cost → ltL w.2 l.first = false
  | [], l, h => by simp [agg] at h
  | (c, t) :: u, l, h => by
    simp only [agg] at h
    cases hu : agg u with
    | none =>
      rw [hu] at h
      simp only [orL, Option.some.injEq] at h
      subst h
      rw [agg_none.1 hu]
      simp [ltL_irrefl]
    | some m =>
      obtain ⟨i1, i2, i3, i4⟩ := agg_is hu
      rw [hu] at h
      simp only [orL, Option.some.injEq] at h
      unfold orE at h
      simp only at h
      by_cases k1 : m.cost < c
      · rw [if_pos k1] at h
        subst h
        refine ⟨?_, ?_, List.mem_cons_of_mem _ i3, ?_⟩
        · intro w hw
          rcases List.mem_cons.1 hw with rfl | hw
          · simp only; omega
          · exact i1 w hw
        · rw [List.countP_cons_of_neg (by simp; omega)]; exact i2
        · intro w hw hc
          rcases List.mem_cons.1 hw with rfl | hw
          · simp only at hc; omega
          · exact i4 w hw hc
      · rw [if_neg k1] at h
        by_cases k2 : c < m.cost
        · rw [if_pos k2] at h
          subst h
          refine ⟨?_, ?_, List.mem_cons_self .., ?_⟩
          · intro w hw
            rcases List.mem_cons.1 hw with rfl | hw
            · simp
            · have := i1 w hw; simp only; omega
          · have hz : u.countP (fun w => decide (w.1 = c)) = 0 := by
              rw [List.countP_eq_zero]
              intro w hw
              have := i1 w hw
              simp; omega
            simp [hz]
          · intro w hw hc
            rcases List.mem_cons.1 hw with rfl | hw
            · exact ltL_irrefl _
            · have := i1 w hw; simp only at hc; omega
        · rw [if_neg k2] at h
          have e : m.cost = c := by omega
          subst h
          simp only
          refine ⟨?_, ?_, ?_, ?_⟩
          · intro w hw
            rcases List.mem_cons.1 hw with rfl | hw
            · simp
            · have := i1 w hw; omega
          · rw [List.countP_cons_of_pos (by simp), i2, e]; omega
          · unfold minL
            split
            · exact List.mem_cons_of_mem _ (e ▸ i3)
            · exact List.mem_cons_self ..
          · intro w hw hc
            have key : ltL w.2 t = false ∨ ltL w.2 m.first = false := by
              rcases List.mem_cons.1 hw with rfl | hw
              · exact .inl (ltL_irrefl _)
              · exact .inr (i4 w hw (by omega))
            unfold minL
            cases q : ltL m.first t
            · simp
              rcases key with key | key
              · exact key
              · cases r : ltL w.2 t
                · rfl
                · cases s : ltL t m.first
                  · rw [ltL_total s q] at r; rw [r] at key; cases key
                  · rw [ltL_trans r s] at key; cases key
            · simp
              rcases key with key | key
              · cases r : ltL w.2 m.first
                · rfl
                · rw [ltL_trans r q] at key; cases key
              · exact key
end Go.Proofs.Rl
