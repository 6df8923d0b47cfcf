/-
  Chapter 7, plain mathematics: the model's tables of colours, and the first list along the houses. No program here.
-/
import Derived.Test.YtjhpebihflcanaaRlC
namespace Go.Proofs.Rl
set_option linter.unusedVariables false
set_option linter.unusedSimpArgs false
/-- the table: colour c at the i-th house, and all houses behind it -/
def tb (zss : List (List Int)) (Q : Int → Bool) (i : Nat) (c : Int) : Option Le := PB paF (paO (zss.drop i)) Q c
theorem cols_succ (t : Nat) : cols (t + 1) = cols t ++ [(t : Int)] := by
  unfold cols
  rw [List.range_succ, List.map_append]
  rfl
/-- what a loop over the first t colours has -/
def accF (g : Int → Option Le) (t : Nat) : Option Le := ((cols t).map g).foldr orL none
theorem foldr_app (l : List (Option Le)) (x : Option Le) : (l ++ [x]).foldr orL none = orL (l.foldr orL none) x := by
  induction l with
  | nil => simp [orL_none]; cases x <;> rfl
  | cons a l ih => rw [List.cons_append, List.foldr_cons, List.foldr_cons, ih, orL_assoc]
theorem accF_zero (g : Int → Option Le) : accF g 0 = none := rfl
theorem accF_succ (g : Int → Option Le) (t : Nat) : accF g (t + 1) = orL (accF g t) (g t) := by
  unfold accF
  rw [cols_succ, List.map_append]
  exact foldr_app _ _
theorem accF_some (g : Int → Option Le) (P : Le → Prop) (hP : ∀ a b, P a → P b → P (orE a b)) : ∀ t, (∀ d : Nat, d < t → ∀ m, g d = some m → P m) → ∀ l, accF g t = some l → P l
  | 0, _, l, h => by cases h
  | t + 1, hg, l, h => by
    rw [accF_succ] at h
    have ih := accF_some g P hP t (fun d hd => hg d (by omega))
    cases h1 : accF g t with
    | none =>
      rw [h1] at h
      cases h2 : g t with
      | none => rw [h2] at h; cases h
      | some m =>
        rw [h2] at h
        have : m = l := Option.some.inj h
        rw [← this]
        exact hg t (by omega) m h2
    | some a =>
      rw [h1] at h
      cases h2 : g t with
      | none =>
        rw [h2] at h
        have : a = l := Option.some.inj h
        rw [← this]
        exact ih a h1
      | some m =>
        rw [h2] at h
        have : orE a m = l := Option.some.inj h
        rw [← this]
        exact hP _ _ (ih a h1) (hg t (by omega) m h2)
/-- what one looks at for the colour c at a house that has others behind it -/
def nxF (zss : List (List Int)) (Q : Int → Bool) (i : Nat) (c : Int) (d : Int) : Option Le := if c ≠ d then tb zss Q (i + 1) d else none
theorem map_fold (c : Int) (t : List Int) (g : Int → Option Le) : ∀ (ds : List Int), (ds.map fun d => (g d).map (behE c t)).foldr orL none = ((ds.map g).foldr orL none).map (behE c t)
  | [] => rfl
  | d :: ds => by rw [List.map_cons, List.foldr_cons, map_fold c t g ds, List.map_cons, List.foldr_cons, beh_or]
section
variable {k : Nat} {zss : List (List Int)} (hk : Cok k zss) {Q : Int → Bool}
include hk
theorem tb_row {i : Nat} (hi : i + 1 < zss.length) {c : Nat} (hc : c < k) : tb zss Q i c = (accF (nxF zss Q i c) k).map (behE ((zss.getD i []).getD c 0) [(c : Int)]) := by
  have e1 : zss.drop i = zss.getD i [] :: zss.drop (i + 1) := by
    rw [List.drop_eq_getElem_cons (by omega)]
    simp [List.getD, show i < zss.length by omega]
  have e2 : zss.drop (i + 1) = zss.getD (i + 1) [] :: zss.drop (i + 2) := by
    rw [List.drop_eq_getElem_cons hi]
    simp [List.getD, hi]
  have hk2 : Cok k (zss.getD i [] :: zss.getD (i + 1) [] :: zss.drop (i + 2)) := by
    rw [← e2, ← e1]
    exact fun r hr => hk r (List.mem_of_mem_drop hr)
  have h := PB_row Q k _ _ _ hk2 c hc
  unfold tb accF
  rw [e1, e2, h, ← map_fold]
  congr 1
  refine List.map_congr_left fun d _ => ?_
  unfold nxF tb
  rw [← e2]
  by_cases e : (c : Int) = d
  · rw [if_neg (by simp [e]), if_neg (by simp [e])]; rfl
  · rw [if_pos e, if_pos e]
theorem tb_last {i : Nat} (hi : i + 1 = zss.length) {c : Nat} (hc : c < k) : tb zss Q i c = if Q c then some ⟨(zss.getD i []).getD c 0, 1, [(c : Int)]⟩ else none := by
  have e1 : zss.drop i = [zss.getD i []] := by
    rw [List.drop_eq_getElem_cons (by omega), List.drop_of_length_le (by omega)]
    simp [List.getD, show i < zss.length by omega]
  unfold tb
  rw [e1]
  exact PB_end Q _ c (by
    have : zss.getD i [] ∈ zss := by simp only [List.getD, List.getElem?_eq_getElem (show i < zss.length by omega), Option.getD_some]; exact List.getElem_mem _
    rw [hk _ this]; exact hc)
theorem tb_head {i : Nat} (hi : i < zss.length) {c : Nat} (hc : c < k) {m : Le} (h : tb zss Q i c = some m) : ∃ t, m.first = (c : Int) :: t :=
  PB_head Q k (zss.drop i) (by intro e; have := congrArg List.length e; rw [List.length_drop] at this; simp at this; omega) (fun r hr => hk r (List.mem_of_mem_drop hr)) c hc m h
theorem tb_len : ∀ (j i : Nat), i + j + 1 = zss.length → ∀ (c : Nat), c < k → ∀ m, tb zss Q i c = some m → m.first.length = j + 1
  | 0, i, hi, c, hc, m, h => by
    rw [tb_last hk (by omega) hc] at h
    split at h
    · cases h; rfl
    · cases h
  | j + 1, i, hi, c, hc, m, h => by
    rw [tb_row hk (by omega) hc] at h
    obtain ⟨l, hl, rfl⟩ := Option.map_eq_some_iff.1 h
    have := accF_some (nxF zss Q i c) (fun l => l.first.length = j + 1) (fun a b ha hb => by
      unfold orE
      split
      · exact hb
      · split
        · exact ha
        · simp only [minL]; split
          · exact hb
          · exact ha) k (fun d hd m hm => by
        unfold nxF at hm
        split at hm
        · exact tb_len j (i + 1) (by omega) d hd m hm
        · cases hm) l hl
    simp only [behE, List.length_append, List.length_cons, List.length_nil]
    omega
/-- the next colour of the first list: the least one that keeps the cost -/
theorem pick_step {i : Nat} (hi : i + 1 < zss.length) {c : Nat} (hc : c < k) {m : Le} (h : tb zss Q i c = some m) :
    ∃ d : Nat, d < k ∧ ∃ q t, (c : Int) ≠ d ∧ tb zss Q (i + 1) d = some q ∧ q.first = (d : Int) :: t ∧ m.first = (c : Int) :: q.first ∧ (zss.getD i []).getD c 0 + q.cost = m.cost ∧
      ∀ e : Nat, e < d → (c : Int) ≠ e → ∀ q', tb zss Q (i + 1) e = some q' → (zss.getD i []).getD c 0 + q'.cost ≠ m.cost := by
  rw [tb_row hk hi hc] at h
  obtain ⟨l, hl, rfl⟩ := Option.map_eq_some_iff.1 h
  unfold accF at hl
  have hbeg : ∀ d ∈ cols k, ∀ m, nxF zss Q i c d = some m → ∃ t, m.first = d :: t := fun d hd m hm => by
    obtain ⟨d0, d1⟩ := mem_cols.1 hd
    obtain ⟨d', rfl⟩ : ∃ d' : Nat, d = d' := ⟨d.toNat, by omega⟩
    unfold nxF at hm
    split at hm
    · exact tb_head hk hi (by omega) hm
    · cases hm
  obtain ⟨d, hd, q, hq, h1, h2, h3, h4⟩ := fold_pick (nxF zss Q i c) (cols k) (cols_lt k) hbeg l hl
  obtain ⟨d0, d1⟩ := mem_cols.1 hd
  obtain ⟨d', rfl⟩ : ∃ d' : Nat, d = d' := ⟨d.toNat, by omega⟩
  obtain ⟨t, ht⟩ := hbeg _ hd q hq
  unfold nxF at hq
  split at hq
  · rename_i hne
    refine ⟨d', by omega, q, t, hne, hq, ht, by simp only [behE, List.cons_append, List.nil_append]; rw [h2], by simp only [behE]; omega, fun e he hce q' hq' => ?_⟩
    have := h3 (e : Int) (mem_cols.2 ⟨by omega, by omega⟩) (by omega) q' (by unfold nxF; rw [if_pos hce]; exact hq')
    simp only [behE]
    omega
  · cases hq
end
/-- the firsts: one colour more -/
theorem accF_first (g : Int → Option Le) (hb : ∀ d : Nat, ∀ m, g d = some m → ∃ t, m.first = (d : Int) :: t) (t : Nat) (m : Le) (hm : g t = some m) (l : Le) (hl : accF g t = some l) :
    accF g (t + 1) = if m.cost < l.cost then some m else if l.cost < m.cost then some l else some ⟨l.cost, l.count + m.count, l.first⟩ := by
  have hh : ∃ (h : Nat) (r : List Int), h < t ∧ l.first = (h : Int) :: r := accF_some g (fun l => ∃ (h : Nat) (r : List Int), h < t ∧ l.first = (h : Int) :: r) (fun a b ha hb => by
    unfold orE
    split
    · exact hb
    · split
      · exact ha
      · simp only [minL]; split
        · exact hb
        · exact ha) t (fun d hd m hm => by obtain ⟨r, hr⟩ := hb d m hm; exact ⟨d, r, hd, hr⟩) l hl
  obtain ⟨h, r, hlt, hf⟩ := hh
  obtain ⟨r', hf'⟩ := hb t m hm
  rw [accF_succ, hl, hm]
  simp only [orL, orE]
  split
  · rfl
  · split
    · rfl
    · congr 2
      have e : ltL m.first l.first = false := by
        rw [hf, hf', ltL, if_neg (by omega), if_pos (by omega)]
      unfold minL
      rw [e]
      rfl
end Go.Proofs.Rl
