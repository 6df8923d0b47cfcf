/-
  Chapter 7, plain mathematics: loots (rwLoots' order and the program's ways). No seat.
-/
import Derived.Test.YtjhpebihflcanaaRlQ
namespace Go.Proofs.Rl
set_option linter.unusedVariables false
set_option linter.unusedSimpArgs false
/-- m houses from i on; p: the one before is taken; z: the last one is barred -/
def loS : Nat → Int → Bool → Bool → List (List Int)
  | 0, _, _, _ => [[]]
  | m + 1, i, p, z => (if p || (m == 0 && z) then [] else (loS m (i + 1) true z).map (i :: ·)) ++ loS m (i + 1) false z
/-- the model's order, but the empty one -/
def loT : Nat → Int → Bool → Bool → List (List Int)
  | 0, _, _, _ => []
  | m + 1, i, p, z => (if p || (m == 0 && z) then [] else ([] :: loT m (i + 1) true z).map (i :: ·)) ++ loT m (i + 1) false z
theorem lo_perm : ∀ (m : Nat) (i : Int) (p z : Bool), ([] :: loT m i p z).Perm (loS m i p z)
  | 0, _, _, _ => List.Perm.refl _
  | m + 1, i, p, z => by
    unfold loT loS
    have h1 := lo_perm m (i + 1) true z
    have h2 := lo_perm m (i + 1) false z
    split
    · simp only [List.nil_append]; exact h2
    · exact (List.perm_middle.symm).trans ((h1.map _).append h2)
theorem loT_head : ∀ (m : Nat) (i : Int) (p z : Bool), ∀ s ∈ loT m i p z, ∃ a t, s = a :: t ∧ i ≤ a
  | 0, _, _, _, s, h => by simp [loT] at h
  | m + 1, i, p, z, s, h => by
    unfold loT at h
    rcases List.mem_append.1 h with h | h
    · split at h
      · simp at h
      · obtain ⟨t, _, rfl⟩ := List.mem_map.1 h
        exact ⟨i, t, rfl, Int.le_refl _⟩
    · obtain ⟨a, t, e, ha⟩ := loT_head m (i + 1) false z s h
      exact ⟨a, t, e, by omega⟩
theorem lo_sorted : ∀ (m : Nat) (i : Int) (p z : Bool), ([] :: loT m i p z).Pairwise fun a b => ltL a b = true
  | 0, _, _, _ => by simp [loT]
  | m + 1, i, p, z => by
    rw [List.pairwise_cons]
    refine ⟨?_, ?_⟩
    · intro s hs
      obtain ⟨a, t, rfl, _⟩ := loT_head _ _ _ _ s hs
      rfl
    · unfold loT
      have h1 := lo_sorted m (i + 1) true z
      have h2 := (List.pairwise_cons.1 (lo_sorted m (i + 1) false z)).2
      rw [List.pairwise_append]
      refine ⟨?_, h2, ?_⟩
      · split
        · exact List.Pairwise.nil
        · rw [List.pairwise_map]
          refine h1.imp ?_
          intro a b h
          rw [ltL, if_neg (by omega), if_neg (by omega)]; exact h
      · intro a ha b hb
        split at ha
        · simp at ha
        · obtain ⟨t, _, rfl⟩ := List.mem_map.1 ha
          obtain ⟨c, u, rfl, hc⟩ := loT_head _ _ _ _ b hb
          rw [ltL, if_pos (by omega)]
/-- in order, the first list of the least cost is the first one that is met -/
theorem agg_find : ∀ {u : List (Int × List Int)} {l : Le}, u.Pairwise (fun a b => ltL a.2 b.2 = true) → agg u = some l → u.find? (fun w => decide (w.1 = l.cost)) = some (l.cost, l.first) := by
  intro u l hs h
  obtain ⟨h1, h2, h3, h4⟩ := agg_is h
  clear h h1 h2
  induction u with
  | nil => simp at h3
  | cons w u ih =>
    obtain ⟨hw, hu⟩ := List.pairwise_cons.1 hs
    rw [List.find?_cons]
    by_cases e : w.1 = l.cost
    · rw [show decide (w.1 = l.cost) = true by simpa using e]
      simp only
      rcases List.mem_cons.1 h3 with h3 | h3
      · rw [h3]
      · have q := hw _ h3
        have k := h4 w (List.mem_cons_self ..) e
        simp only at q
        rw [q] at k; cases k
    · rw [show decide (w.1 = l.cost) = false by simpa using e]
      simp only
      rcases List.mem_cons.1 h3 with h3 | h3
      · rw [← h3] at e; exact absurd rfl e
      · exact ih hu h3 (fun x hx => h4 x (List.mem_cons_of_mem _ hx))
/-- the options of loots -/
def loO : List Int → Int → List (List Op)
  | [], _ => []
  | v :: vs, i => [⟨0, 0, []⟩, ⟨1, -v, [i]⟩] :: loO vs (i + 1)
def loF (a b : Int) : Bool := a == 0 || b == 0
/-- a list's cost: the values of its houses, the first one's number told -/
def loC (vs : List Int) (i : Int) (s : List Int) : Int := (s.map fun h => - vs.getD (h - i).toNat 0).sum
def loV (vs : List Int) (i : Int) (s : List Int) : Int × List Int := (loC vs i s, s)
theorem loS_ge : ∀ (m : Nat) (i : Int) (p z : Bool), ∀ s ∈ loS m i p z, ∀ h ∈ s, i ≤ h
  | 0, _, _, _, s, h => by simp [loS] at h; subst h; intro h hh; simp at hh
  | m + 1, i, p, z, s, h => by
    unfold loS at h
    rcases List.mem_append.1 h with h | h
    · split at h
      · simp at h
      · obtain ⟨t, ht, rfl⟩ := List.mem_map.1 h
        intro x hx
        rcases List.mem_cons.1 hx with rfl | hx
        · exact Int.le_refl _
        · have := loS_ge m (i + 1) true z t ht x hx; omega
    · intro x hx
      have := loS_ge m (i + 1) false z s h x hx; omega
theorem loC_next (v : Int) (vs : List Int) (i : Int) : ∀ (s : List Int), (∀ h ∈ s, i + 1 ≤ h) → loC (v :: vs) i s = loC vs (i + 1) s
  | [], _ => rfl
  | h :: s, hs => by
    have ih := loC_next v vs i s (fun x hx => hs x (List.mem_cons_of_mem _ hx))
    have h0 := hs h (List.mem_cons_self ..)
    unfold loC at ih ⊢
    rw [List.map_cons, List.map_cons, List.sum_cons, List.sum_cons, ih]
    have e : (h - i).toNat = (h - (i + 1)).toNat + 1 := by omega
    rw [e, List.getD_cons_succ]
theorem loC_cons (v : Int) (vs : List Int) (i : Int) (s : List Int) (hs : ∀ h ∈ s, i + 1 ≤ h) : loC (v :: vs) i (i :: s) = loC vs (i + 1) s + -v := by
  rw [← loC_next v vs i s hs]
  unfold loC
  rw [List.map_cons, List.sum_cons, Int.sub_self, Int.toNat_zero, List.getD_cons_zero]; omega
theorem lo_f : ∀ (vs : List Int) (i : Int), ∀ w ∈ ways loF (loO vs i), w.f ∈ [(0 : Int), 1]
  | [], _, w, h => by simp [loO, ways] at h
  | [v], i, w, h => by
    simp only [loO, ways, List.map_cons, List.map_nil, List.mem_cons, List.not_mem_nil, or_false] at h
    rcases h with rfl | rfl <;> simp [Op.wy]
  | v :: u :: vs, i, w, h => by
    simp only [loO, ways, lead, List.flatMap_cons, List.flatMap_nil, List.mem_append, List.mem_map, List.not_mem_nil, or_false] at h
    rcases h with ⟨x, _, rfl⟩ | ⟨x, _, rfl⟩ <;> simp [Op.on]
theorem lo_dif (v i : Int) : Dif [⟨0, 0, []⟩, ⟨1, -v, [i]⟩] := by
  unfold Dif; simp
/-- what the table holds: the loots of the houses from i on -/
theorem lo_tab (z : Bool) : ∀ (vs : List Int) (i : Int), vs ≠ [] →
    PB loF (loO vs i) (fun l => !(z && l == 1)) 0 = agg ((loS vs.length i true z).map (loV vs i)) ∧
    orL (PB loF (loO vs i) (fun l => !(z && l == 1)) 0) (PB loF (loO vs i) (fun l => !(z && l == 1)) 1) = agg ((loS vs.length i false z).map (loV vs i))
  | [], _, h => absurd rfl h
  | [v], i, _ => by
    have a := PB_last loF _ (fun l => !(z && l == 1)) (lo_dif v i) ⟨0, 0, []⟩ (List.mem_cons_self ..)
    have b := PB_last loF _ (fun l => !(z && l == 1)) (lo_dif v i) ⟨1, -v, [i]⟩ (by simp)
    simp only at a b
    unfold loO loO
    rw [a, b]
    cases z <;> simp [loS, agg, loV, loC, orL, orL_comm]
    · rw [orE_comm]
  | v :: u :: vs, i, _ => by
    obtain ⟨h1, h2⟩ := lo_tab z (u :: vs) (i + 1) (by simp)
    have hr : loO (u :: vs) (i + 1) ≠ [] := by simp [loO]
    have a := PB_cons loF _ (loO (u :: vs) (i + 1)) hr (fun l => !(z && l == 1)) (lo_dif v i) ⟨0, 0, []⟩ (List.mem_cons_self ..) [0, 1] (by simp) (lo_f _ _)
    have b := PB_cons loF _ (loO (u :: vs) (i + 1)) hr (fun l => !(z && l == 1)) (lo_dif v i) ⟨1, -v, [i]⟩ (by simp) [0, 1] (by simp) (lo_f _ _)
    have beh0 : ∀ (x : Option Le), x.map (behE 0 []) = x := by intro x; cases x <;> simp [behE]
    have f00 : loF 0 0 = true := rfl
    have f01 : loF 0 1 = true := rfl
    have f10 : loF 1 0 = true := rfl
    have f11 : loF 1 1 = false := rfl
    simp only [List.map_cons, List.map_nil, List.foldr_cons, List.foldr_nil, f00, f01, f10, f11, if_true, beh0, orL_none, Bool.false_eq_true, if_false] at a b
    rw [h2] at a
    rw [h1] at b
    have e : loO (v :: u :: vs) i = [⟨0, 0, []⟩, ⟨1, -v, [i]⟩] :: loO (u :: vs) (i + 1) := rfl
    rw [e, a, b]
    have c1 : agg ((loS (u :: vs).length (i + 1) false z).map (loV (u :: vs) (i + 1))) = agg ((loS (u :: vs).length (i + 1) false z).map (loV (v :: u :: vs) i)) := by
      congr 1
      refine List.map_congr_left ?_
      intro s hs
      unfold loV
      rw [loC_next v (u :: vs) i s (loS_ge _ _ _ _ s hs)]
    have c2 : (agg ((loS (u :: vs).length (i + 1) true z).map (loV (u :: vs) (i + 1)))).map (behE (-v) [i]) = agg (((loS (u :: vs).length (i + 1) true z).map (i :: ·)).map (loV (v :: u :: vs) i)) := by
      rw [← agg_beh, List.map_map, List.map_map]
      congr 1
      refine List.map_congr_left ?_
      intro s hs
      simp only [Function.comp, loV]
      rw [loC_cons v (u :: vs) i s (loS_ge _ _ _ _ s hs)]
      rfl
    rw [c1, c2]
    have n0 : ((u :: vs).length == 0) = false := rfl
    have n1 : (v :: u :: vs).length = (u :: vs).length + 1 := rfl
    rw [n1]
    refine ⟨?_, ?_⟩
    · conv => rhs; unfold loS
      simp
    · conv => rhs; unfold loS
      rw [n0]
      simp only [Bool.false_or, Bool.false_and, Bool.false_eq_true, if_false, List.map_append, agg_app]
      rw [orL_comm]
/-- those in which the first house is taken -/
theorem lo_tab1 (z : Bool) (v u : Int) (vs : List Int) (i : Int) :
    PB loF (loO (v :: u :: vs) i) (fun l => !(z && l == 1)) 1 = agg (((loS (u :: vs).length (i + 1) true z).map (i :: ·)).map (loV (v :: u :: vs) i)) := by
  obtain ⟨h1, h2⟩ := lo_tab z (u :: vs) (i + 1) (by simp)
  have hr : loO (u :: vs) (i + 1) ≠ [] := by simp [loO]
  have b := PB_cons loF _ (loO (u :: vs) (i + 1)) hr (fun l => !(z && l == 1)) (lo_dif v i) ⟨1, -v, [i]⟩ (by simp) [0, 1] (by simp) (lo_f _ _)
  have f10 : loF 1 0 = true := rfl
  have f11 : loF 1 1 = false := rfl
  simp only [List.map_cons, List.map_nil, List.foldr_cons, List.foldr_nil, f10, f11, if_true, orL_none, Bool.false_eq_true, if_false] at b
  rw [h1] at b
  have e : loO (v :: u :: vs) i = [⟨0, 0, []⟩, ⟨1, -v, [i]⟩] :: loO (u :: vs) (i + 1) := rfl
  rw [e, b, ← agg_beh, List.map_map, List.map_map]
  congr 1
  refine List.map_congr_left ?_
  intro s hs
  simp only [Function.comp, loV]
  rw [loC_cons v (u :: vs) i s (loS_ge _ _ _ _ s hs)]
  rfl
theorem lo_l : ∀ (vs : List Int) (i : Int), ∀ w ∈ ways loF (loO vs i), w.l = 0 ∨ w.l = 1
  | [], _, w, h => by simp [loO, ways] at h
  | [v], i, w, h => by
    simp only [loO, ways, List.map_cons, List.map_nil, List.mem_cons, List.not_mem_nil, or_false] at h
    rcases h with rfl | rfl <;> simp [Op.wy]
  | v :: u :: vs, i, w, h => by
    have hr : ways loF (loO (v :: u :: vs) i) = lead loF [⟨0, 0, []⟩, ⟨1, -v, [i]⟩] (ways loF (loO (u :: vs) (i + 1))) := rfl
    rw [hr] at h
    simp only [lead, List.flatMap_cons, List.flatMap_nil, List.mem_append, List.mem_map, List.not_mem_nil, or_false] at h
    rcases h with ⟨x, hx, rfl⟩ | ⟨x, hx, rfl⟩ <;> exact lo_l (u :: vs) (i + 1) x (List.mem_filter.1 hx).1
theorem PB_congr (fits : Int → Int → Bool) (opts : List (List Op)) (Q Q' : Int → Bool) (c : Int) (h : ∀ w ∈ ways fits opts, Q w.l = Q' w.l) : PB fits opts Q c = PB fits opts Q' c := by
  unfold PB
  refine agg_congr _ ?_
  intro w hw
  rw [h w hw]
/-- all loots of n houses, in the model's order -/
def loU : Nat → Bool → List (List Int)
  | 0, _ => [[]]
  | m + 1, z => [] :: ((([] :: loT m 1 true z).map (0 :: ·)) ++ loT m 1 false false)
theorem loU_sorted (m : Nat) (z : Bool) : (loU m z).Pairwise fun a b => ltL a b = true := by
  cases m with
  | zero => simp [loU]
  | succ m =>
    unfold loU
    rw [List.pairwise_cons]
    refine ⟨?_, ?_⟩
    · intro s hs
      rcases List.mem_append.1 hs with hs | hs
      · obtain ⟨t, _, rfl⟩ := List.mem_map.1 hs; rfl
      · obtain ⟨a, t, rfl, _⟩ := loT_head _ _ _ _ s hs; rfl
    · rw [List.pairwise_append]
      refine ⟨?_, (List.pairwise_cons.1 (lo_sorted m 1 false false)).2, ?_⟩
      · rw [List.pairwise_map]
        refine (lo_sorted m 1 true z).imp ?_
        intro a b h
        rw [ltL, if_neg (by omega), if_neg (by omega)]; exact h
      · intro a ha b hb
        obtain ⟨t, _, rfl⟩ := List.mem_map.1 ha
        obtain ⟨c, u, rfl, hc⟩ := loT_head _ _ _ _ b hb
        rw [ltL, if_pos (by omega)]
/-- what leastOf comes to over the options of loots -/
theorem lo_all (vs : List Int) (z : Bool) (hv : vs ≠ []) (hz : z = true → 2 ≤ vs.length) :
    LE (fun k => !z || loF k.2 k.1) (ways loF (loO vs 0)) (fun _ => true) = agg ((loU vs.length z).map (loV vs 0)) := by
  rw [LE_first loF (loO vs 0) _ [0, 1] (by simp) (lo_f vs 0)]
  simp only [List.map_cons, List.map_nil, List.foldr_cons, List.foldr_nil, orL_none]
  have e0 : PB loF (loO vs 0) (fun l => !z || loF l 0) 0 = PB loF (loO vs 0) (fun l => !(false && l == 1)) 0 :=
    PB_congr _ _ _ _ _ (fun w hw => by rcases lo_l vs 0 w hw with h | h <;> simp [loF])
  have e1 : PB loF (loO vs 0) (fun l => !z || loF l 1) 1 = PB loF (loO vs 0) (fun l => !(z && l == 1)) 1 :=
    PB_congr _ _ _ _ _ (fun w hw => by rcases lo_l vs 0 w hw with h | h <;> rw [h] <;> simp [loF])
  rw [e0, e1]
  match vs, hv, hz with
  | [v], _, hz =>
    have hz' : z = false := by
      cases z
      · rfl
      · have := hz rfl; simp at this
    subst hz'
    obtain ⟨h1, h2⟩ := lo_tab false [v] 0 (by simp)
    rw [h2]
    refine agg_perm (List.Perm.map _ ?_)
    simp only [List.length_cons, List.length_nil, loS, loU, loT, Bool.false_or, Bool.and_false, Bool.false_eq_true, if_false, List.map_cons, List.map_nil, List.cons_append, List.nil_append]
    exact List.Perm.swap _ _ _
  | v :: u :: vs, _, _ =>
    obtain ⟨h1, h2⟩ := lo_tab false (v :: u :: vs) 0 (by simp)
    rw [h1, lo_tab1, ← agg_app, ← List.map_append]
    refine agg_perm (List.Perm.map _ ?_)
    have n1 : (v :: u :: vs).length = (u :: vs).length + 1 := rfl
    rw [n1]
    generalize (u :: vs).length = m
    have eS : loS (m + 1) 0 true false = loS m 1 false false := by
      conv => lhs; unfold loS
      simp
    rw [eS]
    simp only [loU, Int.zero_add]
    have p1 := lo_perm m 1 true z
    have p2 := lo_perm m 1 false false
    refine (List.perm_append_comm).trans ?_
    refine ((p1.symm.map _).append p2.symm).trans ?_
    exact List.perm_middle
end Go.Proofs.Rl
