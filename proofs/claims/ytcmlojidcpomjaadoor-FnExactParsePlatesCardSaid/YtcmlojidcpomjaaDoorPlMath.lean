/-
  Plain words of chapter 2: plates as pairs of numbers, their ranks, lists of them that are in order, one put in, two lists joined. No program's text here.
-/
namespace Pl
set_option linter.unusedVariables false
abbrev Pr := Int × Int
def rk (p : Pr) : Int := 27 * p.1 + p.2
def IsP (p : Pr) : Prop := 1 ≤ p.1 ∧ p.1 ≤ 9999 ∧ 0 ≤ p.2 ∧ p.2 ≤ 26
instance (p : Pr) : Decidable (IsP p) := by unfold IsP; infer_instance
theorem rk_inj {p q : Pr} (hp : IsP p) (hq : IsP q) (h : rk p = rk q) : p = q := by
  obtain ⟨a, b⟩ := p; obtain ⟨c, d⟩ := q
  unfold IsP at hp hq; unfold rk at h; simp only at hp hq h
  ext <;> simp only <;> omega
theorem rk_bd {p : Pr} (hp : IsP p) : 27 ≤ rk p ∧ rk p ≤ 269999 := by unfold IsP at hp; unfold rk; omega
def Up (ps : List Pr) : Prop := ps.Pairwise fun p q => rk p < rk q
/-- plates: as many as may be, each one a plate, in order -/
def Ok (ps : List Pr) : Prop := 1 ≤ ps.length ∧ ps.length ≤ 60 ∧ (∀ p ∈ ps, IsP p) ∧ Up ps
def okP (ps : List Pr) : Bool := ps.all (fun p => decide (IsP p))
/-- the test that goes along the list -/
def stepOk (ps : List Pr) (j : Nat) : Prop := IsP (ps.getD j (0, 0)) ∧ (0 < j → rk (ps.getD (j - 1) (0, 0)) < rk (ps.getD j (0, 0)))
theorem getD_eq (ps : List Pr) (j : Nat) (h : j < ps.length) : ps.getD j (0, 0) = ps[j] := by simp [List.getD, h]
theorem ok_iff (ps : List Pr) : Ok ps ↔ 1 ≤ ps.length ∧ ps.length ≤ 60 ∧ ∀ j, j < ps.length → stepOk ps j := by
  unfold Ok
  refine and_congr_right fun _ => and_congr_right fun _ => ?_
  constructor
  · rintro ⟨h1, h2⟩ j hj
    refine ⟨by rw [getD_eq _ _ hj]; exact h1 _ (List.getElem_mem hj), fun hpos => ?_⟩
    rw [getD_eq _ _ hj, getD_eq _ _ (by omega)]
    exact (List.pairwise_iff_getElem.1 h2) (j - 1) j (by omega) hj (by omega)
  · intro h
    refine ⟨fun p hp => ?_, ?_⟩
    · obtain ⟨j, hj, rfl⟩ := List.getElem_of_mem hp
      have := (h j hj).1
      rwa [getD_eq _ _ hj] at this
    · refine List.pairwise_iff_getElem.2 fun i j hi hj hij => ?_
      have key : ∀ d, ∀ (h1 : i + d + 1 < ps.length), rk ps[i] < rk (ps[i + d + 1]'h1) := by
        intro d
        induction d with
        | zero =>
          intro h1
          have := (h (i + 1) h1).2 (by omega)
          rw [getD_eq _ _ h1, getD_eq _ _ (by omega)] at this
          exact this
        | succ d ih =>
          intro h1
          have a := ih (by omega)
          have b := (h (i + (d + 1) + 1) h1).2 (by omega)
          rw [getD_eq _ _ h1, getD_eq _ _ (by omega)] at b
          exact Int.lt_trans a b
      obtain ⟨d, rfl⟩ : ∃ d, j = i + d + 1 := ⟨j - i - 1, by omega⟩
      exact key d hj
/-- how many come before p: what a search from the first one on finds -/
def plc (ps : List Pr) (p : Pr) : Nat := (ps.takeWhile (fun q => decide (rk q < rk p))).length
theorem plc_le (ps : List Pr) (p : Pr) : plc ps p ≤ ps.length := by
  unfold plc
  exact (List.takeWhile_prefix _).length_le
theorem plc_before (ps : List Pr) (p : Pr) (j : Nat) (h : j < plc ps p) : rk (ps.getD j (0, 0)) < rk p := by
  induction ps generalizing j with
  | nil => simp [plc] at h
  | cons q qs ih =>
    by_cases hq : rk q < rk p
    · have e : plc (q :: qs) p = plc qs p + 1 := by simp [plc, hq]
      cases j with
      | zero => exact hq
      | succ j => exact ih j (by omega)
    · have e : plc (q :: qs) p = 0 := by simp [plc, hq]
      omega
theorem plc_at (ps : List Pr) (p : Pr) (h : plc ps p < ps.length) : ¬ rk (ps.getD (plc ps p) (0, 0)) < rk p := by
  intro hlt
  rw [getD_eq _ _ h] at hlt
  induction ps with
  | nil => simp at h
  | cons q qs ih =>
    by_cases hq : rk q < rk p
    · have e : plc (q :: qs) p = plc qs p + 1 := by simp [plc, hq]
      have h' : plc qs p < qs.length := by rw [e] at h; simpa using h
      refine ih h' ?_
      have : (q :: qs)[plc (q :: qs) p] = qs[plc qs p] := by simp only [e, List.getElem_cons_succ]
      rw [← this]; exact hlt
    · have e : plc (q :: qs) p = 0 := by simp [plc, hq]
      have : (q :: qs)[plc (q :: qs) p] = q := by simp only [e, List.getElem_cons_zero]
      rw [this] at hlt
      exact hq hlt
theorem plc_eq (ps : List Pr) (p : Pr) (k : Nat) (hk : k ≤ ps.length) (hb : ∀ j, j < k → rk (ps.getD j (0, 0)) < rk p) (ha : k < ps.length → ¬ rk (ps.getD k (0, 0)) < rk p) : k = plc ps p := by
  have hl := plc_le ps p
  rcases Nat.lt_trichotomy k (plc ps p) with h | h | h
  · exact absurd (plc_before ps p k h) (ha (by omega))
  · exact h
  · exact absurd (hb _ h) (plc_at ps p (by omega))
def ins (ps : List Pr) (p : Pr) : List Pr := ps.take (plc ps p) ++ p :: ps.drop (plc ps p)
theorem ins_perm (ps : List Pr) (p : Pr) : (ins ps p).Perm (p :: ps) := by
  unfold ins
  refine List.perm_middle.trans ?_
  rw [List.take_append_drop]
theorem ins_len (ps : List Pr) (p : Pr) : (ins ps p).length = ps.length + 1 := by simpa using (ins_perm ps p).length_eq
/-- the one at its place is it: it is there -/
def Has (ps : List Pr) (p : Pr) : Prop := plc ps p < ps.length ∧ ps.getD (plc ps p) (0, 0) = p
instance (ps : List Pr) (p : Pr) : Decidable (Has ps p) := by unfold Has; infer_instance
theorem has_mem {ps : List Pr} {p : Pr} (h : Has ps p) : p ∈ ps := by
  obtain ⟨h1, h2⟩ := h
  rw [getD_eq _ _ h1] at h2
  exact h2 ▸ List.getElem_mem h1
theorem mem_has {ps : List Pr} {p : Pr} (hu : Up ps) (hi : ∀ q ∈ ps, IsP q) (h : p ∈ ps) : Has ps p := by
  obtain ⟨j, hj, e⟩ := List.getElem_of_mem h
  have hk : j = plc ps p := plc_eq ps p j (by omega) (fun i hi' => by
      rw [getD_eq _ _ (by omega), ← e]
      exact (List.pairwise_iff_getElem.1 hu) i j (by omega) hj hi') (fun _ => by rw [getD_eq _ _ hj, e]; omega)
  exact ⟨by omega, by rw [← hk, getD_eq _ _ hj, e]⟩
theorem up_ins {ps : List Pr} {p : Pr} (hu : Up ps) (hi : ∀ q ∈ ps, IsP q) (hp : IsP p) (hn : ¬ Has ps p) : Up (ins ps p) := by
  have hl := plc_le ps p
  unfold Up ins
  rw [List.pairwise_append]
  have hbef : ∀ q ∈ ps.take (plc ps p), rk q < rk p := by
    intro q hq
    obtain ⟨j, hj, rfl⟩ := List.getElem_of_mem hq
    have hj' : j < plc ps p := by simp at hj; omega
    have := plc_before ps p j hj'
    rw [getD_eq _ _ (by omega)] at this
    simpa using this
  have haft : ∀ q ∈ ps.drop (plc ps p), rk p < rk q := by
    intro q hq
    obtain ⟨j, hj, rfl⟩ := List.getElem_of_mem hq
    simp only [List.length_drop] at hj
    have h0 := plc_at ps p (by omega)
    rw [getD_eq _ _ (by omega)] at h0
    have hne : rk (ps[plc ps p]'(by omega)) ≠ rk p := fun e => hn ⟨by omega, by
      rw [getD_eq _ _ (by omega)]
      exact rk_inj (hi _ (List.getElem_mem _)) hp e⟩
    rw [List.getElem_drop]
    rcases Nat.eq_zero_or_pos j with e | e
    · subst e; simp only [Nat.add_zero]; omega
    · have := (List.pairwise_iff_getElem.1 hu) (plc ps p) (plc ps p + j) (by omega) (by omega) (by omega)
      omega
  refine ⟨hu.sublist (List.take_sublist _ _), ?_, ?_⟩
  · rw [List.pairwise_cons]
    exact ⟨haft, hu.sublist (List.drop_sublist _ _)⟩
  · intro q hq r hr
    rcases List.mem_cons.1 hr with e | e
    · subst e; exact hbef q hq
    · have := hbef q hq; have := haft r e; omega
theorem isp_ins {ps : List Pr} {p : Pr} (hi : ∀ q ∈ ps, IsP q) (hp : IsP p) : ∀ q ∈ ins ps p, IsP q := by
  intro q hq
  rcases List.mem_cons.1 ((ins_perm ps p).mem_iff.1 hq) with e | e
  · subst e; exact hp
  · exact hi q e
/-- one that is there is there twice when it is put in once more: that is no list of plates -/
theorem not_up_dup {ps qs : List Pr} {p : Pr} (h : ps.Perm (p :: qs)) (hm : p ∈ qs) : ¬ Up ps := by
  intro hu
  have hn : (ps.map rk).Nodup := by
    rw [List.nodup_iff_pairwise_ne, List.pairwise_map]
    exact hu.imp fun h => by omega
  have hp : (ps.map rk).Perm (rk p :: qs.map rk) := by simpa using h.map rk
  have := hp.nodup_iff.1 hn
  exact (List.nodup_cons.1 this).1 (List.mem_map.2 ⟨p, hm, rfl⟩)
/-- all of b put into a, one after the other -/
def joinTo (a b : List Pr) (i : Nat) : List Pr := (b.take i).foldl ins a
theorem joinTo_zero (a b : List Pr) : joinTo a b 0 = a := by simp [joinTo]
theorem joinTo_succ (a b : List Pr) (i : Nat) (h : i < b.length) : joinTo a b (i + 1) = ins (joinTo a b i) (b.getD i (0, 0)) := by
  unfold joinTo
  rw [List.take_succ_eq_append_getElem h, List.foldl_append, getD_eq _ _ h]
  rfl
theorem joinTo_perm (a b : List Pr) (i : Nat) : (joinTo a b i).Perm (a ++ b.take i) := by
  unfold joinTo
  generalize b.take i = c
  induction c generalizing a with
  | nil => simp
  | cons p c ih =>
    rw [List.foldl_cons]
    refine (ih _).trans ?_
    refine ((ins_perm a p).append_right c).trans ?_
    exact List.perm_middle.symm
theorem joinTo_len (a b : List Pr) (i : Nat) (h : i ≤ b.length) : (joinTo a b i).length = a.length + i := by
  have := (joinTo_perm a b i).length_eq
  simp at this
  omega
def join (a b : List Pr) : List Pr := joinTo a b b.length
/-- a step that fails: all of them are no plates -/
theorem join_bad (a b : List Pr) (i : Nat) (h : i < b.length) (hb : Has (joinTo a b i) (b.getD i (0, 0)) ∨ 60 ≤ (joinTo a b i).length) : ¬ Ok (join a b) := by
  rintro ⟨_, h2, _, h4⟩
  rcases hb with hb | hb
  · have hm := has_mem hb
    have hm' := (joinTo_perm a b i).mem_iff.1 hm
    have hp : (join a b).Perm (b.getD i (0, 0) :: (a ++ b.take i ++ b.drop (i + 1))) := by
      refine (joinTo_perm a b b.length).trans ?_
      rw [List.take_of_length_le (Nat.le_refl _)]
      have : b = b.take i ++ b[i] :: b.drop (i + 1) := by
        rw [← List.drop_eq_getElem_cons h, List.take_append_drop]
      rw [getD_eq _ _ h]
      refine (List.Perm.append_left a (List.Perm.of_eq this)).trans ?_
      rw [← List.append_assoc]
      exact List.perm_middle
    exact not_up_dup hp (List.mem_append_left _ hm') h4
  · have := joinTo_len a b i (by omega)
    have := joinTo_len a b b.length (Nat.le_refl _)
    unfold join at h2
    omega
theorem join_step {a b : List Pr} {i : Nat} (h : i < b.length) (hpb : ∀ q ∈ b, IsP q) (hi : ∀ q ∈ joinTo a b i, IsP q) (hu : Up (joinTo a b i)) (hn : ¬ Has (joinTo a b i) (b.getD i (0, 0))) :
    (∀ q ∈ joinTo a b (i + 1), IsP q) ∧ Up (joinTo a b (i + 1)) := by
  have hp : IsP (b.getD i (0, 0)) := by rw [getD_eq _ _ h]; exact hpb _ (List.getElem_mem _)
  rw [joinTo_succ a b i h]
  exact ⟨isp_ins hi hp, up_ins hu hi hp hn⟩
/-- one put in: plates just if there is room and it is not there -/
theorem ins_ok {ps : List Pr} {p : Pr} (h : Ok ps) (hp : IsP p) : Ok (ins ps p) ↔ ¬ (Has ps p ∨ 60 ≤ ps.length) := by
  obtain ⟨h1, h2, h3, h4⟩ := h
  constructor
  · intro hk
    have := join_bad ps [p] 0 (by simp)
    simp only [join, joinTo, List.take_zero, List.foldl_nil, List.length_singleton] at this
    intro hb
    exact this (by simpa using hb) (by simpa using hk)
  · intro hn
    have hl := ins_len ps p
    refine ⟨by omega, ?_, isp_ins h3 hp, up_ins h4 h3 hp (fun hh => hn (.inl hh))⟩
    have : ¬ 60 ≤ ps.length := fun hh => hn (.inr hh)
    omega
theorem join_one (ps : List Pr) (p : Pr) : join ps [p] = ins ps p := by simp [join, joinTo]
end Pl
