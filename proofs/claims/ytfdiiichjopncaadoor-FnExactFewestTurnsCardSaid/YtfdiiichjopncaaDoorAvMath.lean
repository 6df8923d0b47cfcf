/-
  Plain words of chapter 4: blocks, their order, lists of them that are in order, one put in, one taken out; steps in a city. No program's text here.
-/
namespace Av
set_option linter.unusedVariables false
set_option linter.unusedSimpArgs false
abbrev Blk := Int × Int × Bool
def b0 : Blk := (0, 0, false)
def up (b : Blk) : Int := if b.2.2 then 1 else 0
theorem up_b (b : Blk) : up b = 0 ∧ b.2.2 = false ∨ up b = 1 ∧ b.2.2 = true := by unfold up; cases b.2.2 <;> simp
def IsB (W H : Int) (b : Blk) : Prop := 0 ≤ b.1 ∧ b.1 + 1 - up b ≤ W - 1 ∧ 0 ≤ b.2.1 ∧ b.2.1 + up b ≤ H - 1
instance (W H : Int) (b : Blk) : Decidable (IsB W H b) := by unfold IsB; infer_instance
def Lt (a b : Blk) : Prop := a.1 < b.1 ∨ a.1 = b.1 ∧ (a.2.1 < b.2.1 ∨ a.2.1 = b.2.1 ∧ up a < up b)
instance (a b : Blk) : Decidable (Lt a b) := by unfold Lt; infer_instance
theorem lt_irrefl (a : Blk) : ¬ Lt a a := by unfold Lt; omega
theorem lt_trans {a b c : Blk} (h1 : Lt a b) (h2 : Lt b c) : Lt a c := by unfold Lt at *; omega
theorem lt_asymm {a b : Blk} (h1 : Lt a b) : ¬ Lt b a := fun h2 => lt_irrefl a (lt_trans h1 h2)
theorem eq_of {a b : Blk} (h1 : ¬ Lt a b) (h2 : ¬ Lt b a) : a = b := by
  obtain ⟨a1, a2, a3⟩ := a
  obtain ⟨c1, c2, c3⟩ := b
  unfold Lt up at h1 h2
  simp only at h1 h2
  have e1 : a1 = c1 := by omega
  have e2 : a2 = c2 := by omega
  have e3 : a3 = c3 := by cases a3 <;> cases c3 <;> simp at h1 h2 ⊢ <;> omega
  rw [e1, e2, e3]
theorem lt_total (a b : Blk) : Lt a b ∨ a = b ∨ Lt b a := by
  by_cases h1 : Lt a b
  · exact .inl h1
  · by_cases h2 : Lt b a
    · exact .inr (.inr h2)
    · exact .inr (.inl (eq_of h1 h2))
def sg (x y : Int) : Int := if x < y then -1 else if y < x then 1 else 0
def orI (x y : Int) : Int := if x = 0 then y else x
def cmpB (a b : Blk) : Int := orI (sg a.1 b.1) (orI (sg a.2.1 b.2.1) (sg (up a) (up b)))
theorem cmp_lt {a b : Blk} : cmpB a b = -1 ↔ Lt a b := by
  unfold cmpB orI sg Lt
  split <;> (try split) <;> (try split) <;> omega
theorem cmp_neg {a b : Blk} : cmpB a b < 0 ↔ Lt a b := by
  unfold cmpB orI sg Lt
  split <;> (try split) <;> (try split) <;> omega
theorem cmp_range (a b : Blk) : cmpB a b = -1 ∨ cmpB a b = 0 ∨ cmpB a b = 1 := by
  unfold cmpB orI sg
  split <;> (try split) <;> (try split) <;> omega
theorem cmp_gt {a b : Blk} : 0 < cmpB a b ↔ Lt b a := by
  unfold cmpB orI sg Lt
  split <;> (try split) <;> (try split) <;> omega
theorem cmp_eq {a b : Blk} : cmpB a b = 0 ↔ a = b := by
  constructor
  · intro h
    exact eq_of (fun q => by have := cmp_lt.2 q; omega) (fun q => by have := cmp_gt.2 q; omega)
  · intro h
    subst h
    have h1 := mt cmp_lt.1 (lt_irrefl a)
    have h2 := mt cmp_gt.1 (lt_irrefl a)
    rcases cmp_range a a with q | q | q <;> omega
def Up (cl : List Blk) : Prop := cl.Pairwise Lt
/-- a city -/
def Ok (W H : Int) (cl : List Blk) : Prop := 1 ≤ W ∧ W ≤ 8 ∧ 1 ≤ H ∧ H ≤ 8 ∧ cl.length ≤ 30 ∧ (∀ b ∈ cl, IsB W H b) ∧ Up cl
instance (W H : Int) (cl : List Blk) : Decidable (Ok W H cl) := by unfold Ok Up; infer_instance
def okB (W H : Int) (cl : List Blk) : Bool := decide (Ok W H cl)
theorem getD_eq (cl : List Blk) (j : Nat) (h : j < cl.length) : cl.getD j b0 = cl[j] := by simp [List.getD, h]
theorem getD_mem (cl : List Blk) (j : Nat) (h : j < cl.length) : cl.getD j b0 ∈ cl := by rw [getD_eq _ _ h]; exact List.getElem_mem h
/-- the test that goes along the list -/
def stepOk (W H : Int) (cl : List Blk) (j : Nat) : Prop := IsB W H (cl.getD j b0) ∧ (0 < j → Lt (cl.getD (j - 1) b0) (cl.getD j b0))
theorem up_iff (cl : List Blk) : Up cl ↔ ∀ j, j < cl.length → 0 < j → Lt (cl.getD (j - 1) b0) (cl.getD j b0) := by
  constructor
  · intro h2 j hj hpos
    rw [getD_eq _ _ hj, getD_eq _ _ (by omega)]
    exact (List.pairwise_iff_getElem.1 h2) (j - 1) j (by omega) hj (by omega)
  · intro h
    refine List.pairwise_iff_getElem.2 fun i j hi hj hij => ?_
    have key : ∀ d, ∀ (h1 : i + d + 1 < cl.length), Lt cl[i] (cl[i + d + 1]'h1) := by
      intro d
      induction d with
      | zero =>
        intro h1
        have := h (i + 1) h1 (by omega)
        rw [getD_eq _ _ h1, getD_eq _ _ (by omega)] at this
        exact this
      | succ d ih =>
        intro h1
        have a := ih (by omega)
        have b := h (i + (d + 1) + 1) h1 (by omega)
        rw [getD_eq _ _ h1, getD_eq _ _ (by omega)] at b
        exact lt_trans a b
    obtain ⟨d, rfl⟩ : ∃ d, j = i + d + 1 := ⟨j - i - 1, by omega⟩
    exact key d hj
theorem ok_iff (W H : Int) (cl : List Blk) : Ok W H cl ↔ 1 ≤ W ∧ W ≤ 8 ∧ 1 ≤ H ∧ H ≤ 8 ∧ cl.length ≤ 30 ∧ ∀ j, j < cl.length → stepOk W H cl j := by
  unfold Ok
  refine and_congr_right fun _ => and_congr_right fun _ => and_congr_right fun _ => and_congr_right fun _ => and_congr_right fun _ => ?_
  constructor
  · rintro ⟨h1, h2⟩ j hj
    exact ⟨h1 _ (getD_mem _ _ hj), (up_iff cl).1 h2 j hj⟩
  · intro h
    refine ⟨fun p hp => ?_, (up_iff cl).2 fun j hj => (h j hj).2⟩
    obtain ⟨j, hj, rfl⟩ := List.getElem_of_mem hp
    have := (h j hj).1
    rwa [getD_eq _ _ hj] at this
/-- how many come before b -/
def plc (cl : List Blk) (b : Blk) : Nat := (cl.takeWhile (fun q => decide (Lt q b))).length
theorem plc_le (cl : List Blk) (b : Blk) : plc cl b ≤ cl.length := (List.takeWhile_prefix _).length_le
theorem plc_before (cl : List Blk) (b : Blk) (j : Nat) (h : j < plc cl b) : Lt (cl.getD j b0) b := by
  induction cl generalizing j with
  | nil => simp [plc] at h
  | cons q qs ih =>
    unfold plc at h
    rw [List.takeWhile_cons] at h
    by_cases hq : Lt q b
    · simp only [hq, decide_true, if_true, List.length_cons] at h
      cases j with
      | zero => exact hq
      | succ j => exact ih j (by unfold plc; omega)
    · simp [hq] at h
theorem plc_at (cl : List Blk) (b : Blk) (h : plc cl b < cl.length) : ¬ Lt (cl.getD (plc cl b) b0) b := by
  induction cl with
  | nil => simp at h
  | cons q qs ih =>
    unfold plc at h ⊢
    rw [List.takeWhile_cons] at h ⊢
    by_cases hq : Lt q b
    · simp only [hq, decide_true, if_true, List.length_cons] at h ⊢
      exact ih (by unfold plc; omega)
    · simp [hq]
theorem plc_behind {cl : List Blk} (hu : Up cl) (b : Blk) (j : Nat) (h : plc cl b ≤ j) (hj : j < cl.length) : ¬ Lt (cl.getD j b0) b := by
  rcases Nat.lt_or_eq_of_le h with c | c
  · have h1 := plc_at cl b (by omega)
    intro h2
    have h3 : Lt (cl.getD (plc cl b) b0) (cl.getD j b0) := by
      rw [getD_eq _ _ hj, getD_eq _ _ (by omega)]
      exact (List.pairwise_iff_getElem.1 hu) _ _ (by omega) hj c
    exact h1 (lt_trans h3 h2)
  · subst c; exact plc_at cl b hj
theorem plc_eq (cl : List Blk) (b : Blk) (i : Nat) (hi : i ≤ cl.length) (h1 : ∀ k, k < i → Lt (cl.getD k b0) b) (h2 : i < cl.length → ¬ Lt (cl.getD i b0) b) : plc cl b = i := by
  rcases Nat.lt_trichotomy (plc cl b) i with c | c | c
  · exact absurd (h1 _ c) (plc_at cl b (by omega))
  · exact c
  · have := plc_le cl b
    exact absurd (plc_before cl b i c) (h2 (by omega))
/-- is it there? -/
def has (cl : List Blk) (b : Blk) : Bool := decide (b ∈ cl)
theorem has_iff {cl : List Blk} (hu : Up cl) (b : Blk) : b ∈ cl ↔ plc cl b < cl.length ∧ cl.getD (plc cl b) b0 = b := by
  constructor
  · intro h
    obtain ⟨j, hj, e⟩ := List.getElem_of_mem h
    have e' : cl.getD j b0 = b := by rw [getD_eq _ _ hj, e]
    have : plc cl b = j := plc_eq cl b j (by omega) (fun k hk => by
      rw [← e', getD_eq _ _ hj, getD_eq _ _ (by omega)]
      exact (List.pairwise_iff_getElem.1 hu) k j (by omega) hj hk) (fun _ => by rw [e']; exact lt_irrefl b)
    rw [this]; exact ⟨hj, e'⟩
  · rintro ⟨h1, h2⟩
    rw [← h2]; exact getD_mem _ _ h1
theorem has_cmp {cl : List Blk} (hu : Up cl) (b : Blk) (h : plc cl b < cl.length) : has cl b = decide (cmpB (cl.getD (plc cl b) b0) b = 0) := by
  unfold has
  congr 1
  rw [has_iff hu, cmp_eq]
  simp [h]
theorem has_none {cl : List Blk} (hu : Up cl) (b : Blk) (h : ¬ plc cl b < cl.length) : has cl b = false := by
  unfold has
  rw [decide_eq_false_iff_not, has_iff hu]
  exact fun q => h q.1
/-- one more block, in its place -/
def ins (cl : List Blk) (b : Blk) : List Blk := cl.take (plc cl b) ++ b :: cl.drop (plc cl b)
theorem ins_len (cl : List Blk) (b : Blk) : (ins cl b).length = cl.length + 1 := by
  have := plc_le cl b
  simp [ins]; omega
theorem mem_ins (cl : List Blk) (b x : Blk) : x ∈ ins cl b ↔ x = b ∨ x ∈ cl := by
  unfold ins
  rw [List.mem_append, List.mem_cons]
  have : x ∈ cl ↔ x ∈ cl.take (plc cl b) ∨ x ∈ cl.drop (plc cl b) := by
    rw [← List.mem_append, List.take_append_drop]
  rw [this]
  constructor
  · rintro (h | h | h) <;> simp [h]
  · rintro (h | h | h) <;> simp [h]
theorem ins_up {cl : List Blk} (hu : Up cl) (b : Blk) (h : b ∉ cl) : Up (ins cl b) := by
  unfold Up ins
  have lo : ∀ x ∈ cl.take (plc cl b), Lt x b := fun x hx => by
    obtain ⟨j, hj, rfl⟩ := List.getElem_of_mem hx
    rw [List.length_take] at hj
    have := plc_before cl b j (by omega)
    rw [getD_eq _ _ (by omega)] at this
    simpa using this
  have hi : ∀ x ∈ cl.drop (plc cl b), Lt b x := fun x hx => by
    obtain ⟨j, hj, rfl⟩ := List.getElem_of_mem hx
    rw [List.length_drop] at hj
    have h1 := plc_behind hu b (plc cl b + j) (by omega) (by omega)
    rw [getD_eq _ _ (by omega)] at h1
    rw [List.getElem_drop]
    rcases lt_total b cl[plc cl b + j] with q | q | q
    · exact q
    · exact absurd (q ▸ List.getElem_mem _) h
    · exact absurd q h1
  rw [List.pairwise_append]
  refine ⟨hu.sublist (List.take_sublist _ _), List.pairwise_cons.2 ⟨hi, hu.sublist (List.drop_sublist _ _)⟩, fun x hx y hy => ?_⟩
  rcases List.mem_cons.1 hy with q | q
  · subst q; exact lo x hx
  · exact lt_trans (lo x hx) (hi y q)
theorem ins_ok {W H : Int} {cl : List Blk} (h : Ok W H cl) {b : Blk} (hb : IsB W H b) (hn : b ∉ cl) (hl : cl.length < 30) : Ok W H (ins cl b) := by
  obtain ⟨a1, a2, a3, a4, a5, a6, a7⟩ := h
  refine ⟨a1, a2, a3, a4, by rw [ins_len]; omega, fun x hx => ?_, ins_up a7 b hn⟩
  rcases (mem_ins cl b x).1 hx with q | q
  · subst q; exact hb
  · exact a6 x q
/-- one block less -/
def del (cl : List Blk) (i : Nat) : List Blk := cl.take i ++ cl.drop (i + 1)
theorem del_sub (cl : List Blk) (i : Nat) : (del cl i).Sublist cl := by
  unfold del
  have h : (cl.take i ++ cl.drop (i + 1)).Sublist (cl.take i ++ cl.drop i) := List.Sublist.append (List.Sublist.refl _) (by
    rw [show cl.drop (i + 1) = (cl.drop i).drop 1 by rw [List.drop_drop]]
    exact List.drop_sublist _ _)
  rwa [List.take_append_drop] at h
theorem del_ok {W H : Int} {cl : List Blk} (h : Ok W H cl) (i : Nat) : Ok W H (del cl i) := by
  obtain ⟨a1, a2, a3, a4, a5, a6, a7⟩ := h
  have hs := del_sub cl i
  exact ⟨a1, a2, a3, a4, Nat.le_trans hs.length_le a5, fun x hx => a6 x (hs.subset hx), a7.sublist hs⟩
theorem up_ne {cl : List Blk} (hu : Up cl) {i j : Nat} (hi : i < cl.length) (hj : j < cl.length) (h : i ≠ j) : cl.getD i b0 ≠ cl.getD j b0 := by
  intro e
  rw [getD_eq _ _ hi, getD_eq _ _ hj] at e
  rcases Nat.lt_or_gt_of_ne h with c | c
  · have := (List.pairwise_iff_getElem.1 hu) i j hi hj c
    rw [e] at this; exact lt_irrefl _ this
  · have := (List.pairwise_iff_getElem.1 hu) j i hj hi c
    rw [e] at this; exact lt_irrefl _ this
theorem del_filter {cl : List Blk} (hu : Up cl) (i : Nat) (hi : i < cl.length) : cl.filter (fun x => !decide (x = cl.getD i b0)) = del cl i := by
  unfold del
  conv => lhs; rw [← List.take_append_drop i cl]
  rw [List.filter_append, List.drop_eq_getElem_cons hi, List.filter_cons]
  have e : cl.getD i b0 = cl[i] := getD_eq _ _ hi
  have h1 : (cl.take i).filter (fun x => !decide (x = (cl.take i ++ cl[i] :: cl.drop (i + 1)).getD i b0)) = cl.take i := by
    rw [List.filter_eq_self]
    intro x hx
    obtain ⟨j, hj, rfl⟩ := List.getElem_of_mem hx
    rw [List.length_take] at hj
    have hne := up_ne hu (i := j) (j := i) (by omega) hi (by omega)
    rw [getD_eq _ _ (by omega), e] at hne
    rw [← List.drop_eq_getElem_cons hi, List.take_append_drop, e]
    simp only [List.getElem_take]
    simpa using hne
  have h2 : (cl.drop (i + 1)).filter (fun x => !decide (x = (cl.take i ++ cl[i] :: cl.drop (i + 1)).getD i b0)) = cl.drop (i + 1) := by
    rw [List.filter_eq_self]
    intro x hx
    obtain ⟨j, hj, rfl⟩ := List.getElem_of_mem hx
    rw [List.length_drop] at hj
    have hne := up_ne hu (i := i + 1 + j) (j := i) (by omega) hi (by omega)
    rw [getD_eq _ _ (by omega), e] at hne
    rw [← List.drop_eq_getElem_cons hi, List.take_append_drop, e]
    simp only [List.getElem_drop]
    simpa using hne
  rw [h1, h2, ← List.drop_eq_getElem_cons hi, List.take_append_drop, e]
  simp
/-- lists in order with the same blocks are one -/
theorem up_ext {l m : List Blk} (hl : Up l) (hm : Up m) (h : ∀ x, x ∈ l ↔ x ∈ m) : l = m := by
  induction l generalizing m with
  | nil =>
    cases m with
    | nil => rfl
    | cons y ys => exact absurd ((h y).2 (by simp)) (by simp)
  | cons x xs ih =>
    cases m with
    | nil => exact absurd ((h x).1 (by simp)) (by simp)
    | cons y ys =>
      obtain ⟨hx, hxs⟩ := List.pairwise_cons.1 hl
      obtain ⟨hy, hys⟩ := List.pairwise_cons.1 hm
      have e : x = y := by
        rcases List.mem_cons.1 ((h x).1 (by simp)) with q | q
        · exact q
        · rcases List.mem_cons.1 ((h y).2 (by simp)) with r | r
          · exact r.symm
          · exact absurd (hx y r) (lt_asymm (hy x q))
      subst e
      have nx : x ∉ xs := fun q => lt_irrefl x (hx x q)
      have ny : x ∉ ys := fun q => lt_irrefl x (hy x q)
      rw [ih hxs hys (fun z => ⟨fun q => by
        rcases List.mem_cons.1 ((h z).1 (by simp [q])) with r | r
        · subst r; exact absurd q nx
        · exact r, fun q => by
        rcases List.mem_cons.1 ((h z).2 (by simp [q])) with r | r
        · subst r; exact absurd q ny
        · exact r⟩)]
/-! ### steps -/
abbrev Cr := Int × Int
def onC (W H : Int) (u : Cr) : Prop := 0 ≤ u.1 ∧ u.1 ≤ W - 1 ∧ 0 ≤ u.2 ∧ u.2 ≤ H - 1
instance (W H : Int) (u : Cr) : Decidable (onC W H u) := by unfold onC; infer_instance
def dx : Nat → Int | 0 => 1 | 3 => -1 | _ => 0
def dy : Nat → Int | 1 => 1 | 2 => -1 | _ => 0
def nx (u : Cr) (j : Nat) : Cr := (u.1 + dx j, u.2 + dy j)
def bb (u v : Cr) : Blk := (min u.1 v.1, min u.2 v.2, decide (u.1 = v.1))
def stp (W H : Int) (cl : List Blk) (u : Cr) (j : Nat) : Bool := decide (onC W H (nx u j)) && !has cl (bb u (nx u j))
theorem bb_comm (u v : Cr) : bb u v = bb v u := by
  unfold bb
  rw [Int.min_comm u.1, Int.min_comm u.2]
  congr 2
  exact decide_eq_decide.2 ⟨Eq.symm, Eq.symm⟩
theorem onC_is {W H : Int} {u : Cr} (hu : onC W H u) (j : Nat) (hj : j < 4) : onC W H (nx u j) ↔ IsB W H (bb u (nx u j)) := by
  obtain ⟨x, y⟩ := u
  unfold onC at *
  have : j = 0 ∨ j = 1 ∨ j = 2 ∨ j = 3 := by omega
  rcases this with rfl | rfl | rfl | rfl <;> simp [nx, bb, IsB, up, dx, dy] at * <;> (try split) <;> omega
end Av
