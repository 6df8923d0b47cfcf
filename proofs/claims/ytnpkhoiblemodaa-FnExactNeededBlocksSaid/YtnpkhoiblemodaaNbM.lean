/-
  Chapter 4: the blocks that each way needs, plain: they lie on the first shortest way.
-/
import Derived.Test.YtnpkhoiblemodaaAvS
import Derived.Test.YtnpkhoiblemodaaGrAll
import Derived.Test.YtnpkhoiblemodaaAvAll
namespace Go.Proofs
open Go.RowKit Av Gm
set_option linter.unusedVariables false
set_option linter.unusedSimpArgs false
section
variable {Wn Hn : Nat} {cl : List Blk}
/-- the block between two vertices -/
def blE (Hn n m : Nat) : Blk := bb (crn Hn n) (crn Hn m)
theorem nb_edge {n j m : Nat} (h : nbC Wn Hn cl n j = some m) : j < 4 ∧ n < Wn * Hn ∧ m < Wn * Hn ∧ crn Hn m = nx (crn Hn n) j ∧ IsB Wn Hn (blE Hn n m) ∧ blE Hn n m ∉ cl := by
  cases hs : stp Wn Hn cl (((n / Hn : Nat) : Int), ((n % Hn : Nat) : Int)) j
  · rw [nb_none hs] at h; cases h
  · have hj : j < 4 ∧ n < Wn * Hn := by
      unfold nbC at h
      split at h
      · rename_i q; exact ⟨q.1, q.2.1⟩
      · cases h
    obtain ⟨m', e, hm, e1, e2, _⟩ := nb_some hj.1 hj.2 hs
    rw [e] at h
    cases h
    have ec : crn Hn m = nx (crn Hn n) j := by unfold crn nx; simp only [e1, e2]
    refine ⟨hj.1, hj.2, hm, ec, ?_, ?_⟩
    · unfold blE
      rw [ec]
      refine (onC_is (on_idx hj.2) j hj.1).1 ?_
      unfold stp at hs
      simp only [Bool.and_eq_true] at hs
      exact of_decide_eq_true hs.1
    · unfold blE
      rw [ec]
      unfold stp at hs
      simp only [Bool.and_eq_true] at hs
      have := hs.2
      unfold has at this
      simpa [crn] using this
theorem nb_close {b : Blk} {n j m : Nat} (h : nbC Wn Hn cl n j = some m) (hb : blE Hn n m ≠ b) : nbC Wn Hn (ins cl b) n j = some m := by
  obtain ⟨hj, hn, hm, ec, hi, ho⟩ := nb_edge h
  have hs : stp Wn Hn (ins cl b) (((n / Hn : Nat) : Int), ((n % Hn : Nat) : Int)) j = true := by
    have h2 : bb (((n / Hn : Nat) : Int), ((n % Hn : Nat) : Int)) (nx (((n / Hn : Nat) : Int), ((n % Hn : Nat) : Int)) j) = blE Hn n m := by unfold blE; rw [ec]; rfl
    unfold stp
    rw [h2]
    simp only [Bool.and_eq_true]
    constructor
    · refine decide_eq_true ((onC_is (on_idx hn) j hj).2 ?_)
      rw [h2]; exact hi
    · unfold has
      have : blE Hn n m ∉ ins cl b := by
        rw [mem_ins]
        rintro (q | q)
        · exact hb q
        · exact ho q
      simp [this]
  have h0 := h
  unfold nbC at h ⊢
  rw [if_pos ⟨hj, hn, hs⟩]
  split at h
  · exact h
  · cases h
theorem bb_two {u v : Cr} {i j : Nat} (hi : i < 4) (hj : j < 4) (h : bb u (nx u i) = bb v (nx v j)) : u = v ∧ nx u i = nx v j ∨ u = nx v j ∧ nx u i = v := by
  obtain ⟨a, b⟩ := u
  obtain ⟨c, d⟩ := v
  have hi' : i = 0 ∨ i = 1 ∨ i = 2 ∨ i = 3 := by omega
  have hj' : j = 0 ∨ j = 1 ∨ j = 2 ∨ j = 3 := by omega
  rcases hi' with rfl | rfl | rfl | rfl <;> rcases hj' with rfl | rfl | rfl | rfl <;> simp [bb, nx, dx, dy] at h ⊢ <;> omega
end
section
variable {Wn Hn : Nat} {ps : List Blk} {s0 t0 : Nat}
/-- how far each vertex is from the end -/
def fT (Wn Hn : Nat) (ps : List Blk) (t0 : Nat) : Nat → Int := f (fin (nbC Wn Hn ps) (Wn * Hn) t0)
/-- where one is behind so many steps -/
def psW (Wn Hn : Nat) (ps : List Blk) (s0 t0 i : Nat) : Nat := (stW (nbC Wn Hn ps) (fT Wn Hn ps t0) s0 i).1
/-- the sign that is taken there -/
def jsW (Wn Hn : Nat) (ps : List Blk) (s0 t0 i : Nat) : Nat := pk (nbC Wn Hn ps) (fT Wn Hn ps t0) (psW Wn Hn ps s0 t0 i)
/-- the blocks on the way -/
def bsW (Wn Hn : Nat) (ps : List Blk) (s0 t0 i : Nat) : Blk := blE Hn (psW Wn Hn ps s0 t0 i) (psW Wn Hn ps s0 t0 (i + 1))
theorem way_inv (hs : s0 < Wn * Hn) (ht : t0 < Wn * Hn) (k : Nat) (hk : (k : Int) ≤ fT Wn Hn ps t0 s0) : psW Wn Hn ps s0 t0 k < Wn * Hn ∧ fT Wn Hn ps t0 (psW Wn Hn ps s0 t0 k) = fT Wn Hn ps t0 s0 - k ∧ (stW (nbC Wn Hn ps) (fT Wn Hn ps t0) s0 k).2.length = k ∧ ∀ i ∈ (stW (nbC Wn Hn ps) (fT Wn Hn ps t0) s0 k).2, i < 4 :=
  stW_inv nb_valid nb_sym (fin_dist nb_valid ht) hs k hk
theorem way_step (hs : s0 < Wn * Hn) (ht : t0 < Wn * Hn) (k : Nat) (hk : (k : Int) < fT Wn Hn ps t0 s0) : jsW Wn Hn ps s0 t0 k < 4 ∧ nbC Wn Hn ps (psW Wn Hn ps s0 t0 k) (jsW Wn Hn ps s0 t0 k) = some (psW Wn Hn ps s0 t0 (k + 1)) ∧ (stW (nbC Wn Hn ps) (fT Wn Hn ps t0) s0 (k + 1)).2 = (stW (nbC Wn Hn ps) (fT Wn Hn ps t0) s0 k).2 ++ [jsW Wn Hn ps s0 t0 k] := by
  obtain ⟨a1, a2, a3, _⟩ := way_inv (ps := ps) hs ht k (by omega)
  obtain ⟨b1, b2, b3, _⟩ := way_inv (ps := ps) hs ht (k + 1) (by omega)
  cases hn : nbC Wn Hn ps (psW Wn Hn ps s0 t0 k) (jsW Wn Hn ps s0 t0 k) with
  | none =>
    have e : stW (nbC Wn Hn ps) (fT Wn Hn ps t0) s0 (k + 1) = stW (nbC Wn Hn ps) (fT Wn Hn ps t0) s0 k := by
      simp only [stW]
      unfold jsW psW at hn
      rw [hn]
    rw [e] at b3
    omega
  | some v =>
    have e := stW_succ (nb := nbC Wn Hn ps) (F := fT Wn Hn ps t0) (a := s0) (k := k) (j := jsW Wn Hn ps s0 t0 k) (v := v) rfl hn
    have ev : psW Wn Hn ps s0 t0 (k + 1) = v := by unfold psW; rw [e]
    exact ⟨(nb_edge hn).1, by rw [ev], by rw [e]⟩
theorem way_end (hs : s0 < Wn * Hn) (ht : t0 < Wn * Hn) (h0 : 0 ≤ fT Wn Hn ps t0 s0) : psW Wn Hn ps s0 t0 (fT Wn Hn ps t0 s0).toNat = t0 := by
  obtain ⟨a1, a2, _⟩ := way_inv (ps := ps) hs ht (fT Wn Hn ps t0 s0).toNat (by omega)
  have e : fT Wn Hn ps t0 (psW Wn Hn ps s0 t0 (fT Wn Hn ps t0 s0).toNat) = 0 := by rw [a2]; omega
  exact (fin_dist nb_valid ht).z _ a1 e
/-- a block without which there is no way is on the first shortest one -/
theorem on_way (hs : s0 < Wn * Hn) (ht : t0 < Wn * Hn) (h0 : 0 ≤ fT Wn Hn ps t0 s0) {b : Blk} (hb : dst Wn Hn (ins ps b) s0 t0 < 0) : ∃ i, i < (fT Wn Hn ps t0 s0).toNat ∧ bsW Wn Hn ps s0 t0 i = b := by
  refine Classical.byContradiction fun hno => ?_
  have hG := fin_dist (nb := nbC Wn Hn (ins ps b)) nb_valid hs
  have key : ∀ i, i ≤ (fT Wn Hn ps t0 s0).toNat → 0 ≤ f (fin (nbC Wn Hn (ins ps b)) (Wn * Hn) s0) (psW Wn Hn ps s0 t0 i) := by
    intro i
    induction i with
    | zero => intro _; have e : psW Wn Hn ps s0 t0 0 = s0 := rfl
              rw [e, hG.f0]; exact Int.le_refl 0
    | succ i ih =>
      intro hi
      obtain ⟨c1, c2, _⟩ := way_step (ps := ps) hs ht i (by omega)
      obtain ⟨a1, _⟩ := way_inv (ps := ps) hs ht i (by omega)
      have hne : blE Hn (psW Wn Hn ps s0 t0 i) (psW Wn Hn ps s0 t0 (i + 1)) ≠ b := fun e => hno ⟨i, by omega, e⟩
      exact (hG.re _ _ _ a1 c1 (ih (by omega)) (nb_close c2 hne)).1
  have := key _ (Nat.le_refl _)
  rw [way_end hs ht h0] at this
  unfold dst at hb
  omega
theorem bs_is (hs : s0 < Wn * Hn) (ht : t0 < Wn * Hn) {i : Nat} (hi : (i : Int) < fT Wn Hn ps t0 s0) : IsB Wn Hn (bsW Wn Hn ps s0 t0 i) ∧ bsW Wn Hn ps s0 t0 i ∉ ps := by
  obtain ⟨_, c2, _⟩ := way_step (ps := ps) hs ht i hi
  obtain ⟨_, _, _, _, h1, h2⟩ := nb_edge c2
  exact ⟨h1, h2⟩
theorem bs_ne (hs : s0 < Wn * Hn) (ht : t0 < Wn * Hn) {i j : Nat} (hij : i < j) (hj : (j : Int) < fT Wn Hn ps t0 s0) : bsW Wn Hn ps s0 t0 i ≠ bsW Wn Hn ps s0 t0 j := by
  intro e
  obtain ⟨c1, c2, _⟩ := way_step (ps := ps) hs ht i (by omega)
  obtain ⟨d1, d2, _⟩ := way_step (ps := ps) hs ht j hj
  obtain ⟨_, _, _, ec, _, _⟩ := nb_edge c2
  obtain ⟨_, _, _, ed, _, _⟩ := nb_edge d2
  have p1 := (way_inv (ps := ps) hs ht i (by omega)).2.1
  have p2 := (way_inv (ps := ps) hs ht (i + 1) (by omega)).2.1
  have p3 := (way_inv (ps := ps) hs ht j (by omega)).2.1
  have p4 := (way_inv (ps := ps) hs ht (j + 1) (by omega)).2.1
  unfold bsW blE at e
  rw [ec, ed] at e
  rcases bb_two c1 d1 e with ⟨q, _⟩ | ⟨q1, q2⟩
  · have := crn_inj q
    rw [this] at p1
    omega
  · rw [← ec] at q2
    rw [← ed] at q1
    have r1 := crn_inj q1
    have r2 := crn_inj q2
    rw [r1] at p1
    rw [r2] at p2
    omega
/-- is a block of those that each way needs? (an open one that it is) -/
def nlB (Wn Hn : Nat) (ps : List Blk) (s0 t0 : Nat) (b : Blk) : Bool := decide (dst Wn Hn (ins ps b) s0 t0 < 0)
def needB (Wn Hn : Nat) (ps : List Blk) (s0 t0 : Nat) (b : Blk) : Bool := decide (IsB Wn Hn b) && !has ps b && nlB Wn Hn ps s0 t0 b
/-- what the program has found on so many steps -/
def pTo (Wn Hn : Nat) (ps : List Blk) (s0 t0 i : Nat) : List Blk := ((List.range i).map (bsW Wn Hn ps s0 t0)).filter (nlB Wn Hn ps s0 t0)
theorem pTo_succ (i : Nat) : pTo Wn Hn ps s0 t0 (i + 1) = if nlB Wn Hn ps s0 t0 (bsW Wn Hn ps s0 t0 i) then pTo Wn Hn ps s0 t0 i ++ [bsW Wn Hn ps s0 t0 i] else pTo Wn Hn ps s0 t0 i := by
  unfold pTo
  rw [List.range_succ, List.map_append, List.filter_append]
  simp only [List.map_cons, List.map_nil, List.filter_cons, List.filter_nil]
  split <;> simp_all
theorem pTo_len (i : Nat) : (pTo Wn Hn ps s0 t0 i).length ≤ i := by
  unfold pTo
  refine Nat.le_trans (List.length_filter_le _ _) ?_
  simp
/-- the block with a number, in the model's order -/
def blAt (Hn m : Nat) : Blk := (((m / 2 / Hn : Nat) : Int), ((m / 2 % Hn : Nat) : Int), decide (m % 2 = 1))
def nTo (Wn Hn : Nat) (ps : List Blk) (s0 t0 m : Nat) : List Blk := ((List.range m).map (blAt Hn)).filter (needB Wn Hn ps s0 t0)
theorem nTo_succ (m : Nat) : nTo Wn Hn ps s0 t0 (m + 1) = if needB Wn Hn ps s0 t0 (blAt Hn m) then nTo Wn Hn ps s0 t0 m ++ [blAt Hn m] else nTo Wn Hn ps s0 t0 m := by
  unfold nTo
  rw [List.range_succ, List.map_append, List.filter_append]
  simp only [List.map_cons, List.map_nil, List.filter_cons, List.filter_nil]
  split <;> simp_all
theorem nTo_len (m : Nat) : (nTo Wn Hn ps s0 t0 m).length ≤ m := by
  unfold nTo
  refine Nat.le_trans (List.length_filter_le _ _) ?_
  simp
theorem blAt_lt (h0 : 0 < Hn) {m n : Nat} (h : m < n) : Lt (blAt Hn m) (blAt Hn n) := by
  unfold Lt blAt up
  simp only [decide_eq_true_eq]
  have a1 := Nat.div_add_mod m 2
  have a2 := Nat.div_add_mod n 2
  have b1 := Nat.mod_lt m (show 0 < 2 by omega)
  have b2 := Nat.mod_lt n (show 0 < 2 by omega)
  rcases (show m / 2 < n / 2 ∨ m / 2 = n / 2 ∧ m % 2 < n % 2 by omega) with q | ⟨q, q2⟩
  · have c1 := Nat.div_add_mod (m / 2) Hn
    have c2 := Nat.div_add_mod (n / 2) Hn
    have d1 : m / 2 / Hn ≤ n / 2 / Hn := Nat.div_le_div_right (by omega)
    rcases (show m / 2 / Hn < n / 2 / Hn ∨ m / 2 / Hn = n / 2 / Hn by omega) with r | r
    · exact .inl (by omega)
    · refine .inr ⟨by omega, .inl ?_⟩
      rw [r] at c1
      omega
  · rw [q]
    refine .inr ⟨rfl, .inr ⟨rfl, ?_⟩⟩
    rw [if_neg (by omega), if_pos (by omega)]
    decide
theorem nTo_up (h0 : 0 < Hn) (m : Nat) : Up (nTo Wn Hn ps s0 t0 m) := by
  unfold Up nTo
  refine List.Pairwise.filter _ ?_
  rw [List.pairwise_map]
  exact List.pairwise_lt_range.imp fun h => blAt_lt h0 h
theorem blAt_ex {b : Blk} (hb : IsB Wn Hn b) : ∃ m, m < 2 * (Wn * Hn) ∧ blAt Hn m = b := by
  obtain ⟨x, y, u⟩ := b
  have hu := up_b (x, y, u)
  unfold IsB at hb
  simp only at hb hu
  obtain ⟨a, rfl⟩ : ∃ a : Nat, x = a := ⟨x.toNat, by omega⟩
  obtain ⟨c, rfl⟩ : ∃ c : Nat, y = c := ⟨y.toNat, by omega⟩
  have ha : a < Wn := by omega
  have hc : c < Hn := by omega
  obtain ⟨e1, e2, e3⟩ := idx_on ha hc
  refine ⟨2 * (a * Hn + c) + (if u then 1 else 0), by split <;> omega, ?_⟩
  unfold blAt
  have d1 : (2 * (a * Hn + c) + (if u then 1 else 0)) / 2 = a * Hn + c := by split <;> omega
  have d2 : decide ((2 * (a * Hn + c) + (if u then 1 else 0)) % 2 = 1) = u := by cases u <;> simp <;> omega
  rw [d1, d2, e2, e3]
theorem needed (hs : s0 < Wn * Hn) (ht : t0 < Wn * Hn) (h0 : 0 ≤ fT Wn Hn ps t0 s0) : (pTo Wn Hn ps s0 t0 (fT Wn Hn ps t0 s0).toNat).mergeSort leB = nTo Wn Hn ps s0 t0 (2 * (Wn * Hn)) := by
  have hH : 0 < Hn := by rcases Nat.eq_zero_or_pos Hn with e | e
                         · subst e; simp at hs
                         · exact e
  have hnd : (pTo Wn Hn ps s0 t0 (fT Wn Hn ps t0 s0).toNat).Nodup := by
    unfold pTo
    unfold List.Nodup
    refine List.Pairwise.filter _ ?_
    rw [List.pairwise_map]
    refine List.Pairwise.imp_of_mem ?_ List.pairwise_lt_range
    intro a b _ hb hab
    have := List.mem_range.1 hb
    exact bs_ne hs ht hab (by omega)
  have hp := List.mergeSort_perm (pTo Wn Hn ps s0 t0 (fT Wn Hn ps t0 s0).toNat) leB
  refine up_ext ?_ (nTo_up hH _) ?_
  · have h1 := List.pairwise_mergeSort leB_trans leB_total (pTo Wn Hn ps s0 t0 (fT Wn Hn ps t0 s0).toNat)
    have h2 := hp.nodup_iff.2 hnd
    unfold Up
    refine List.Pairwise.imp ?_ (h1.and h2)
    rintro a b ⟨q1, q2⟩
    rcases lt_total a b with r | r | r
    · exact r
    · exact absurd r q2
    · unfold leB at q1; simp [r] at q1
  · intro x
    rw [hp.mem_iff]
    unfold pTo nTo
    simp only [List.mem_filter, List.mem_map, List.mem_range]
    constructor
    · rintro ⟨⟨i, hi, rfl⟩, hn⟩
      obtain ⟨q1, q2⟩ := bs_is (ps := ps) hs ht (i := i) (by omega)
      obtain ⟨m, hm, e⟩ := blAt_ex q1
      refine ⟨⟨m, hm, e⟩, ?_⟩
      unfold needB has
      simp [q1, q2, hn]
    · rintro ⟨⟨m, hm, rfl⟩, hn⟩
      unfold needB at hn
      simp only [Bool.and_eq_true] at hn
      have hd := hn.2
      obtain ⟨i, hi, e⟩ := on_way hs ht h0 (of_decide_eq_true hd)
      exact ⟨⟨i, hi, e⟩, hd⟩
end
end Go.Proofs
