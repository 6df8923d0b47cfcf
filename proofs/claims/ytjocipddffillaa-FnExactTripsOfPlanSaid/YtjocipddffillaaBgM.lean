/-
  Chapter 8, plain: numbers told anew, plans, weights and farthest houses of trips, parcels put in order, letters.
-/
import Derived.Test.YtjocipddffillaaBase
namespace Go.Proofs
namespace Bg
set_option linter.unusedVariables false
set_option linter.unusedSimpArgs false
/-- the first n of a function's values -/
def tb (f : Nat → Int) (n : Nat) : List Int := (List.range n).map f
theorem tb_succ (f : Nat → Int) (n : Nat) : tb f (n + 1) = tb f n ++ [f n] := by simp [tb, List.range_succ]
theorem tb_zero (f : Nat → Int) : tb f 0 = [] := rfl
theorem tb_len (f : Nat → Int) (n : Nat) : (tb f n).length = n := by simp [tb]
theorem tb_get (f : Nat → Int) (n i : Nat) (h : i < n) : (tb f n).getD i 0 = f i := by simp [tb, List.getD, h]
theorem tb_congr {f g : Nat → Int} {n : Nat} (h : ∀ i, i < n → f i = g i) : tb f n = tb g n := by
  apply List.map_congr_left
  intro i hi
  exact h i (List.mem_range.1 hi)
theorem tb_set (f : Nat → Int) (n i : Nat) (x : Int) (h : i < n) : (tb f n).set i x = tb (fun j => if j = i then x else f j) n := by
  apply List.ext_getElem
  · simp [tb]
  · intro j h1 h2
    simp only [tb, List.getElem_set, List.getElem_map, List.getElem_range]
    by_cases e : i = j
    · subst e; simp
    · rw [if_neg e, if_neg (fun q => e q.symm)]
theorem tb_id (xs : List Int) : tb (fun k => xs.getD k 0) xs.length = xs := by
  apply List.ext_getElem
  · simp [tb]
  · intro j h1 h2
    simp [tb, List.getD, h2]
theorem tb_mem {f : Nat → Int} {n : Nat} {x : Int} : x ∈ tb f n ↔ ∃ i, i < n ∧ f i = x := by simp [tb]
/-- how many trips are told up to k -/
def cntN (pl : List Int) : Nat → Nat
  | 0 => 0
  | k + 1 => if pl.getD k 0 = (cntN pl k : Int) then cntN pl k + 1 else cntN pl k
def RgUp (pl : List Int) (k : Nat) : Prop := ∀ j, j < k → 0 ≤ pl.getD j 0 ∧ pl.getD j 0 ≤ (cntN pl j : Int)
theorem cnt_le (pl : List Int) (k : Nat) : cntN pl k ≤ k := by
  induction k with
  | zero => exact Nat.le_refl _
  | succ k ih => simp only [cntN]; split <;> omega
theorem cnt_mono (pl : List Int) (k : Nat) : cntN pl k ≤ cntN pl (k + 1) := by simp only [cntN]; split <;> omega
theorem rg_lt {pl : List Int} {k : Nat} (h : RgUp pl k) : ∀ j, j < k → pl.getD j 0 < (cntN pl k : Int) := by
  induction k with
  | zero => intro j hj; omega
  | succ k ih =>
    intro j hj
    have a := cnt_mono pl k
    rcases Nat.lt_or_eq_of_le (Nat.le_of_lt_succ hj) with c | c
    · have := ih (fun i hi => h i (by omega)) j c; omega
    · subst c
      have := h j (by omega)
      simp only [cntN]
      split <;> omega
theorem rg_top {pl : List Int} {k : Nat} (h : RgUp pl k) : ∀ t, t < cntN pl k → ∃ j, j < k ∧ pl.getD j 0 = (t : Int) := by
  induction k with
  | zero => intro t ht; simp [cntN] at ht
  | succ k ih =>
    intro t ht
    by_cases c : t < cntN pl k
    · obtain ⟨j, hj, e⟩ := ih (fun i hi => h i (by omega)) t c
      exact ⟨j, by omega, e⟩
    · simp only [cntN] at ht
      split at ht
      · next q => exact ⟨k, by omega, by rw [q]; omega⟩
      · omega
/-- the sum of each trip -/
def wtN (f : Nat → Int) (pl : List Int) : Nat → Nat → Int
  | 0, _ => 0
  | k + 1, t => if pl.getD k 0 = (t : Int) then wtN f pl k t + f k else wtN f pl k t
theorem wt_out {f : Nat → Int} {pl : List Int} {k : Nat} (h : RgUp pl k) : ∀ t, cntN pl k ≤ t → wtN f pl k t = 0 := by
  induction k with
  | zero => intro t _; rfl
  | succ k ih =>
    intro t ht
    have a := cnt_mono pl k
    have b := rg_lt h k (by omega)
    simp only [wtN]
    rw [if_neg (by omega)]
    exact ih (fun i hi => h i (by omega)) t (by omega)
theorem wt_mono {f : Nat → Int} {pl : List Int} (hf : ∀ j, 0 ≤ f j) (t k m : Nat) : wtN f pl k t ≤ wtN f pl (k + m) t := by
  induction m with
  | zero => exact Int.le_refl _
  | succ m ih =>
    rw [← Nat.add_assoc]
    simp only [wtN]
    have := hf (k + m)
    split <;> omega
theorem wt_pos {f : Nat → Int} {pl : List Int} {k : Nat} (hf : ∀ j, j < k → 1 ≤ f j) (h : RgUp pl k) : ∀ t, t < cntN pl k → 1 ≤ wtN f pl k t := by
  have nn : ∀ k', k' ≤ k → ∀ t, 0 ≤ wtN f pl k' t := by
    intro k'
    induction k' with
    | zero => intro _ t; exact Int.le_refl _
    | succ k' ih =>
      intro hk t
      have := ih (by omega) t
      have := hf k' (by omega)
      simp only [wtN]
      split <;> omega
  induction k with
  | zero => intro t ht; simp [cntN] at ht
  | succ k ih =>
    intro t ht
    have a := hf k (by omega)
    have b := nn k (by omega) t
    simp only [wtN]
    split
    · omega
    · next q =>
      have c : t < cntN pl k := by
        simp only [cntN] at ht
        split at ht
        · next q' => rw [q'] at q; omega
        · exact ht
      exact ih (fun j hj => hf j (by omega)) (fun i hi => h i (by omega)) (fun k' hk => nn k' (by omega)) t c
/-- one step of a plan: its trip is told, and there is room -/
def StepB (f : Nat → Int) (pl : List Int) (bag : Int) (j : Nat) : Prop := (0 ≤ pl.getD j 0 ∧ pl.getD j 0 ≤ (cntN pl j : Int)) ∧ wtN f pl (j + 1) (pl.getD j 0).toNat ≤ bag
theorem step_iff {f : Nat → Int} {pl : List Int} {bag : Int} {n : Nat} (hf : ∀ j, 0 ≤ f j) : (∀ j, j < n → StepB f pl bag j) ↔ RgUp pl n ∧ ∀ t, t < cntN pl n → wtN f pl n t ≤ bag := by
  constructor
  · intro h
    refine ⟨fun j hj => (h j hj).1, ?_⟩
    induction n with
    | zero => intro t ht; simp [cntN] at ht
    | succ n ih =>
      intro t ht
      have s := h n (by omega)
      by_cases q : pl.getD n 0 = (t : Int)
      · have := s.2
        rw [q] at this
        simpa using this
      · simp only [wtN]
        rw [if_neg q]
        refine ih (fun j hj => h j (by omega)) t ?_
        simp only [cntN] at ht
        split at ht
        · next q' => rw [q'] at q; omega
        · exact ht
  · rintro ⟨a, b⟩ j hj
    refine ⟨a j hj, ?_⟩
    have c := rg_lt a j hj
    have d := b (pl.getD j 0).toNat (by have := (a j hj).1; omega)
    have e := wt_mono (pl := pl) hf (pl.getD j 0).toNat (j + 1) (n - (j + 1))
    rw [show j + 1 + (n - (j + 1)) = n by omega] at e
    omega
theorem wt_in {f : Nat → Int} {pl : List Int} (hf : ∀ j, 0 ≤ f j ∧ f j ≤ 1000) (k t : Nat) : 0 ≤ wtN f pl k t ∧ wtN f pl k t ≤ 1000 * (k : Int) := by
  induction k with
  | zero => exact ⟨Int.le_refl _, by simp [wtN]⟩
  | succ k ih =>
    have := hf k
    simp only [wtN]
    split <;> omega
/-- the list of them, one step on -/
theorem wt_row {f : Nat → Int} {pl : List Int} {k t m : Nat} (ht : pl.getD k 0 = (t : Int)) (h : t < m) : (tb (wtN f pl k) m).set t (wtN f pl k t + f k) = tb (wtN f pl (k + 1)) m := by
  rw [tb_set _ _ _ _ h]
  refine tb_congr fun i _ => ?_
  simp only [wtN]
  by_cases e : i = t
  · subst e; simp only [if_true]; rw [if_pos ht]
  · rw [if_neg e, if_neg (by omega)]
theorem wt_new {f : Nat → Int} {pl : List Int} {k : Nat} (h : RgUp pl k) : tb (wtN f pl k) (cntN pl k) ++ [0] = tb (wtN f pl k) (cntN pl k + 1) := by
  rw [tb_succ, wt_out h _ (Nat.le_refl _)]
/-- the farthest house of each trip -/
def faN (f : Nat → Int) (pl : List Int) : Nat → Nat → Int
  | 0, _ => 0
  | k + 1, t => if pl.getD k 0 = (t : Int) then max (faN f pl k t) (f k) else faN f pl k t
theorem fa_out {f : Nat → Int} {pl : List Int} {k : Nat} (h : RgUp pl k) : ∀ t, cntN pl k ≤ t → faN f pl k t = 0 := by
  induction k with
  | zero => intro t _; rfl
  | succ k ih =>
    intro t ht
    have a := cnt_mono pl k
    have b := rg_lt h k (by omega)
    simp only [faN]
    rw [if_neg (by omega)]
    exact ih (fun i hi => h i (by omega)) t (by omega)
theorem fa_in {f : Nat → Int} {pl : List Int} {k : Nat} {M : Int} (hM : 0 ≤ M) (hf : ∀ j, j < k → 0 ≤ f j ∧ f j ≤ M) : ∀ t, 0 ≤ faN f pl k t ∧ faN f pl k t ≤ M := by
  induction k with
  | zero => intro t; exact ⟨Int.le_refl _, hM⟩
  | succ k ih =>
    intro t
    have a := ih (fun j hj => hf j (by omega)) t
    have b := hf k (by omega)
    simp only [faN]
    split <;> omega
theorem fa_row {f : Nat → Int} {pl : List Int} {k t m : Nat} (ht : pl.getD k 0 = (t : Int)) (h : t < m) : (tb (faN f pl k) m).set t (max (faN f pl k t) (f k)) = tb (faN f pl (k + 1)) m := by
  rw [tb_set _ _ _ _ h]
  refine tb_congr fun i _ => ?_
  simp only [faN]
  by_cases e : i = t
  · subst e; simp only [if_true]; rw [if_pos ht]
  · rw [if_neg e, if_neg (by omega)]
theorem fa_new {f : Nat → Int} {pl : List Int} {k : Nat} (h : RgUp pl k) : tb (faN f pl k) (cntN pl k) ++ [0] = tb (faN f pl k) (cntN pl k + 1) := by
  rw [tb_succ, fa_out h _ (Nat.le_refl _)]
/-- different numbers in the order in which they first come -/
def nmN (pl : List Int) : Nat → List Int
  | 0 => []
  | k + 1 => if pl.getD k 0 ∈ nmN pl k then nmN pl k else nmN pl k ++ [pl.getD k 0]
def nid (pl : List Int) (k : Nat) : Nat := (nmN pl k).idxOf (pl.getD k 0)
def named (pl : List Int) : List Int := tb (fun k => (nid pl k : Int)) pl.length
theorem nm_len (pl : List Int) (k : Nat) : (nmN pl k).length ≤ k := by
  induction k with
  | zero => exact Nat.le_refl _
  | succ k ih =>
    simp only [nmN]
    split
    · omega
    · rw [List.length_append]; simp; exact ih
theorem named_len (pl : List Int) : (named pl).length = pl.length := tb_len _ _
theorem named_get (pl : List Int) (k : Nat) (h : k < pl.length) : (named pl).getD k 0 = (nid pl k : Int) := tb_get _ _ _ h
theorem nid_le (pl : List Int) (k : Nat) : nid pl k ≤ (nmN pl k).length := List.idxOf_le_length
theorem nm_succ_get (pl : List Int) (k : Nat) : (nmN pl (k + 1)).idxOf (pl.getD k 0) = nid pl k := by
  unfold nid
  simp only [nmN]
  split
  · rfl
  · next h => rw [List.idxOf_append, if_neg h, List.idxOf_eq_length h, List.idxOf_cons_self]; omega
theorem nid_lt_iff (pl : List Int) (k : Nat) : nid pl k < (nmN pl k).length ↔ pl.getD k 0 ∈ nmN pl k := List.idxOf_lt_length_iff
theorem tb_idx (n x : Nat) (h : x ≤ n) : (tb (fun i => (i : Int)) n).idxOf (x : Int) = x := by
  induction n with
  | zero => simp [tb]; omega
  | succ n ih =>
    rw [tb_succ, List.idxOf_append]
    by_cases c : x < n
    · rw [if_pos (tb_mem.2 ⟨x, c, rfl⟩)]; exact ih (by omega)
    · rw [if_neg (fun q => by obtain ⟨i, hi, e⟩ := tb_mem.1 q; omega)]
      rw [tb_len]
      rcases Nat.lt_or_eq_of_le h with d | d
      · have : x = n := by omega
        subst this; simp
      · subst d
        have e : List.idxOf ((n + 1 : Nat) : Int) [(n : Int)] = 1 := by
          rw [List.idxOf_cons, show ((n : Int) == ((n + 1 : Nat) : Int)) = false by simp; omega]; rfl
        rw [e]; omega
theorem rg_nm {pl : List Int} {k : Nat} (h : RgUp pl k) : nmN pl k = tb (fun i => (i : Int)) (cntN pl k) := by
  induction k with
  | zero => rfl
  | succ k ih =>
    have e := ih (fun i hi => h i (by omega))
    have s := h k (by omega)
    simp only [nmN, cntN, e]
    by_cases q : pl.getD k 0 = (cntN pl k : Int)
    · rw [if_pos q, if_neg (fun m => by obtain ⟨i, hi, ei⟩ := tb_mem.1 m; omega), tb_succ, q]
    · rw [if_neg q, if_pos (tb_mem.2 ⟨(pl.getD k 0).toNat, by omega, by omega⟩)]
theorem rg_nid {pl : List Int} {k : Nat} (h : RgUp pl (k + 1)) : (nid pl k : Int) = pl.getD k 0 := by
  have s := h k (by omega)
  unfold nid
  rw [rg_nm (fun i hi => h i (by omega))]
  have := tb_idx (cntN pl k) (pl.getD k 0).toNat (by omega)
  rw [show ((pl.getD k 0).toNat : Int) = pl.getD k 0 by omega] at this
  rw [this]
  omega
theorem nid_rg {pl : List Int} {n : Nat} (h : ∀ k, k < n → (nid pl k : Int) = pl.getD k 0) : RgUp pl n := by
  induction n with
  | zero => intro j hj; omega
  | succ n ih =>
    have r := ih (fun k hk => h k (by omega))
    intro j hj
    rcases Nat.lt_or_eq_of_le (Nat.le_of_lt_succ hj) with c | c
    · exact r j c
    · subst c
      have e := h j (by omega)
      have l := nid_le pl j
      rw [rg_nm r, tb_len] at l
      omega
theorem named_iff (pl : List Int) : named pl = pl ↔ RgUp pl pl.length := by
  constructor
  · intro h
    refine nid_rg fun k hk => ?_
    rw [← named_get pl k hk, h]
  · intro h
    have : named pl = tb (fun k => pl.getD k 0) pl.length := tb_congr fun k hk => rg_nid (fun j hj => h j (by omega))
    rw [this, tb_id]
/-- parcels put into the first trip in which there is room -/
def pkT (f : Nat → Int) (bag : Int) (ws : List Int) (k : Nat) : Nat := ws.findIdx (fun w => decide (w + f k ≤ bag))
def pkW (f : Nat → Int) (bag : Int) : Nat → List Int
  | 0 => []
  | k + 1 => (if pkT f bag (pkW f bag k) k = (pkW f bag k).length then pkW f bag k ++ [0] else pkW f bag k).set (pkT f bag (pkW f bag k) k) ((pkW f bag k).getD (pkT f bag (pkW f bag k) k) 0 + f k)
def packed (f : Nat → Int) (bag : Int) (n : Nat) : List Int := tb (fun k => (pkT f bag (pkW f bag k) k : Int)) n
theorem pkT_le (f : Nat → Int) (bag : Int) (ws : List Int) (k : Nat) : pkT f bag ws k ≤ ws.length := List.findIdx_le_length
theorem pkW_len (f : Nat → Int) (bag : Int) (k : Nat) : (pkW f bag (k + 1)).length = if pkT f bag (pkW f bag k) k = (pkW f bag k).length then (pkW f bag k).length + 1 else (pkW f bag k).length := by
  simp only [pkW, List.length_set]
  split <;> simp
theorem packed_cnt (f : Nat → Int) (bag : Int) (n k : Nat) (h : k ≤ n) : cntN (packed f bag n) k = (pkW f bag k).length := by
  induction k with
  | zero => rfl
  | succ k ih =>
    rw [pkW_len]
    simp only [cntN]
    rw [ih (by omega), packed, tb_get _ _ _ (by omega)]
    by_cases c : pkT f bag (pkW f bag k) k = (pkW f bag k).length
    · rw [if_pos c, if_pos (by rw [c])]
    · rw [if_neg c, if_neg (by omega)]
theorem packed_rg (f : Nat → Int) (bag : Int) (n : Nat) : RgUp (packed f bag n) n := fun j hj => by
  rw [packed_cnt f bag n j (by omega), packed, tb_get _ _ _ hj]
  have := pkT_le f bag (pkW f bag j) j
  omega
theorem packed_named (f : Nat → Int) (bag : Int) (n : Nat) : named (packed f bag n) = packed f bag n := (named_iff _).2 (by rw [show (packed f bag n).length = n from tb_len _ _]; exact packed_rg f bag n)
/-- letters: trips to a house as long as room lacks -/
def ltR (bag house : Int) : Nat → List Int × Int → List Int × Int
  | 0, s => s
  | n + 1, (o, r) => if r < 0 then ltR bag house n (o ++ [house], r + bag) else (o, r)
theorem ltR_done (bag house : Int) (n : Nat) (o : List Int) (r : Int) (h : 0 ≤ r) : ltR bag house n (o, r) = (o, r) := by
  cases n with
  | zero => rfl
  | succ n => simp only [ltR]; rw [if_neg (by omega)]
theorem ltR_step (bag house : Int) (n : Nat) (o : List Int) (r : Int) (h : r < 0) : ltR bag house (n + 1) (o, r) = ltR bag house n (o ++ [house], r + bag) := by
  simp only [ltR]; rw [if_pos h]
/-- what the last k houses need, and the room that is left -/
def ltS (xs : List Int) (bag : Int) : Nat → List Int × Int
  | 0 => ([], 0)
  | k + 1 => ltR bag ((xs.length - k : Nat) : Int) 1001 ((ltS xs bag k).1, (ltS xs bag k).2 - xs.getD (xs.length - (k + 1)) 0)
theorem ltR_prop (bag house : Int) (hb : 1 ≤ bag) (L : Int) (P : Int → Prop) (hP : P house) : ∀ (n : Nat) (o : List Int) (r : Int), -(n : Int) ≤ r → r ≤ bag → ((o.length : Int) ≤ L) → (r < 0 → (o.length : Int) - r ≤ L) → (∀ x ∈ o, P x) →
    0 ≤ (ltR bag house n (o, r)).2 ∧ (ltR bag house n (o, r)).2 ≤ bag ∧ ((ltR bag house n (o, r)).1.length : Int) ≤ L ∧ ∀ x ∈ (ltR bag house n (o, r)).1, P x := by
  intro n
  induction n with
  | zero => intro o r h1 h2 h3 h4 h5; exact ⟨by simpa [ltR] using h1, h2, h3, h5⟩
  | succ n ih =>
    intro o r h1 h2 h3 h4 h5
    by_cases c : r < 0
    · rw [ltR_step _ _ _ _ _ c]
      have := h4 c
      refine ih _ _ (by omega) (by omega) (by simp; omega) (fun d => by simp; omega) ?_
      intro x hx
      rcases List.mem_append.1 hx with q | q
      · exact h5 x q
      · simp at q; rw [q]; exact hP
    · rw [ltR_done _ _ _ _ _ (by omega)]
      exact ⟨by simp only; omega, h2, h3, h5⟩
theorem ltS_prop (xs : List Int) (bag : Int) (hb : 1 ≤ bag) (hx : ∀ j, j < xs.length → 0 ≤ xs.getD j 0 ∧ xs.getD j 0 ≤ 1000) (k : Nat) (hk : k ≤ xs.length) :
    0 ≤ (ltS xs bag k).2 ∧ (ltS xs bag k).2 ≤ bag ∧ ((ltS xs bag k).1.length : Int) ≤ 1000 * k ∧ ∀ x ∈ (ltS xs bag k).1, 1 ≤ x ∧ x ≤ (xs.length : Int) := by
  induction k with
  | zero => exact ⟨Int.le_refl _, by simp only [ltS]; omega, by simp [ltS], fun x hx => by simp [ltS] at hx⟩
  | succ k ih =>
    obtain ⟨a, b, c, d⟩ := ih (by omega)
    have e := hx (xs.length - (k + 1)) (by omega)
    simp only [ltS]
    exact ltR_prop bag _ hb (1000 * ((k + 1 : Nat) : Int)) (fun x => 1 ≤ x ∧ x ≤ (xs.length : Int)) (by omega) 1001 _ _ (by omega) (by omega) (by omega) (fun _ => by omega) d
/-- the sum of a list -/
def smN (xs : List Int) : Nat → Int
  | 0 => 0
  | k + 1 => smN xs k + xs.getD k 0
end Bg
end Go.Proofs
