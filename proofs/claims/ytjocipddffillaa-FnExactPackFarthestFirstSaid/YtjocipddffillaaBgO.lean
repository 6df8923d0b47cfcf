/-
  Chapter 8, plain: orders of parcels, parcels put in an order into the first trip in which there is room.
-/
import Derived.Test.YtjocipddffillaaBgM
namespace Go.Proofs
namespace Bg
set_option linter.unusedVariables false
set_option linter.unusedSimpArgs false
theorem getD_ofLt {xs : List Int} {j : Nat} (h : j < xs.length) : xs.getD j 0 = xs[j] := by simp [List.getD, h]
def insAt (xs : List Int) (k : Nat) (x : Int) : List Int := (xs.take k ++ [x]) ++ xs.drop k
theorem insAt_len (xs : List Int) (k : Nat) (x : Int) (h : k ≤ xs.length) : (insAt xs k x).length = xs.length + 1 := by simp [insAt]; omega
def posD (h : Nat → Int) (xs : List Int) (i : Nat) : Nat → Nat
  | 0 => 0
  | k + 1 => if h (xs.getD k 0).toNat < h i then posD h xs i k else k + 1
theorem posD_le (h : Nat → Int) (xs : List Int) (i k : Nat) : posD h xs i k ≤ k := by
  induction k with
  | zero => exact Nat.le_refl _
  | succ k ih => simp only [posD]; split <;> omega
def posN (h : Nat → Int) (far : Bool) (xs : List Int) (i : Nat) : Nat := if far = true then posD h xs i xs.length else xs.length
theorem posN_le (h : Nat → Int) (far : Bool) (xs : List Int) (i : Nat) : posN h far xs i ≤ xs.length := by
  unfold posN
  split
  · exact posD_le _ _ _ _
  · exact Nat.le_refl _
def ordN (h : Nat → Int) (far : Bool) : Nat → List Int
  | 0 => []
  | i + 1 => insAt (ordN h far i) (posN h far (ordN h far i) i) i
theorem ord_len (h : Nat → Int) (far : Bool) (i : Nat) : (ordN h far i).length = i := by
  induction i with
  | zero => rfl
  | succ i ih => simp only [ordN]; rw [insAt_len _ _ _ (posN_le _ _ _ _), ih]
theorem ord_in (h : Nat → Int) (far : Bool) (i : Nat) : ∀ x ∈ ordN h far i, 0 ≤ x ∧ x < (i : Int) := by
  induction i with
  | zero => intro x hx; simp [ordN] at hx
  | succ i ih =>
    intro x hx
    simp only [ordN, insAt, List.mem_append, List.mem_singleton] at hx
    rcases hx with (hx | hx) | hx
    · have := ih x (List.mem_of_mem_take hx); omega
    · omega
    · have := ih x (List.mem_of_mem_drop hx); omega
theorem ord_at (h : Nat → Int) (far : Bool) (i k : Nat) (hk : k < i) : 0 ≤ (ordN h far i).getD k 0 ∧ (ordN h far i).getD k 0 < (i : Int) := by
  have hl : k < (ordN h far i).length := by rw [ord_len]; exact hk
  rw [getD_ofLt hl]
  exact ord_in h far i _ (List.getElem_mem hl)
theorem ord_near (h : Nat → Int) (i : Nat) : ordN h false i = tb (fun j => (j : Int)) i := by
  induction i with
  | zero => rfl
  | succ i ih =>
    simp only [ordN, posN, insAt, ih]
    simp [tb_succ, tb_len]
    try rw [List.take_of_length_le (by rw [tb_len]; exact Nat.le_refl _), List.drop_of_length_le (by rw [tb_len]; exact Nat.le_refl _)]
    try simp
theorem findIdx_of {p : Int → Bool} {xs : List Int} {m : Nat} (hm : m ≤ xs.length) (h : ∀ j, j < m → p (xs.getD j 0) = false) (e : m = xs.length ∨ p (xs.getD m 0) = true) : xs.findIdx p = m := by
  induction xs generalizing m with
  | nil => simp at hm; subst hm; rfl
  | cons x xs ih =>
    rw [List.findIdx_cons]
    cases c : p x
    · cases m with
      | zero =>
        rcases e with e | e
        · simp at e
        · simp at e; rw [e] at c; cases c
      | succ m =>
        have := ih (m := m) (by simpa using hm) (fun j hj => by simpa using h (j + 1) (by omega)) (by
          rcases e with e | e
          · exact .inl (by simpa using e)
          · exact .inr (by simpa using e))
        simp [this]
    · cases m with
      | zero => rfl
      | succ m => have := h 0 (by omega); simp at this; rw [this] at c; cases c
theorem pkT_congr {f g : Nat → Int} {bag : Int} {ws : List Int} {k : Nat} (h : f k = g k) : pkT f bag ws k = pkT g bag ws k := by
  unfold pkT
  rw [h]
theorem pkW_congr {f g : Nat → Int} {bag : Int} {k : Nat} (h : ∀ j, j < k → f j = g j) : pkW f bag k = pkW g bag k := by
  induction k with
  | zero => rfl
  | succ k ih =>
    simp only [pkW]
    rw [ih (fun j hj => h j (by omega)), h k (by omega)]
    simp only [pkT_congr (ws := pkW g bag k) (h k (by omega))]
theorem pkW_le (f : Nat → Int) (bag : Int) (k : Nat) : (pkW f bag k).length ≤ k := by
  induction k with
  | zero => exact Nat.le_refl _
  | succ k ih => rw [pkW_len]; split <;> omega
theorem getD_set' (xs : List Int) (i j : Nat) (x : Int) (hi : i < xs.length) : (xs.set i x).getD j 0 = if j = i then x else xs.getD j 0 := by
  by_cases c : j < xs.length
  · rw [getD_ofLt (by simpa using c), getD_ofLt c, List.getElem_set]
    by_cases e : i = j
    · subst e; simp
    · rw [if_neg e, if_neg (fun q => e q.symm)]
  · rw [if_neg (by omega)]
    simp only [List.getD]
    rw [List.getElem?_eq_none (by simp; omega), List.getElem?_eq_none (by omega)]
/-- what is asked of what each trip holds -/
def InW (bag : Int) (ws : List Int) : Prop := ∀ j, j < ws.length → 0 ≤ ws.getD j 0 ∧ ws.getD j 0 ≤ bag
theorem pkT_hit {f : Nat → Int} {bag : Int} {ws : List Int} {k : Nat} (h : pkT f bag ws k < ws.length) : ws.getD (pkT f bag ws k) 0 + f k ≤ bag := by
  have := List.findIdx_getElem (p := fun w => decide (w + f k ≤ bag)) (xs := ws) (w := h)
  rw [getD_ofLt h]
  exact of_decide_eq_true this
theorem getD_app (xs : List Int) (y : Int) (j : Nat) : (xs ++ [y]).getD j 0 = if j < xs.length then xs.getD j 0 else if j = xs.length then y else 0 := by
  by_cases c : j < xs.length
  · rw [if_pos c, getD_ofLt (by simp; omega), getD_ofLt c, List.getElem_append_left c]
  · rw [if_neg c]
    by_cases d : j = xs.length
    · subst d; rw [if_pos rfl]; simp [List.getD]
    · rw [if_neg d]; simp only [List.getD]; rw [List.getElem?_eq_none (by simp; omega)]; rfl
theorem pkW_in {f : Nat → Int} {bag : Int} (hf : ∀ j, 0 ≤ f j ∧ f j ≤ bag) (k : Nat) : InW bag (pkW f bag k) := by
  induction k with
  | zero => intro j hj; simp [pkW] at hj
  | succ k ih =>
    intro j hj
    have hk := hf k
    have hle := pkT_le f bag (pkW f bag k) k
    rw [pkW_len] at hj
    have hhit := @pkT_hit f bag (pkW f bag k) k
    simp only [pkW]
    by_cases c : pkT f bag (pkW f bag k) k = (pkW f bag k).length
    · rw [if_pos c] at hj ⊢
      rw [getD_set' _ _ _ _ (by simp; omega)]
      rw [c]
      have hz : (pkW f bag k).getD (pkW f bag k).length 0 = 0 := by simp [List.getD]
      by_cases d : j = (pkW f bag k).length
      · rw [if_pos d, hz]; omega
      · rw [if_neg d, getD_app, if_pos (by omega)]
        exact ih j (by omega)
    · rw [if_neg c] at hj ⊢
      rw [getD_set' _ _ _ _ (by omega)]
      by_cases d : j = pkT f bag (pkW f bag k) k
      · rw [if_pos d]
        have a := hhit (by omega)
        have b := ih (pkT f bag (pkW f bag k) k) (by omega)
        omega
      · rw [if_neg d]; exact ih j hj
/-- the plan of parcels put in some order -/
def plnN (f : Nat → Int) (bag : Int) (ord : List Int) (n : Nat) : Nat → List Int
  | 0 => List.replicate n 0
  | k + 1 => (plnN f bag ord n k).set (ord.getD k 0).toNat (pkT f bag (pkW f bag k) k : Int)
theorem pln_len (f : Nat → Int) (bag : Int) (ord : List Int) (n k : Nat) : (plnN f bag ord n k).length = n := by
  induction k with
  | zero => simp [plnN]
  | succ k ih => simp only [plnN, List.length_set]; exact ih
theorem pln_near (f : Nat → Int) (bag : Int) (n k : Nat) (hk : k ≤ n) : plnN f bag (tb (fun j => (j : Int)) n) n k = tb (fun j => if j < k then (pkT f bag (pkW f bag j) j : Int) else 0) n := by
  induction k with
  | zero =>
    simp only [plnN]
    apply List.ext_getElem
    · simp [tb]
    · intro j h1 h2; simp [tb]
  | succ k ih =>
    simp only [plnN]
    rw [ih (by omega), tb_get _ _ _ (by omega), Int.toNat_natCast, tb_set _ _ _ _ (by omega)]
    refine tb_congr fun i hi => ?_
    by_cases c : i = k
    · subst c; simp
    · rw [if_neg c]
      by_cases d : i < k
      · rw [if_pos d, if_pos (by omega)]
      · rw [if_neg d, if_neg (by omega)]
theorem pln_packed (f : Nat → Int) (bag : Int) (n : Nat) : plnN f bag (tb (fun j => (j : Int)) n) n n = packed f bag n := by
  rw [pln_near _ _ _ _ (Nat.le_refl _)]
  exact tb_congr fun i hi => by rw [if_pos hi]
theorem pln_congr {f g : Nat → Int} {bag : Int} {ord : List Int} {n k : Nat} (h : ∀ j, j < k → f j = g j) : plnN f bag ord n k = plnN g bag ord n k := by
  induction k with
  | zero => rfl
  | succ k ih =>
    simp only [plnN]
    rw [ih (fun j hj => h j (by omega)), pkW_congr (fun j hj => h j (by omega)), pkT_congr (h k (by omega))]
/-- what is left in each trip -/
def lefN (f : Nat → Int) (bag : Int) (k : Nat) : List Int := (pkW f bag k).map (fun w => bag - w)
theorem lef_len (f : Nat → Int) (bag : Int) (k : Nat) : (lefN f bag k).length = (pkW f bag k).length := by simp [lefN]
theorem lef_get (f : Nat → Int) (bag : Int) (k j : Nat) (h : j < (pkW f bag k).length) : (lefN f bag k).getD j 0 = bag - (pkW f bag k).getD j 0 := by
  rw [getD_ofLt (by rw [lef_len]; exact h), getD_ofLt h]
  simp [lefN]
/-- the model's search: the first trip with room -/
theorem lef_find {f : Nat → Int} {bag : Int} {k m : Nat} (hm : m ≤ (pkW f bag k).length) (h : ∀ j, j < m → (lefN f bag k).getD j 0 < f k) (e : m = (pkW f bag k).length ∨ ¬ (lefN f bag k).getD m 0 < f k) : pkT f bag (pkW f bag k) k = m := by
  refine findIdx_of hm (fun j hj => ?_) ?_
  · have := h j hj
    rw [lef_get _ _ _ _ (by omega)] at this
    exact decide_eq_false (by omega)
  · by_cases c : m = (pkW f bag k).length
    · exact .inl c
    · rcases e with e | e
      · exact .inl e
      · rw [lef_get _ _ _ _ (by omega)] at e
        exact .inr (decide_eq_true (by omega))
theorem lef_new {f : Nat → Int} {bag : Int} {k : Nat} (c : pkT f bag (pkW f bag k) k = (pkW f bag k).length) : (lefN f bag k ++ [bag]).set (pkW f bag k).length (bag - f k) = lefN f bag (k + 1) := by
  unfold lefN
  simp only [pkW]
  rw [if_pos c, c, show (pkW f bag k).getD (pkW f bag k).length 0 = 0 by simp [List.getD], List.map_set, List.map_append]
  simp
theorem lef_old {f : Nat → Int} {bag : Int} {k : Nat} (c : pkT f bag (pkW f bag k) k < (pkW f bag k).length) : (lefN f bag k).set (pkT f bag (pkW f bag k) k) ((lefN f bag k).getD (pkT f bag (pkW f bag k) k) 0 - f k) = lefN f bag (k + 1) := by
  rw [lef_get _ _ _ _ c]
  unfold lefN
  simp only [pkW]
  rw [if_neg (by omega), List.map_set]
  congr 1
  omega
end Bg
end Go.Proofs
