/-
  Contracts of chapter 5: how many boxes are enough for a longest walk (both sides), fewest boxes, as many boxes as asked for.
-/
import Derived.Test.YtkhjjafeoijaaaaMdP
namespace Go.Proofs
open Go.RowKit
set_option linter.unusedVariables false
set_option linter.unusedSimpArgs false
/-- boxes needed by the first houses, and how far the last one reaches -/
def ndS (xs : List Int) (far : Int) : Nat → Int × Int
  | 0 => (0, -1)
  | i + 1 => if 0 < gx xs i ∧ (ndS xs far i).2 < (i : Int) then ((ndS xs far i).1 + 1, (i : Int) + 2 * far) else ndS xs far i
def ndI (xs : List Int) (far : Int) : Int := (ndS xs far xs.length).1
theorem ndS_bd (xs : List Int) (far : Int) (h0 : 0 ≤ far) (i : Nat) : 0 ≤ (ndS xs far i).1 ∧ (ndS xs far i).1 ≤ i ∧ -1 ≤ (ndS xs far i).2 ∧ (ndS xs far i).2 ≤ (i : Int) - 1 + 2 * far := by
  induction i with
  | zero => simp [ndS]; omega
  | succ i ih => unfold ndS; split <;> (try simp only) <;> omega
theorem ndS_stay (xs : List Int) (far : Int) (i m : Nat) (h : ∀ t : Nat, i ≤ t → t < i + m → (t : Int) ≤ (ndS xs far i).2) : ndS xs far (i + m) = ndS xs far i := by
  induction m with
  | zero => rfl
  | succ m ih =>
    have e := ih (fun t h1 h2 => h t h1 (by omega))
    rw [← Nat.add_assoc, ndS, e, if_neg]
    intro c
    have := h (i + m) (by omega) (by omega)
    omega
theorem ndS_mono (xs : List Int) (a b : Int) (h0 : 0 ≤ a) (h : a ≤ b) (i : Nat) : (ndS xs b i).1 < (ndS xs a i).1 ∨ ((ndS xs b i).1 = (ndS xs a i).1 ∧ (ndS xs a i).2 ≤ (ndS xs b i).2) := by
  induction i with
  | zero => right; simp [ndS]
  | succ i ih =>
    have c := ndS_bd xs a h0 i
    have d := ndS_bd xs b (by omega) i
    unfold ndS
    by_cases p : 0 < gx xs i
    · by_cases q : (ndS xs a i).2 < (i : Int) <;> by_cases r : (ndS xs b i).2 < (i : Int) <;> simp only [p, q, r, and_self, and_true, true_and, if_true, and_false, if_false] <;> omega
    · simp only [p, false_and, if_false]; exact ih
theorem ndI_mono (xs : List Int) (a b : Int) (h0 : 0 ≤ a) (h : a ≤ b) : ndI xs b ≤ ndI xs a := by
  have := ndS_mono xs a b h0 h xs.length
  unfold ndI
  omega
/-- thirty steps are enough for one box -/
theorem ndI_one (xs : List Int) (hl : xs.length ≤ 60) : ndI xs 30 ≤ 1 := by
  have key : ∀ i : Nat, i ≤ 60 → (ndS xs 30 i).1 ≤ 0 ∨ ((ndS xs 30 i).1 = 1 ∧ 60 ≤ (ndS xs 30 i).2) := by
    intro i
    induction i with
    | zero => intro _; left; simp [ndS]
    | succ i ih =>
      intro hi
      unfold ndS
      split
      · rename_i c
        rcases ih (by omega) with q | q
        · have := ndS_bd xs 30 (by omega) i
          right; simp only; omega
        · omega
      · exact ih (by omega)
  have := key xs.length hl
  unfold ndI
  omega
theorem ndI_pos {xs : List Int} (hg : GoodP xs) (far : Int) (h0 : 0 ≤ far) : 1 ≤ ndI xs far := by
  obtain ⟨j, hj, pj⟩ := (sumF_pos (f := gx xs) (fun i _ => (hg.bd i).1)).1 hg.2.2
  have key : ∀ i : Nat, (∃ j, j < i ∧ 0 < gx xs j) → 1 ≤ (ndS xs far i).1 := by
    intro i
    induction i with
    | zero => rintro ⟨j, hj, _⟩; omega
    | succ i ih =>
      rintro ⟨j, hj, pj⟩
      have b := ndS_bd xs far h0 i
      unfold ndS
      by_cases c : ∃ j, j < i ∧ 0 < gx xs j
      · have := ih c
        split <;> (try simp only) <;> omega
      · have e : j = i := by
          rcases Nat.lt_or_eq_of_le (Nat.le_of_lt_succ hj) with q | q
          · exact absurd ⟨j, q, pj⟩ c
          · exact q
        subst e
        have z : ∀ t : Nat, (∀ u, u < t → ¬ 0 < gx xs u) → ndS xs far t = (0, -1) := by
          intro t
          induction t with
          | zero => intro _; rfl
          | succ t ih2 => intro hu; rw [ndS, ih2 (fun u h => hu u (by omega)), if_neg (fun q => hu t (by omega) q.1)]
        rw [z j (fun u hu pu => c ⟨u, hu, pu⟩), if_pos ⟨pj, by simp only; omega⟩]
        simp
  exact key xs.length ⟨j, hj, pj⟩
def NdRel (xs : List Int) (far : Int) (w : World) (n r i : Value) (wr : World) : Prop := Gr w wr ∧ ∃ k : Nat, k ≤ xs.length ∧ i = .int .i64 k ∧ n = .int .i64 (ndS xs far k).1 ∧ r = .int .i64 (ndS xs far k).2
/-- at a house that is not reached yet -/
def BwRel (xs : List Int) (far : Int) (w : World) (n i : Value) (wr : World) : Prop := Gr w wr ∧ ∃ k : Nat, k ≤ xs.length + 200 ∧ i = .int .i64 k ∧ n = .int .i64 (ndS xs far (min k xs.length)).1 ∧ (ndS xs far (min k xs.length)).2 < (k : Int)
end Go.Proofs
