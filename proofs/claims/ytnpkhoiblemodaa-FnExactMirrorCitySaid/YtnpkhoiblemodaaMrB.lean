/-
  Plain words of chapter 4: what the sort makes of blocks told from the other side is what putting them in one after the other makes.
-/
import Derived.Test.YtnpkhoiblemodaaMrM
namespace Av
set_option linter.unusedVariables false
set_option linter.unusedSimpArgs false
def leB (a b : Blk) : Bool := !decide (Lt b a)
theorem leB_total (a b : Blk) : (leB a b || leB b a) = true := by
  unfold leB
  by_cases h : Lt b a
  · simp [h, lt_asymm h]
  · simp [h]
theorem leB_trans (a b c : Blk) (h1 : leB a b = true) (h2 : leB b c = true) : leB a c = true := by
  unfold leB at *
  simp only [Bool.not_eq_true', decide_eq_false_iff_not] at *
  intro h
  rcases lt_total a b with q | q | q
  · exact h2 (lt_trans h q)
  · subst q; exact h2 h
  · exact h1 q
theorem leB_anti {a b : Blk} (h1 : leB a b = true) (h2 : leB b a = true) : a = b := by
  unfold leB at *
  simp only [Bool.not_eq_true', decide_eq_false_iff_not] at *
  exact eq_of h2 h1
theorem ins_perm (cl : List Blk) (b : Blk) : (ins cl b).Perm (b :: cl) := by
  unfold ins
  refine List.perm_middle.trans ?_
  rw [List.take_append_drop]
theorem mirL_perm (W : Int) (ps : List Blk) : ∀ k, k ≤ ps.length → (mirL W ps k).Perm ((ps.take k).map (mirB W)) := by
  intro k
  induction k with
  | zero => intro _; simp [mirL_zero]
  | succ k ih =>
    intro h
    rw [mirL_step W (by omega), List.take_succ_eq_append_getElem (show k < ps.length by omega), List.map_append, getD_eq _ _ (by omega)]
    refine (ins_perm _ _).trans (((ih (by omega)).cons _).trans ?_)
    exact (List.perm_append_comm (l₁ := (ps.take k).map (mirB W)) (l₂ := [mirB W ps[k]])).symm
theorem up_le {cl : List Blk} (h : Up cl) : cl.Pairwise (fun a b => leB a b = true) :=
  h.imp fun {a b} q => by unfold leB; simp [lt_asymm q]
/-- the sort's list -/
theorem sort_mir {W H : Int} {ps : List Blk} (h : Ok W H ps) : (ps.map (mirB W)).mergeSort leB = mirL W ps ps.length := by
  have hp := mirL_perm W ps ps.length (Nat.le_refl _)
  rw [List.take_length] at hp
  refine List.Perm.eq_of_pairwise (le := fun a b => leB a b = true) ?_ ?_ ?_ ((List.mergeSort_perm _ _).trans hp.symm)
  · intro a b _ _ h1 h2; exact leB_anti h1 h2
  · exact List.pairwise_mergeSort leB_trans leB_total _
  · exact up_le (mirL_ok h _ (Nat.le_refl _)).1.2.2.2.2.2.2
/-- a block of the program's: between the two corners told from the other side -/
theorem mir_bb {W x y : Int} {u : Bool} : (min (W - 1 - x) (W - 1 - (x + 1 - up (x, y, u))), min y (y + up (x, y, u)), decide (W - 1 - x = W - 1 - (x + 1 - up (x, y, u)))) = mirB W (x, y, u) := by
  unfold mirB up
  cases u <;> simp <;> omega
end Av
