/-
  Plain mathematics of a search breadth first: where one comes is told by lists. No program here.
-/
import Derived.Test.YtfdiiichjopncaaDoorGrMath
namespace Go.Proofs.Gm
open Go
set_option linter.unusedVariables false
set_option linter.unusedSimpArgs false
/-- where one comes, told by a list, as directions -/
def nbL (ls : Nat → List Nat) (u j : Nat) : Option Nat := (ls u)[j]?
theorem scan_fold (nb : Nat → Nat → Option Nat) (u : Nat) (s : St) (k : Nat) : scan nb u s k = ((List.range k).filterMap (nb u)).foldl (fun s m => visit u s (some m)) s := by
  induction k with
  | zero => rfl
  | succ k ih =>
    rw [List.range_succ, List.filterMap_append, List.foldl_append, ← ih]
    show visit u (scan nb u s k) (nb u k) = _
    cases h : nb u k with
    | none => simp [h, visit]
    | some m => simp [h]
theorem scan_nbL (ls : Nat → List Nat) (u : Nat) (s : St) (k : Nat) : scan (nbL ls) u s k = ((ls u).take k).foldl (fun s m => visit u s (some m)) s := by
  induction k with
  | zero => simp [scan]
  | succ k ih =>
    show visit u (scan (nbL ls) u s k) ((ls u)[k]?) = _
    rw [ih]
    by_cases hk : k < (ls u).length
    · rw [List.take_succ_eq_append_getElem hk, List.foldl_append, List.getElem?_eq_getElem hk]
      rfl
    · rw [List.getElem?_eq_none (by omega), List.take_of_length_le (by omega), List.take_of_length_le (by omega)]
      rfl
theorem scan_end (ls : Nat → List Nat) (u : Nat) (s : St) (k : Nat) (hk : (ls u).length ≤ k) : scan (nbL ls) u s k = scan (nbL ls) u s (ls u).length := by
  rw [scan_nbL, scan_nbL, List.take_of_length_le hk, List.take_of_length_le (Nat.le_refl _)]
/-- directions, as a list -/
def lsN (nb : Nat → Nat → Option Nat) (u : Nat) : List Nat := (List.range 4).filterMap (nb u)
theorem lsN_len (nb : Nat → Nat → Option Nat) (u : Nat) : (lsN nb u).length ≤ 4 := by
  unfold lsN
  exact Nat.le_trans (List.length_filterMap_le _ _) (by simp)
theorem run_lsN (nb : Nat → Nat → Option Nat) (N s0 k : Nat) : run (nbL (lsN nb)) N s0 k = run nb N s0 k := by
  induction k with
  | zero => rfl
  | succ k ih =>
    simp only [run]
    rw [ih]
    congr 1
    rw [scan_fold nb, scan_nbL, List.take_of_length_le (lsN_len nb _)]
    rfl
theorem fin_lsN (nb : Nat → Nat → Option Nat) (N s0 : Nat) : fin (nbL (lsN nb)) N s0 = fin nb N s0 := run_lsN nb N s0 N
theorem lsN_mem {nb : Nat → Nat → Option Nat} {u v : Nat} (h : v ∈ lsN nb u) : ∃ j, j < 4 ∧ nb u j = some v := by
  unfold lsN at h
  obtain ⟨j, hj, e⟩ := List.mem_filterMap.1 h
  exact ⟨j, List.mem_range.1 hj, e⟩
theorem nbL_valid {ls : Nat → List Nat} {N : Nat} (h : ∀ u, u < N → ∀ v ∈ ls u, v < N) : ∀ n i v, n < N → nbL ls n i = some v → v < N := fun n i v hn e => h n hn v (List.mem_of_getElem? e)
end Go.Proofs.Gm
