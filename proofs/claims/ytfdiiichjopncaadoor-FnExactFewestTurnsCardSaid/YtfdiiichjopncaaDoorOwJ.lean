/-
  Chapter 6: the graph of the ways (plain words).
-/
import Derived.Test.YtfdiiichjopncaaDoorOwI
import Derived.Test.YtfdiiichjopncaaDoorBfA
namespace Go.Proofs
open Go.RowKit Av Gm Go.Maps
set_option linter.unusedVariables false
set_option linter.unusedSimpArgs false
/-- where one drives from a vertex in a direction -/
def nbW (s a : ByteArray) (n j : Nat) : Option Nat :=
  if j < 4 ∧ n < a.size * s.size ∧ drv s a (n / s.size) (n % s.size) j = true then some ((((n / s.size : Nat) : Int) + dx j) * s.size + (((n % s.size : Nat) : Int) + dy j)).toNat else none
theorem nbW_some {s a : ByteArray} {n j : Nat} (hj : j < 4) (hn : n < a.size * s.size) (h : drv s a (n / s.size) (n % s.size) j = true) :
    ∃ m, nbW s a n j = some m ∧ m < a.size * s.size ∧ ((m / s.size : Nat) : Int) = ((n / s.size : Nat) : Int) + dx j ∧ ((m % s.size : Nat) : Int) = ((n % s.size : Nat) : Int) + dy j ∧ (m : Int) = (((n / s.size : Nat) : Int) + dx j) * s.size + (((n % s.size : Nat) : Int) + dy j) := by
  have ho : onC a.size s.size ((((n / s.size : Nat) : Int) + dx j), (((n % s.size : Nat) : Int) + dy j)) := by
    unfold drv at h
    simp only [Bool.and_eq_true] at h
    exact of_decide_eq_true h.2
  unfold onC at ho
  simp only at ho
  obtain ⟨x, hx⟩ : ∃ x : Nat, ((n / s.size : Nat) : Int) + dx j = x := ⟨_, (Int.toNat_of_nonneg ho.1).symm⟩
  obtain ⟨y, hy⟩ : ∃ y : Nat, ((n % s.size : Nat) : Int) + dy j = y := ⟨_, (Int.toNat_of_nonneg ho.2.2.1).symm⟩
  rw [hx, hy] at ho
  have e := idx_on (Wn := a.size) (Hn := s.size) (x := x) (y := y) (by omega) (by omega)
  refine ⟨x * s.size + y, ?_, e.1, by rw [e.2.1, hx], by rw [e.2.2, hy], by rw [hx, hy]; simp⟩
  unfold nbW
  rw [if_pos ⟨hj, hn, h⟩, hx, hy]
  congr 1
theorem nbW_none {s a : ByteArray} {n j : Nat} (h : drv s a (n / s.size) (n % s.size) j = false) : nbW s a n j = none := by
  unfold nbW
  rw [if_neg (by rw [h]; simp)]
theorem nbW_valid {s a : ByteArray} : ∀ n j v, n < a.size * s.size → nbW s a n j = some v → v < a.size * s.size := by
  intro n j v hn h
  cases hs : drv s a (n / s.size) (n % s.size) j
  · rw [nbW_none hs] at h; cases h
  · have hj : j < 4 := by
      unfold nbW at h
      split at h
      · rename_i q; exact q.1
      · cases h
    obtain ⟨m, e, hm, _⟩ := nbW_some hj hn hs
    rw [e] at h; cases h; exact hm
end Go.Proofs
