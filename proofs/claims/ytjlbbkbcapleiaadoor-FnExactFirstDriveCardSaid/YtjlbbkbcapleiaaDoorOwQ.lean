/-
  Chapter 6: there and back, how many corners are driven to, both functions.
-/
import Derived.Test.YtjlbbkbcapleiaaDoorOwP
import Derived.Test.YtjlbbkbcapleiaaDoorGrAll
import Derived.Deep.RegionHeld3
namespace Go.Proofs
open Go.RowKit Av Gm Go.Maps
set_option linter.unusedVariables false
set_option linter.unusedSimpArgs false
/-- the first k, those that are found -/
def cnk (l : List Int) (k : Nat) : Nat := ((l.take k).filter (fun d => decide (0 ≤ d))).length
theorem cnk_succ (l : List Int) (k : Nat) (h : k < l.length) : cnk l (k + 1) = if 0 ≤ l.getD k 0 then cnk l k + 1 else cnk l k := by
  unfold cnk
  rw [← List.take_append_getElem h, List.filter_append, List.length_append]
  have e : l.getD k 0 = l[k] := by simp [List.getD, h]
  rw [e]
  by_cases q : 0 ≤ l[k]
  · simp [q]
  · simp [q]
theorem cnk_le (l : List Int) (k : Nat) : cnk l k ≤ k := by
  unfold cnk
  exact Nat.le_trans (List.length_filter_le _ _) (by simp; omega)
def tbB (s a : ByteArray) (xs ys : List Int) : Bool := wB s a xs ys && wB s a ys xs
def tbV (s a : ByteArray) (xs ys : List Int) : Int := if tbB s a xs ys then wV s a xs ys + wV s a ys xs else 0
theorem ksb {w w' : World} {b : Nat} {x y : Value} (g : Below w.heap.size w w') (h : w.cell? ⟨b, 0, none⟩ = some x ∧ w.cell? ⟨b, 1, none⟩ = some y) : w'.cell? ⟨b, 0, none⟩ = some x ∧ w'.cell? ⟨b, 1, none⟩ = some y := ⟨cell_k2 g h.1, cell_k2 g h.2⟩
theorem wV_bd (s a : ByteArray) (xs ys : List Int) : 0 ≤ wV s a xs ys ∧ wV s a xs ys ≤ 64 := by
  unfold wV
  cases h : wB s a xs ys
  · simp
  · rw [if_pos rfl]
    unfold wB at h
    simp only [Bool.and_eq_true, decide_eq_true_eq] at h
    obtain ⟨⟨⟨h1, h2⟩, h3⟩, h4⟩ := h
    obtain ⟨k1, k2⟩ := okW_and h1
    have l1 := okT_len k1
    have l2 := okT_len k2
    have hN : a.size * s.size ≤ 64 := Nat.mul_le_mul l2.2 l1.2
    have := dsW_bd (s := s) (a := a) (isC_vx h2 l1 l2).1 (isC_vx h3 l1 l2).1
    omega
def drB (s a : ByteArray) (xs : List Int) : Bool := okW s a && isC a.size s.size xs
def drN (s a : ByteArray) (xs : List Int) : Nat := (fin (nbW s a) (a.size * s.size) (vx s xs)).q.length
def drV (s a : ByteArray) (xs : List Int) : Int := if drB s a xs then drN s a xs else 0
/-- as many are found -/
theorem q_same {s a : ByteArray} {s0 : Nat} (hs : s0 < a.size * s.size) : (fin (nbL (lsW s a 1)) (a.size * s.size) s0).q.length = (fin (nbW s a) (a.size * s.size) s0).q.length := by
  have h1 := (fin_bf (nbL_valid (lsW_valid (s := s) (a := a) 1)) hs).inv
  have h2 := (fin_bf (@nbW_valid s a) hs).inv
  rw [← cnt_q h1, ← cnt_q h2, far_map h1.fl, far_map h2.fl]
  congr 2
  apply List.map_congr_left
  intro v hv
  exact far_same hs v (List.mem_range.1 hv)
end Go.Proofs
