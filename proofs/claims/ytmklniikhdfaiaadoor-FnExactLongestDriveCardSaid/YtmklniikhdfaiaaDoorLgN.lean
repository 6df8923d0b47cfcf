/-
  The longest drive: the first corner's farthest one is farther than 0; the program's distances are the model's (plain).
-/
import Derived.Test.YtmklniikhdfaiaaDoorLgA
import Derived.Test.YtmklniikhdfaiaaDoorLgP
namespace Go.Proofs
open Go.RowKit Av Gm Go.Maps
set_option linter.unusedVariables false
set_option linter.unusedSimpArgs false
theorem bsF_max (fr : List Int) (k : Nat) : ∀ j, j < k → fr.getD j 0 ≤ (bsF fr k).2 := by
  induction k with
  | zero => intro j hj; omega
  | succ k ih =>
    intro j hj
    unfold bsF
    rcases (show j < k ∨ j = k by omega) with q | q
    · have := ih j q
      split
      · simp only; omega
      · exact this
    · subst q
      split
      · exact Int.le_refl _
      · omega
theorem far_list {s a : ByteArray} {s0 : Nat} (hs : s0 < a.size * s.size) : (fin (nbL (lsW s a 1)) (a.size * s.size) s0).far = (fin (nbW s a) (a.size * s.size) s0).far := by
  have h1 := (fin_bf (nbL_valid (lsW_valid (s := s) (a := a) 1)) hs).inv
  have h2 := (fin_bf (@nbW_valid s a) hs).inv
  rw [far_map h1.fl, far_map h2.fl]
  apply List.map_congr_left
  intro v hv
  exact far_same hs v (by simpa using hv)
theorem all_of_count (l : List Int) (h : (l.filter (fun d => decide (0 ≤ d))).length = l.length) : ∀ d, d ∈ l → 0 ≤ d := by
  intro d hd
  have e := List.length_filter_eq_length_iff.1 h d hd
  simpa using e
theorem lg_pos {s a : ByteArray} (h : whW s a = true) : 0 < (lgR s a 0).2 := by
  have h0 := h
  unfold whW at h
  simp only [Bool.and_eq_true, decide_eq_true_eq] at h
  obtain ⟨hk, hn, _⟩ := h
  obtain ⟨k1, k2⟩ := okW_and hk
  have l1 := okT_len k1
  have l2 := okT_len k2
  have hN : 2 * 2 ≤ a.size * s.size := Nat.mul_le_mul l2.1 l1.1
  have hp : 0 < a.size * s.size := by omega
  have hI := (fin_bf (@nbW_valid s a) hp).inv
  have hD := fin_dist (@nbW_valid s a) hp
  have hfl := hI.fl
  have hc := cnt_q hI
  unfold drN at hn
  rw [vx00] at hn
  rw [hn, Nat.mul_comm s.size a.size] at hc
  have all := all_of_count _ (by rw [hc, hfl])
  have hm : f (fin (nbW s a) (a.size * s.size) 0) 1 ∈ (fin (nbW s a) (a.size * s.size) 0).far := by
    unfold f
    rw [List.getD_eq_getElem?_getD, List.getElem?_eq_getElem (by rw [hfl]; omega)]
    exact List.getElem_mem _
  have g0 := all _ hm
  have g1 : f (fin (nbW s a) (a.size * s.size) 0) 1 ≠ 0 := fun e => absurd (hD.z 1 (by omega) e) (by omega)
  have g2 := bsF_max (fin (nbW s a) (a.size * s.size) 0).far (a.size * s.size) 1 (by omega)
  unfold lgR
  unfold f at g0 g1
  omega
/-- the program's loop comes to the model's -/
theorem lg_same {s a : ByteArray} (h : whW s a = true) (hp : 0 < a.size * s.size) : outF (lgR s a) 0 (a.size * s.size) = lgS s a := (outF_same _ (lg_pos h) _ hp).symm
end Go.Proofs
