/-
  Plain words of chapter 4: each block can be gone back. No program's text here.
-/
import Derived.Test.YtnpkhoiblemodaaAvL
import Derived.Test.YtnpkhoiblemodaaGrAll
namespace Go.Proofs
open Go.RowKit Av Gm Go.Maps
set_option linter.unusedVariables false
set_option linter.unusedSimpArgs false
theorem dx_back {i : Nat} (hi : i < 4) : dx (3 - i) = - dx i ∧ dy (3 - i) = - dy i := by
  have : i = 0 ∨ i = 1 ∨ i = 2 ∨ i = 3 := by omega
  rcases this with rfl | rfl | rfl | rfl <;> simp [dx, dy]
theorem nb_back {Wn Hn : Nat} {cl : List Blk} {n i v : Nat} (hn : n < Wn * Hn) (hi : i < 4) (h : nbC Wn Hn cl n i = some v) : nbC Wn Hn cl v (3 - i) = some n := by
  cases hst : stp Wn Hn cl (((n / Hn : Nat) : Int), ((n % Hn : Nat) : Int)) i
  · rw [nb_none hst] at h; cases h
  · obtain ⟨m, e, hm, q1, q2, _⟩ := nb_some hi hn hst
    rw [e] at h; cases h
    obtain ⟨d1, d2⟩ := dx_back hi
    have hnx : nx (((v / Hn : Nat) : Int), ((v % Hn : Nat) : Int)) (3 - i) = (((n / Hn : Nat) : Int), ((n % Hn : Nat) : Int)) := by
      unfold nx
      simp only
      rw [q1, q2, d1, d2]
      refine Prod.ext ?_ ?_ <;> simp <;> omega
    have hnx2 : nx (((n / Hn : Nat) : Int), ((n % Hn : Nat) : Int)) i = (((v / Hn : Nat) : Int), ((v % Hn : Nat) : Int)) := by
      unfold nx
      simp only
      rw [q1, q2]
    have hst2 : stp Wn Hn cl (((v / Hn : Nat) : Int), ((v % Hn : Nat) : Int)) (3 - i) = true := by
      unfold stp at hst ⊢
      rw [hnx, bb_comm]
      rw [hnx2] at hst
      simp only [Bool.and_eq_true, decide_eq_true_eq] at hst ⊢
      exact ⟨on_idx hn, hst.2⟩
    obtain ⟨m', e', hm', p1, p2, _⟩ := nb_some (show 3 - i < 4 by omega) hm hst2
    rw [e']
    congr 1
    refine crn_inj (Hn := Hn) ?_
    unfold crn
    rw [p1, p2, q1, q2, d1, d2]
    refine Prod.ext ?_ ?_ <;> simp <;> omega
theorem nb_sym {Wn Hn : Nat} {cl : List Blk} : ∀ n i v, n < Wn * Hn → i < 4 → nbC Wn Hn cl n i = some v → ∃ j, j < 4 ∧ nbC Wn Hn cl v j = some n :=
  fun n i v hn hi h => ⟨3 - i, by omega, nb_back hn hi h⟩
theorem ht_back {Wn Hn : Nat} {cl : List Blk} {n i v : Nat} (hn : n < Wn * Hn) (hv : v < Wn * Hn) (hi : i < 4) : ht (nbC Wn Hn cl n i) v = ht (nbC Wn Hn cl v (3 - i)) n := by
  unfold ht
  by_cases c : nbC Wn Hn cl n i = some v
  · rw [if_pos c, if_pos (nb_back hn hi c)]
  · rw [if_neg c, if_neg]
    intro d
    have := nb_back hv (show 3 - i < 4 by omega) d
    rw [show 3 - (3 - i) = i by omega] at this
    exact c this
theorem ed_sym {Wn Hn : Nat} {cl : List Blk} : ∀ u v, u < Wn * Hn → v < Wn * Hn → ed (nbC Wn Hn cl) u v = ed (nbC Wn Hn cl) v u := by
  intro u v hu hv
  show ht _ v + ht _ v + ht _ v + ht _ v = ht _ u + ht _ u + ht _ u + ht _ u
  rw [ht_back hu hv (show 0 < 4 by omega), ht_back hu hv (show 1 < 4 by omega), ht_back hu hv (show 2 < 4 by omega), ht_back hu hv (show 3 < 4 by omega)]
  simp only [Nat.sub_zero, Nat.sub_self, show 3 - 1 = 2 from rfl, show 3 - 2 = 1 from rfl]
  omega
theorem dst_sym {Wn Hn : Nat} {ps : List Blk} {s0 t0 : Nat} (hs : s0 < Wn * Hn) (ht : t0 < Wn * Hn) : dst Wn Hn ps s0 t0 = dst Wn Hn ps t0 s0 := fin_sym nb_valid nb_sym hs ht
end Go.Proofs
