/-
  Plain words of chapter 4: in a city without closed blocks the distance of two corners is the sum of the differences of their x and y. No program's text here.
-/
import Derived.Test.YtkgfbdbhllakoaaAvL
namespace Go.Proofs
open Go.RowKit Av Gm Go.Maps
set_option linter.unusedVariables false
set_option linter.unusedSimpArgs false
def abv (n : Int) : Int := if 0 ≤ n then n else -n
def mhn (p q : Cr) : Int := abv (p.1 - q.1) + abv (p.2 - q.2)
theorem has_nil (b : Blk) : Av.has [] b = false := by simp [Av.has]
theorem stp_nil {W H : Int} {p : Cr} {j : Nat} (h : onC W H (nx p j)) : stp W H [] p j = true := by
  unfold stp
  rw [has_nil, decide_eq_true h]
  rfl
theorem crn_on {Wn Hn n : Nat} (hn : n < Wn * Hn) : onC Wn Hn (crn Hn n) := on_idx hn
theorem pre_nil {Wn Hn v x y : Nat} {j : Nat} (hj : j < 4) (hx : x < Wn) (hy : y < Hn) (hv : v < Wn * Hn) (h1 : (x : Int) + dx j = (crn Hn v).1) (h2 : (y : Int) + dy j = (crn Hn v).2) :
    ∃ u, u < Wn * Hn ∧ nbC Wn Hn [] u j = some v ∧ crn Hn u = ((x : Int), (y : Int)) := by
  obtain ⟨i1, i2, i3⟩ := idx_on hx hy
  have hc : crn Hn (x * Hn + y) = ((x : Int), (y : Int)) := by unfold crn; rw [i2, i3]
  have hs : stp Wn Hn [] (((x * Hn + y) / Hn : Nat), ((x * Hn + y) % Hn : Nat)) j = true := by
    rw [i2, i3]
    refine stp_nil ?_
    have ho := crn_on hv
    unfold nx
    simp only
    rw [h1, h2]
    exact ho
  obtain ⟨m, e, hm, q1, q2, _⟩ := nb_some hj i1 hs
  refine ⟨x * Hn + y, i1, ?_, hc⟩
  rw [e]
  congr 1
  refine crn_inj (Hn := Hn) ?_
  unfold crn
  rw [q1, q2, i2, i3, h1, h2]
  rfl
theorem dist_nil {Wn Hn s0 : Nat} (hs : s0 < Wn * Hn) : Dist (nbC Wn Hn []) (Wn * Hn) s0 (fun v => mhn (crn Hn v) (crn Hn s0)) := by
  refine ⟨?_, fun v hv => ?_, fun v hv h => ?_, fun u i v hu hi h0 hn => ?_, fun v hv h0 => ?_⟩
  · simp [mhn, abv]
  · unfold mhn abv; split <;> split <;> omega
  · refine crn_inj (Hn := Hn) (Prod.ext ?_ ?_)
    · unfold mhn abv at h; split at h <;> split at h <;> omega
    · unfold mhn abv at h; split at h <;> split at h <;> omega
  · cases hst : stp Wn Hn [] (((u / Hn : Nat) : Int), ((u % Hn : Nat) : Int)) i
    · rw [nb_none hst] at hn; cases hn
    · obtain ⟨m, e, hm, q1, q2, _⟩ := nb_some hi hu hst
      rw [e] at hn
      cases hn
      have r1 : (crn Hn v).1 = (crn Hn u).1 + dx i := q1
      have r2 : (crn Hn v).2 = (crn Hn u).2 + dy i := q2
      have : i = 0 ∨ i = 1 ∨ i = 2 ∨ i = 3 := by omega
      unfold mhn abv
      rw [r1, r2]
      rcases this with rfl | rfl | rfl | rfl <;> simp only [dx, dy] <;> (repeat' split) <;> omega
  · have hov := crn_on hv
    have hos := crn_on hs
    unfold onC at hov hos
    obtain ⟨x, hx⟩ : ∃ x : Nat, (crn Hn v).1 = x := ⟨v / Hn, rfl⟩
    obtain ⟨y, hy⟩ : ∃ y : Nat, (crn Hn v).2 = y := ⟨v % Hn, rfl⟩
    obtain ⟨p, hp⟩ : ∃ x : Nat, (crn Hn s0).1 = x := ⟨s0 / Hn, rfl⟩
    obtain ⟨q, hq⟩ : ∃ y : Nat, (crn Hn s0).2 = y := ⟨s0 % Hn, rfl⟩
    have key : ∀ (j x' y' : Nat), j < 4 → x' < Wn → y' < Hn → (x' : Int) + dx j = x → (y' : Int) + dy j = y → mhn ((x' : Int), (y' : Int)) (crn Hn s0) = mhn (crn Hn v) (crn Hn s0) - 1 →
        ∃ u i, u < Wn * Hn ∧ i < 4 ∧ nbC Wn Hn [] u i = some v ∧ mhn (crn Hn u) (crn Hn s0) = mhn (crn Hn v) (crn Hn s0) - 1 := by
      intro j x' y' hj h1 h2 h3 h4 h5
      obtain ⟨u, hu, e, ec⟩ := pre_nil hj h1 h2 hv (by rw [h3, hx]) (by rw [h4, hy])
      exact ⟨u, j, hu, hj, e, by rw [ec]; exact h5⟩
    rw [hx, hy] at hov
    rw [hp, hq] at hos
    unfold mhn abv at h0 key ⊢
    rw [hx, hy, hp, hq] at h0 key
    rw [hx, hy, hp, hq]
    by_cases c1 : p < x
    · refine key 0 (x - 1) y (by omega) (by omega) (by omega) (by simp only [dx]; omega) (by simp only [dy]; omega) ?_
      simp only
      (repeat' split) <;> omega
    · by_cases c2 : x < p
      · refine key 3 (x + 1) y (by omega) (by omega) (by omega) (by simp only [dx]; omega) (by simp only [dy]; omega) ?_
        simp only
        (repeat' split) <;> omega
      · by_cases c3 : q < y
        · refine key 1 x (y - 1) (by omega) (by omega) (by omega) (by simp only [dx]; omega) (by simp only [dy]; omega) ?_
          simp only
          (repeat' split) <;> omega
        · by_cases c4 : y < q
          · refine key 2 x (y + 1) (by omega) (by omega) (by omega) (by simp only [dx]; omega) (by simp only [dy]; omega) ?_
            simp only
            (repeat' split) <;> omega
          · exfalso
            (repeat' split at h0) <;> omega
/-- the distance in a city without closed blocks -/
theorem dst_nil {Wn Hn s0 t0 : Nat} (hs : s0 < Wn * Hn) (ht : t0 < Wn * Hn) : dst Wn Hn [] s0 t0 = mhn (crn Hn t0) (crn Hn s0) :=
  Dist.uniq (@nb_valid Wn Hn []) (fin_dist (@nb_valid Wn Hn []) hs) (dist_nil hs) t0 ht
end Go.Proofs
