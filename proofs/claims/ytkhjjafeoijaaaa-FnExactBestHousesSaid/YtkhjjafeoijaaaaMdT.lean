/-
  Contracts of chapter 5: the longest walk to a house (both sides).
-/
import Derived.Test.YtkhjjafeoijaaaaMdS
import Derived.ChangeKeysEq
namespace Go.Proofs
open Go.RowKit
set_option linter.unusedVariables false
set_option linter.unusedSimpArgs false
theorem farN_le {xs : List Int} {h : Int} {i : Int} (i0 : 0 ≤ i) (k : Nat) : farN xs h k ≤ i ↔ ∀ j, j < k → 0 < gx xs j → avv ((j : Int) - h) ≤ i := by
  induction k with
  | zero => simp [farN]; omega
  | succ k ih =>
    unfold farN
    constructor
    · intro hk j hj pj
      rcases Nat.lt_or_eq_of_le (Nat.le_of_lt_succ hj) with c | c
      · refine ih.1 ?_ j c pj
        split at hk
        · rw [Int.max_def] at hk; split at hk <;> omega
        · exact hk
      · subst c
        rw [if_pos pj] at hk
        rw [Int.max_def] at hk; split at hk <;> omega
    · intro hk
      have a := ih.2 (fun j hj pj => hk j (by omega) pj)
      split
      · rename_i pk
        have b := hk k (by omega) pk
        rw [Int.max_def]; split <;> omega
      · exact a
theorem far_part {xs : List Int} {h : Int} (hp : HouseP xs h) (i fo m : Nat) (h1 : max (h - (i : Int)) 0 = (fo : Int)) (h2 : min (h + (i : Int) + 1) (xs.length : Int) = ((fo + m : Nat) : Int)) :
    (farI xs h ≤ (i : Int) → sumF (hdf xs fo) m = heads xs ∧ sumF (stf xs [h] fo) m = boxSum xs [h]) ∧ (¬ farI xs h ≤ (i : Int) → sumF (hdf xs fo) m ≠ heads xs) := by
  obtain ⟨hg, a, b⟩ := hp
  obtain ⟨r, hr⟩ : ∃ r, xs.length = fo + m + r := ⟨xs.length - (fo + m), by omega⟩
  have fe := farN_le (xs := xs) (h := h) (i := (i : Int)) (by omega) xs.length
  have split1 : heads xs = sumF (gx xs) fo + sumF (hdf xs fo) m + sumF (fun t => gx xs (fo + m + t)) r := by
    unfold heads
    rw [hr, sumF_split, sumF_split]
    rfl
  have split2 : boxSum xs [h] = sumF (bwf xs [h]) fo + sumF (stf xs [h] fo) m + sumF (fun t => bwf xs [h] (fo + m + t)) r := by
    unfold boxSum
    rw [hr, sumF_split, sumF_split]
    congr 2
  constructor
  · intro hf
    have all := fe.1 hf
    have z : ∀ j, j < xs.length → (j < fo ∨ fo + m ≤ j) → gx xs j = 0 := fun j hj hc => by
      have bd := hg.bd j
      by_cases p : 0 < gx xs j
      · have := all j hj p
        unfold avv at this
        split at this <;> omega
      · omega
    have a1 : sumF (gx xs) fo = 0 := sumF_zeros fun t ht => z t (by omega) (.inl ht)
    have a2 : sumF (fun t => gx xs (fo + m + t)) r = 0 := sumF_zeros fun t ht => z _ (by omega) (.inr (by omega))
    have a3 : sumF (bwf xs [h]) fo = 0 := sumF_zeros fun t ht => by unfold bwf; rw [z t (by omega) (.inl ht), Int.zero_mul]
    have a4 : sumF (fun t => bwf xs [h] (fo + m + t)) r = 0 := sumF_zeros fun t ht => by unfold bwf; rw [z _ (by omega) (.inr (by omega)), Int.zero_mul]
    omega
  · intro hf
    have ne : ¬ ∀ j, j < xs.length → 0 < gx xs j → avv ((j : Int) - h) ≤ (i : Int) := fun c => hf (fe.2 c)
    obtain ⟨j, hj⟩ := Classical.not_forall.1 ne
    have hj1 : j < xs.length := Classical.byContradiction fun c => hj fun q => absurd q c
    have hj2 : 0 < gx xs j := Classical.byContradiction fun c => hj fun _ q => absurd q c
    have hj3 : ¬ avv ((j : Int) - h) ≤ (i : Int) := fun c => hj fun _ _ => c
    have bd1 := sumF_bd (f := gx xs) (n := fo) (K := 1000) (fun t _ => hg.bd t)
    have bd2 := sumF_bd (f := fun t => gx xs (fo + m + t)) (n := r) (K := 1000) (fun t _ => hg.bd _)
    have out : j < fo ∨ fo + m ≤ j := by unfold avv at hj3; split at hj3 <;> omega
    rcases out with c | c
    · have := (sumF_pos (f := gx xs) (n := fo) (fun t _ => (hg.bd t).1)).2 ⟨j, c, hj2⟩
      omega
    · have := (sumF_pos (f := fun t => gx xs (fo + m + t)) (n := r) (fun t _ => (hg.bd _).1)).2 ⟨j - (fo + m), by omega, by show 0 < gx xs (fo + m + (j - (fo + m))); rw [show fo + m + (j - (fo + m)) = j by omega]; exact hj2⟩
      omega
theorem Try.eqlS (a b c d : Int) (r : Bool) (hr : decide (a = c ∧ b = d) = r) (w : World) : Sem.run Try.prog (Op.equalIn 10000 56 (.agg #[.int .i64 a, .int .i64 b]) (.agg #[.int .i64 c, .int .i64 d])) w = .ok r w := by
  have u3 := Try.underlying3
  have a3 := Try.isAgg3
  have z3 := Try.sizeOf3
  obtain ⟨i, hi⟩ : ∃ i, Try.prog.info? 3 = some i := Option.isSome_iff_exists.1 (by kernel_rfl)
  have hc : Try.prog.cellsOf 3 = 1 := by kernel_rfl
  subst hr
  rw [show (10000 : Nat) = 9999 + 1 from rfl, run_equalIn_array (w := w) 9999 _ _ Try.underlying56 hi, hc, show List.range 2 = [0, 1] from rfl]
  simp only [Op.eqItems]
  go_simp
  by_cases h1 : a = c <;> by_cases h2 : b = d <;> simp [h1, h2]
theorem four_k {w W : World} {a b c d : Addr} {x y z u : Value} (g : Gr w W) (h : w.cell? a = some x ∧ w.cell? b = some y ∧ w.cell? c = some z ∧ w.cell? d = some u) : W.cell? a = some x ∧ W.cell? b = some y ∧ W.cell? c = some z ∧ W.cell? d = some u :=
  ⟨g.keep0 h.1, g.keep0 h.2.1, g.keep0 h.2.2.1, g.keep0 h.2.2.2⟩
theorem box1 {W : World} {g : Nat} {n : Int} (h0 : -200 ≤ n) (h1 : n ≤ 200) (h : W.cell? ⟨g, 0, none⟩ = some (.int .i64 n)) : BoxRow W (.slice (some ⟨g, 0, none⟩) 1 1) [n] :=
  ⟨g, 1, rfl, by simp, by simp, fun j hj => (by obtain rfl : j = 0 := (by simp at hj; exact hj); simpa [gx] using h), fun j hj => (by obtain rfl : j = 0 := (by simp at hj; exact hj); simp [gx]; omega)⟩
theorem farI_bd {xs : List Int} {n : Int} (h : HouseP xs n) : 0 ≤ farI xs n ∧ farI xs n ≤ 59 := by
  have := h.1.1
  have := h.2
  exact farN_bd xs n (by omega) (by omega) xs.length (by omega)
end Go.Proofs
