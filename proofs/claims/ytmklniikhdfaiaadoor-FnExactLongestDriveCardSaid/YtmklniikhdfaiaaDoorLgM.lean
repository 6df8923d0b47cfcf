/-
  The first farthest corner, plain; the longest drive: the model's two loops and the program's one, plain.
-/
import Derived.Test.YtmklniikhdfaiaaDoorOwY
import Derived.Test.YtmklniikhdfaiaaDoorLiT
namespace Go.Proofs
open Go.RowKit Av Gm Go.Maps
set_option linter.unusedVariables false
set_option linter.unusedSimpArgs false
/-- the first one of the farthest of the first k, and how far it is -/
def bsF (fr : List Int) : Nat → Nat × Int
  | 0 => (0, -1)
  | k + 1 => if (bsF fr k).2 < fr.getD k 0 then (k, fr.getD k 0) else bsF fr k
theorem bsF_lt (fr : List Int) (k : Nat) (h : 0 < k) : (bsF fr k).1 < k := by
  induction k with
  | zero => omega
  | succ k ih =>
    unfold bsF
    split
    · show k < k + 1; omega
    · rcases Nat.eq_zero_or_pos k with e | e
      · subst e; show 0 < 1; omega
      · have := ih e; omega
theorem bsF_ge (fr : List Int) (k : Nat) : -1 ≤ (bsF fr k).2 := by
  induction k with
  | zero => exact Int.le_refl _
  | succ k ih => unfold bsF; split <;> (try simp only) <;> omega
theorem OwnI.cellsN {w : World} {B N : Nat} {v : Value} {fr : List Int} (ho : OwnI w B v fr) (hl : fr.length = N) (h0 : 0 < N) : ∃ g c, v = .slice (some ⟨g, 0, none⟩) N c ∧ ∀ k, k < N → w.cell? ⟨g, k, none⟩ = some (.int .i64 (fr.getD k 0)) := by
  rcases ho.view with ⟨hx, _⟩ | ⟨_, g, c, rfl, _, _, _, hc, _⟩
  · rw [hx] at hl; simp at hl; omega
  · exact ⟨g, c, by rw [hl], fun k hk => hc k (by omega)⟩
/-- the inner loop from a state: what is the farthest of the first k of a row, where it is farther than what there was -/
def inF (fr : List Int) (i : Nat) (s : Nat × Nat × Int) : Nat → Nat × Nat × Int
  | 0 => s
  | k + 1 => if (inF fr i s k).2.2 < fr.getD k 0 then (i, k, fr.getD k 0) else inF fr i s k
theorem inF_is (fr : List Int) (i : Nat) (s : Nat × Nat × Int) (h : -1 ≤ s.2.2) (k : Nat) : inF fr i s k = if s.2.2 < (bsF fr k).2 then (i, (bsF fr k).1, (bsF fr k).2) else s := by
  induction k with
  | zero =>
    have : ¬ s.2.2 < (bsF fr 0).2 := by show ¬ s.2.2 < -1; omega
    rw [if_neg this]; rfl
  | succ k ih =>
    have e : inF fr i s (k + 1) = if (inF fr i s k).2.2 < fr.getD k 0 then (i, k, fr.getD k 0) else inF fr i s k := rfl
    have e2 : bsF fr (k + 1) = if (bsF fr k).2 < fr.getD k 0 then (k, fr.getD k 0) else bsF fr k := rfl
    rw [e, e2, ih]
    generalize bsF fr k = p
    obtain ⟨p1, p2⟩ := p
    generalize fr.getD k 0 = d
    simp only
    by_cases c1 : s.2.2 < p2
    · rw [if_pos c1]
      simp only
      by_cases c2 : p2 < d
      · rw [if_pos c2, if_pos c2, if_pos (by show s.2.2 < d; omega)]
      · rw [if_neg c2, if_neg c2, if_pos c1]
    · rw [if_neg c1]
      by_cases c2 : p2 < d
      · rw [if_pos c2]
      · rw [if_neg c2, if_neg c1, if_neg (by omega)]
/-- the outer loop: R i is the first farthest one from i -/
def outF (R : Nat → Nat × Int) (m : Int) : Nat → Nat × Nat × Int
  | 0 => (0, 0, m)
  | i + 1 => if (outF R m i).2.2 < (R i).2 then (i, (R i).1, (R i).2) else outF R m i
theorem outF_ge (R : Nat → Nat × Int) (m : Int) (i : Nat) : m ≤ (outF R m i).2.2 := by
  induction i with
  | zero => exact Int.le_refl _
  | succ i ih => unfold outF; split <;> (try simp only) <;> omega
/-- where the first one's farthest is farther than nothing both beginnings come to the same -/
theorem outF_same (R : Nat → Nat × Int) (h : 0 < (R 0).2) (i : Nat) (hi : 0 < i) : outF R (-1) i = outF R 0 i := by
  induction i with
  | zero => omega
  | succ i ih =>
    rcases Nat.eq_zero_or_pos i with rfl | h0
    · unfold outF
      rw [if_pos (show (outF R (-1) 0).2.2 < (R 0).2 by show (-1 : Int) < _; omega), if_pos (show (outF R 0 0).2.2 < (R 0).2 from h)]
    · unfold outF
      rw [ih h0]
theorem outF_lt (R : Nat → Nat × Int) (m : Int) (N : Nat) (hR : ∀ i, i < N → (R i).1 < N) (h0 : 0 < N) (i : Nat) (hi : i ≤ N) : (outF R m i).1 < N ∧ (outF R m i).2.1 < N := by
  induction i with
  | zero => exact ⟨h0, h0⟩
  | succ i ih =>
    unfold outF
    split
    · exact ⟨hi, hR i hi⟩
    · exact ih (by omega)
end Go.Proofs
