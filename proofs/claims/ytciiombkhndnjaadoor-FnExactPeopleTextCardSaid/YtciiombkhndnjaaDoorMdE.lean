/-
  Contracts of chapter 5, the program: sums in a part of the street, sums of all; people that are good, a house of people.
-/
import Derived.Test.YtciiombkhndnjaaDoorMdD
import Derived.Test.YtciiombkhndnjaaDoorInn
namespace Go.Proofs
open Go.RowKit
set_option linter.unusedVariables false
set_option linter.unusedSimpArgs false
/-- people that can be read -/
def PplRow (w : World) (v : Value) (xs : List Int) : Prop := ∃ g c, v = .slice (some ⟨g, 0, none⟩) xs.length c ∧ 0 < xs.length ∧ xs.length ≤ c ∧ c ≤ maxLen ∧ ∀ j, j < xs.length → w.cell? ⟨g, j, none⟩ = some (.int .i64 (gx xs j))
theorem PplRow.gr {w w' : World} {v : Value} {xs : List Int} (h : PplRow w v xs) (g : Gr w w') : PplRow w' v xs := by
  obtain ⟨a, c, e, h0, h1, h2, h3⟩ := h
  exact ⟨a, c, e, h0, h1, h2, fun j hj => g.keep2 (h3 j hj)⟩
theorem PplRow.below {w w' : World} {v : Value} {xs : List Int} (h : PplRow w v xs) (g : Below w.heap.size w w') : PplRow w' v xs := by
  obtain ⟨a, c, e, h0, h1, h2, h3⟩ := h
  exact ⟨a, c, e, h0, h1, h2, fun j hj => (g.cell (World.block_lt_of_cell? _ _ (h3 j hj))).trans (h3 j hj)⟩
theorem OwnI.ppl {w : World} {B : Nat} {v : Value} {xs : List Int} (h : OwnI w B v xs) (h0 : 0 < xs.length) : PplRow w v xs := by
  have h' := h
  rcases h.2 with ⟨_, hn⟩ | ⟨g, cap, cur, rfl, hb, hg, hc, hm, hs, ht⟩
  · omega
  · rcases h'.view with ⟨q, _⟩ | ⟨_, g2, c2, q, _, _, _, hcell, _⟩
    · rw [q] at h0; simp at h0
    · simp only [Value.slice.injEq, Option.some.injEq, Addr.mk.injEq] at q
      obtain ⟨⟨q1, _⟩, _, q2⟩ := q
      subst q1
      exact ⟨_, _, rfl, h0, hc, hm, hcell⟩
def bwf (xs bs : List Int) (i : Nat) : Int := gx xs i * avv ((i : Int) - near bs (i : Int))
def boxSum (xs bs : List Int) : Int := sumF (bwf xs bs) xs.length
def heads (xs : List Int) : Int := sumF (gx xs) xs.length
theorem hdf_zero (xs : List Int) (n : Nat) : sumF (hdf xs 0) n = sumF (gx xs) n := sumF_ext fun i _ => by simp [hdf]
theorem stf_zero (xs bs : List Int) (n : Nat) : sumF (stf xs bs 0) n = sumF (bwf xs bs) n := sumF_ext fun i _ => by simp [stf, bwf]
end Go.Proofs
