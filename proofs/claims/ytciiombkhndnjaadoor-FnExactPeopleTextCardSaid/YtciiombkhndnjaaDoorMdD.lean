/-
  Contracts of chapter 5, the program: the function that tells sums (impl.sumsIn and its closure), sums of all.
-/
import Derived.Test.YtciiombkhndnjaaDoorMdC
namespace Go.Proofs
open Go.RowKit
set_option linter.unusedVariables false
set_option linter.unusedSimpArgs false
def hdf (xs : List Int) (fo : Nat) (i : Nat) : Int := gx xs (fo + i)
def stf (xs bs : List Int) (fo : Nat) (i : Nat) : Int := gx xs (fo + i) * avv (((fo : Int) + (i : Int)) - near bs ((fo : Int) + (i : Int)))
theorem hdf_bd {xs : List Int} (hg : GoodP xs) (fo i : Nat) : 0 ≤ hdf xs fo i ∧ hdf xs fo i ≤ 1000 := hg.bd _
theorem near_bd {bs : List Int} {h : Int} (h0 : 0 < bs.length) (hb : ∀ j, j < bs.length → -200 ≤ gx bs j ∧ gx bs j ≤ 200) : -200 ≤ near bs h ∧ near bs h ≤ 200 := by
  obtain ⟨j, hj, e⟩ := nearN_in bs h bs.length (Nat.le_refl _) h0
  unfold near
  rw [e]
  exact hb j hj
theorem stf_bd {xs bs : List Int} (hg : GoodP xs) (h0 : 0 < bs.length) (hb : ∀ j, j < bs.length → -200 ≤ gx bs j ∧ gx bs j ≤ 200) (fo i : Nat) (hi : fo + i < xs.length) : 0 ≤ stf xs bs fo i ∧ stf xs bs fo i ≤ 300000 := by
  have a := hg.bd (fo + i)
  have c := hg.1.2
  have d := near_bd (h := (fo : Int) + (i : Int)) h0 hb
  exact mul_bd a.1 a.2 (avv_nn _) (avv_le (K := 300) (by omega) (by omega))
/-- part of the people, as it can be read -/
def PartRow (w : World) (v : Value) (xs : List Int) (fo n : Nat) : Prop := ∃ g c, v = .slice (some ⟨g, fo, none⟩) n c ∧ fo + n ≤ xs.length ∧ (∀ j, j < n → w.cell? ⟨g, fo + j, none⟩ = some (.int .i64 (gx xs (fo + j))))
theorem PartRow.gr {w w' : World} {v : Value} {xs : List Int} {fo n : Nat} (h : PartRow w v xs fo n) (g : Gr w w') : PartRow w' v xs fo n := by
  obtain ⟨a, c, e, h0, h1⟩ := h
  exact ⟨a, c, e, h0, fun j hj => g.keep2 (h1 j hj)⟩
end Go.Proofs
