/-
  Chapter 6: how many drives there are (the model).
-/
import Derived.Test.YtjlbbkbcapleiaaDoorOwR
namespace Go.Proofs
open Go.RowKit Av Gm Go.Maps
set_option linter.unusedVariables false
set_option linter.unusedSimpArgs false
theorem owV_some {s a : ByteArray} {x y j : Nat} (h : drv s a x y j = true) : owV s a x y j = .tuple #[.int .i64 ((x : Int) + dx j), .int .i64 ((y : Int) + dy j), .bool true] := by
  unfold drv at h
  simp only [Bool.and_eq_true] at h
  unfold owV
  rw [h.1, if_pos rfl, h.2]
theorem owV_none {s a : ByteArray} {x y j : Nat} (h : drv s a x y j = false) : ∃ u v, owV s a x y j = .tuple #[.int .i64 u, .int .i64 v, .bool false] := by
  unfold drv at h
  unfold owV
  cases hm : mayB s a x y j
  · exact ⟨0, 0, rfl⟩
  · rw [hm, Bool.true_and] at h
    rw [if_pos rfl, h]
    exact ⟨_, _, rfl⟩
def Tryd.CdR (nb : Nat → Nat → Option Nat) (F : Nat → Int) (N t0 : Nat) (W3 : World) (n k j : Nat) (wr : World) : Prop :=
  OwnI wr W3.heap.size (.slice (some ⟨W3.heap.size, 0, none⟩) N N) (wl nb F N t0 n k j) ∧ Below W3.heap.size W3 wr
end Go.Proofs
