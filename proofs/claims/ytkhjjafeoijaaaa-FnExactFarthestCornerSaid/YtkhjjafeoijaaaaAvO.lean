/-
  Contracts of chapter 4: how many corners there are ways to. Both sides.
-/
import Derived.Test.YtkhjjafeoijaaaaAvN
import Derived.Test.YtkhjjafeoijaaaaGrCnt
namespace Go.Proofs
open Go.RowKit Av Gm Go.Maps
set_option linter.unusedVariables false
set_option linter.unusedSimpArgs false
def vtx (H : Int) (xs : List Int) : Nat := (xs.getD 0 0 * H + xs.getD 1 0).toNat
def crB (W H : Int) (ps : List Blk) (xs : List Int) : Bool := okB W H ps && isC W H xs
def crN (W H : Int) (ps : List Blk) (xs : List Int) : Nat := (fin (nbC W.toNat H.toNat ps) (W.toNat * H.toNat) (vtx H xs)).q.length
def crV (W H : Int) (ps : List Blk) (xs : List Int) : Int := if crB W H ps xs then crN W H ps xs else 0
/-- the first k, those that are found -/
def cnk (l : List Int) (k : Nat) : Nat := ((l.take k).filter (fun d => decide (0 ≤ d))).length
theorem cnk_succ (l : List Int) (k : Nat) (h : k < l.length) : cnk l (k + 1) = if 0 ≤ l.getD k 0 then cnk l k + 1 else cnk l k := by
  unfold cnk
  rw [← List.take_append_getElem h, List.filter_append, List.length_append]
  have e : l.getD k 0 = l[k] := by simp [List.getD, h]
  rw [e]
  by_cases q : 0 ≤ l[k]
  · simp [q]
  · simp [q]
theorem cnk_le (l : List Int) (k : Nat) : cnk l k ≤ k := by
  unfold cnk
  exact Nat.le_trans (List.length_filter_le _ _) (by simp; omega)
end Go.Proofs
