/-
  Chapter 6: are there drives to all corners from each? Both sides.
-/
import Derived.Test.YtjlbbkbcapleiaaDoorOwQ
import Derived.Test.YtjlbbkbcapleiaaDoorOwE
namespace Go.Proofs
open Go.RowKit Av Gm Go.Maps
set_option linter.unusedVariables false
set_option linter.unusedSimpArgs false
theorem own_lit2 {w : World} {b : Nat} {x y : Int} (h : w.heap[b]? = some (.cells #[.int .i64 x, .int .i64 y] 3 (0, 0))) : OwnI w b (.slice (some ⟨b, 0, none⟩) 2 2) [x, y] :=
  ⟨rfl, .inr ⟨b, 2, _, rfl, Nat.le_refl _, h, by simp, by decide, rfl, rfl⟩⟩
theorem crn0 (Hn : Nat) : (crn Hn 0).1 = 0 ∧ (crn Hn 0).2 = 0 := by unfold crn; simp
theorem isC00 {W H : Int} (hW : 1 ≤ W) (hH : 1 ≤ H) : isC W H [0, 0] = true := by
  unfold isC onB onC; simp; omega
theorem flB_at (s : ByteArray) (i : Nat) (hi : i < (flB s).size) : (flB s)[i] = fl (s[i]'(by rw [flB_size] at hi; exact hi)) := by
  have h2 : i < s.size := by rwa [flB_size] at hi
  have e : some (flB s)[i] = some (fl s[i]) := by
    have a1 : (flB s).data.toList[i]? = some (flB s)[i] := List.getElem?_eq_getElem (by simpa using hi)
    have a2 : s.data.toList[i]? = some s[i] := List.getElem?_eq_getElem (by simpa using h2)
    rw [← a1]
    show (List.map fl s.data.toList)[i]? = _
    rw [List.getElem?_map, a2]; rfl
  exact Option.some.inj e
theorem okW_flB {s a : ByteArray} (h : okW s a = true) : okW (flB s) (flB a) = true := by
  obtain ⟨h1, h2⟩ := okW_and h
  have l1 := okT_len h1
  have l2 := okT_len h2
  unfold okW
  rw [okT_all (by rw [flB_size]; omega) (by rw [flB_size]; omega) (fun i hi => ?_), okT_all (by rw [flB_size]; omega) (by rw [flB_size]; omega) (fun i hi => ?_)]
  · rfl
  · rw [flB_at]
    rcases okT_at h2 i (by rw [flB_size] at hi; exact hi) with e | e <;> rw [e] <;> decide
  · rw [flB_at]
    rcases okT_at h1 i (by rw [flB_size] at hi; exact hi) with e | e <;> rw [e] <;> decide
/-- whole? -/
def whW (s a : ByteArray) : Bool := okW s a && (decide (drN s a [0, 0] = s.size * a.size) && decide (drN (flB s) (flB a) [0, 0] = s.size * a.size))
theorem nat_eqD (n m : Nat) : ((n : Int) == (m : Int)) = decide (n = m) := by
  by_cases q : n = m
  · simp [q]
  · simp [q]; omega
theorem vx00 (s : ByteArray) : vx s [0, 0] = 0 := by unfold vx; simp
end Go.Proofs
