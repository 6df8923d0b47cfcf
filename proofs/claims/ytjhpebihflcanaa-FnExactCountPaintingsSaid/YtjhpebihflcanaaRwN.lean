/-
  Chapter 7: houses that are neighbours, both sides.
-/
import Derived.Test.YtjhpebihflcanaaInn
import Derived.IntWalk
namespace Go.Proofs
open Go.RowKit
set_option linter.unusedVariables false
set_option linter.unusedSimpArgs false
/-- houses that are neighbours -/
def avR (n : Int) : Int := if 0 ≤ n then n else -n
def NeiP (n a b : Int) (ring : Bool) : Prop := avR (a - b) = 1 ∨ (ring = true ∧ 3 ≤ n) ∧ avR (a - b) = n - 1
theorem avR_symm (a b : Int) : avR (a - b) = avR (b - a) := by unfold avR; split <;> split <;> omega
theorem NeiP.symm {n a b : Int} {ring : Bool} : NeiP n a b ring ↔ NeiP n b a ring := by unfold NeiP; rw [avR_symm]
noncomputable def neiB (n a b : Int) (ring : Bool) : Bool := @decide (NeiP n a b ring) (Classical.propDecidable _)
theorem neiB_iff (n a b : Int) (ring : Bool) : neiB n a b ring = true ↔ NeiP n a b ring := @decide_eq_true_iff _ (Classical.propDecidable _)
theorem neiB_of {n a b : Int} {ring r : Bool} (h : r = true ↔ NeiP n a b ring) : neiB n a b ring = r := by
  cases r
  · cases q : neiB n a b ring
    · rfl
    · exact absurd (h.2 ((neiB_iff _ _ _ _).1 q)) (by simp)
  · exact (neiB_iff _ _ _ _).2 (h.1 rfl)
theorem neiB_symm (n a b : Int) (ring : Bool) : neiB n a b ring = neiB n b a ring := neiB_of (by rw [neiB_iff]; exact NeiP.symm)
def rgB (n : Int) (ring : Bool) : Bool := ring && decide (3 ≤ n)
theorem neiB_eq (n a b : Int) (ring : Bool) : neiB n a b ring = (decide (avR (a - b) = 1) || (rgB n ring && decide (avR (a - b) = n - 1))) :=
  neiB_of (by unfold NeiP rgB; simp [Bool.or_eq_true, Bool.and_eq_true, decide_eq_true_eq])
set_option maxHeartbeats 400000 in
theorem Try.l1AbsR (n : Int) (w : World) (h : -4000000 ≤ n) (g : n ≤ 4000000) :
    Calls Try.prog 62 #[.int .i64 n] w fun e w' => e = .returned (.int .i64 (avR n)) ∧ w = w' := by
  go_enter Try.func62, Try.ntmps62
  go_wp2
  all_goals
    go_ret
    exact ⟨ri (by (try simp only [beq_iff_eq, beq_eq_false_iff_ne, bne_iff_ne, ne_eq, decide_eq_true_eq, decide_eq_false_iff_not] at *); (try unfold avR); omega), rfl⟩
set_option maxHeartbeats 400000 in
theorem Try.isRound (n : Int) (ring : Bool) (w : World) : Calls Try.prog 58 #[.int .i64 n, .bool ring] w fun e w' => e = .returned (.bool (rgB n ring)) ∧ w = w' := by
  unfold rgB
  cases ring
  · go_enter Try.func58, Try.ntmps58
    go_wp2
    go_ret
    exact ⟨rfl, rfl⟩
  · go_enter Try.func58, Try.ntmps58
    go_wp2
    go_ret
    exact ⟨by simp, rfl⟩
set_option maxHeartbeats 400000 in
theorem Try.rwRing (n : Int) (ring : Bool) (w : World) : Calls Try.prog 38 #[.int .i64 n, .bool ring] w fun e w' => e = .returned (.bool (rgB n ring)) ∧ w = w' := by
  unfold rgB
  cases ring
  · go_enter Try.func38, Try.ntmps38
    go_wp2
    go_ret
    exact ⟨rfl, rfl⟩
  · go_enter Try.func38, Try.ntmps38
    go_wp2
    go_ret
    exact ⟨rbd (by omega), rfl⟩
set_option maxHeartbeats 800000 in
theorem Try.rwNext (n a b : Int) (ring : Bool) (w : World) (ha : -1000000 ≤ a ∧ a ≤ 1000000) (hb : -1000000 ≤ b ∧ b ≤ 1000000) (hn : 0 ≤ n ∧ n ≤ 1000000) (r : Bool) (hr : neiB n a b ring = r) :
    Calls Try.prog 54 #[.int .i64 n, .int .i64 a, .int .i64 b, .bool ring] w fun e w' => e = .returned (.bool r) ∧ w = w' := by
  have HS := Lib.hid (fun W => Try.l1AbsR (a - b) W (by omega) (by omega))
  have HR := Lib.hid (fun W => Try.rwRing n ring W)
  have HE := Lib.hid (neiB_eq n a b ring)
  rw [hr] at HE
  have wn : IntKind.i64.wrap (n - 1) = n - 1 := IntWalk.i64_in _ (by omega)
  have wd : IntKind.i64.wrap (a - b) = a - b := IntWalk.i64_in _ (by omega)
  clear hr ha hb
  generalize avR (a - b) = s at *
  generalize rgB n ring = q at *
  by_cases h1 : s = 1
  · have e1 : ((s : Int) == 1) = true := by simp [h1]
    have HF := Lib.hid (show r = true by rw [HE.out, decide_eq_true h1, Bool.true_or])
    clear h1
    go_enter Try.func54, Try.ntmps54
    go_wp2_with (first | (go_at_call 62; refine (HS.out _).mono ?_; rintro e w1 ⟨rfl, rfl⟩) | (go_at_call 38; refine (HR.out _).mono ?_; rintro e w1 ⟨rfl, rfl⟩))
    go_ret
    exact ⟨by rw [HF.out]; rfl, rfl⟩
  · have e1 : ((s : Int) == 1) = false := by simp [h1]
    cases q
    · have HF := Lib.hid (show r = false by rw [HE.out, decide_eq_false h1]; rfl)
      clear h1
      go_enter Try.func54, Try.ntmps54
      go_wp2_with (first | (go_at_call 62; refine (HS.out _).mono ?_; rintro e w1 ⟨rfl, rfl⟩) | (go_at_call 38; refine (HR.out _).mono ?_; rintro e w1 ⟨rfl, rfl⟩))
      go_ret
      exact ⟨by rw [HF.out]; rfl, rfl⟩
    · have HF := Lib.hid (show r = decide (s = n - 1) by rw [HE.out, decide_eq_false h1]; rfl)
      clear h1
      go_enter Try.func54, Try.ntmps54
      go_wp2_with (first | (go_at_call 62; refine (HS.out _).mono ?_; rintro e w1 ⟨rfl, rfl⟩) | (go_at_call 38; refine (HR.out _).mono ?_; rintro e w1 ⟨rfl, rfl⟩))
      go_ret
      exact ⟨by rw [HF.out]; first | rfl | (congr 1), rfl⟩
end Go.Proofs
