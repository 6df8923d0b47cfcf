/-
  Chapter 6: how many ways are whole, both functions.
-/
import Derived.Test.YtcmjckipicmmeaaInn
namespace Go.Proofs
open Go.RowKit
set_option linter.unusedVariables false
set_option linter.unusedSimpArgs false
def cwB (p q : Int) : Bool := inn p 2 8 && inn q 2 8
def cwW (p q : Int) : Int := if cwB p q then wrap64 (2 * 2 ^ (p + q - 4).toNat) else 0
set_option maxHeartbeats 1600000 in
theorem Try.sCountWholeWays (w : World) (p q : Int) (v : Int) (b : Bool) (hv : cwW p q = v) (hb : cwB p q = b) :
    Calls Try.prog 21 #[.int .i64 p, .int .i64 q] w fun e w' => e = .returned (.tuple #[.int .i64 v, .bool b]) ∧ w = w' := by
  subst hv
  unfold cwW
  rw [hb]
  unfold cwB at hb
  cases h1 : inn p 2 8
  · rw [h1, Bool.false_and] at hb
    subst hb
    have H1 := Lib.hid h1
    clear h1
    go_enter Try.func21, Try.ntmps21
    go_wp2_with (first | (go_at_call 37; refine (Try.l1In _ _ _ _ H1.out _).mono ?_; rintro e w1 ⟨rfl, rfl⟩))
    go_ret2
    exact ⟨rfl, rfl⟩
  · rw [h1, Bool.true_and] at hb
    cases b
    · have H1 := Lib.hid h1
      have H2 := Lib.hid hb
      clear h1 hb
      go_enter Try.func21, Try.ntmps21
      go_wp2_with fail
      refine (Try.l1In _ _ _ _ H1.out _).mono ?_
      rintro e w1 ⟨rfl, rfl⟩
      go_wp2_with fail
      refine (Try.l1In _ _ _ _ H2.out _).mono ?_
      rintro e w1 ⟨rfl, rfl⟩
      go_wp2
      go_ret2
      exact ⟨rfl, rfl⟩
    · obtain ⟨p1, p2⟩ := inn_e h1
      obtain ⟨q1, q2⟩ := inn_e hb
      have H1 := Lib.hid h1
      have H2 := Lib.hid hb
      clear h1 hb
      obtain ⟨n, hn⟩ : ∃ n : Nat, p + q - 4 = n := ⟨(p + q - 4).toNat, by omega⟩
      have hn12 : n ≤ 12 := by omega
      rw [hn, Int.toNat_natCast]
      go_enter Try.func21, Try.ntmps21
      go_wp2_with fail
      refine (Try.l1In _ _ _ _ H1.out _).mono ?_
      rintro e w1 ⟨rfl, rfl⟩
      go_wp2_with fail
      refine (Try.l1In _ _ _ _ H2.out _).mono ?_
      rintro e w1 ⟨rfl, rfl⟩
      go_wp2
      all_goals first | (go_ret2; exact ⟨rfl, rfl⟩) | (exfalso; omega)
set_option maxHeartbeats 1600000 in
theorem Try.iCountWholeWays (w : World) (p q : Int) (v : Int) (b : Bool) (hv : cwW p q = v) (hb : cwB p q = b) :
    Calls Try.prog 22 #[.int .i64 p, .int .i64 q] w fun e w' => e = .returned (.tuple #[.int .i64 v, .bool b]) ∧ w = w' := by
  subst hv
  unfold cwW
  rw [hb]
  unfold cwB at hb
  cases h1 : inn p 2 8
  · rw [h1, Bool.false_and] at hb
    subst hb
    have H1 := Lib.hid h1
    clear h1
    go_enter Try.func22, Try.ntmps22
    go_wp2_with (first | (go_at_call 38; refine (Try.within _ _ _ _ H1.out _).mono ?_; rintro e w1 ⟨rfl, rfl⟩))
    go_ret2
    exact ⟨rfl, rfl⟩
  · rw [h1, Bool.true_and] at hb
    cases b
    · have H1 := Lib.hid h1
      have H2 := Lib.hid hb
      clear h1 hb
      go_enter Try.func22, Try.ntmps22
      go_wp2_with fail
      refine (Try.within _ _ _ _ H1.out _).mono ?_
      rintro e w1 ⟨rfl, rfl⟩
      go_wp2_with fail
      refine (Try.within _ _ _ _ H2.out _).mono ?_
      rintro e w1 ⟨rfl, rfl⟩
      go_wp2
      go_ret2
      exact ⟨rfl, rfl⟩
    · obtain ⟨p1, p2⟩ := inn_e h1
      obtain ⟨q1, q2⟩ := inn_e hb
      have H1 := Lib.hid h1
      have H2 := Lib.hid hb
      clear h1 hb
      obtain ⟨n, hn⟩ : ∃ n : Nat, p + q - 4 = n := ⟨(p + q - 4).toNat, by omega⟩
      have hn12 : n ≤ 12 := by omega
      rw [hn, Int.toNat_natCast]
      go_enter Try.func22, Try.ntmps22
      go_wp2_with fail
      refine (Try.within _ _ _ _ H1.out _).mono ?_
      rintro e w1 ⟨rfl, rfl⟩
      go_wp2_with fail
      refine (Try.within _ _ _ _ H2.out _).mono ?_
      rintro e w1 ⟨rfl, rfl⟩
      go_wp2
      all_goals first | (go_ret2; exact ⟨rfl, rfl⟩) | (exfalso; omega)
end Go.Proofs
