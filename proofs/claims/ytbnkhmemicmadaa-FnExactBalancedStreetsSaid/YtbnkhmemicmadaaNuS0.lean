/-
  Contracts of chapter 1: sums of houses, the house that leans to neither side (what other texts share).
-/
import Derived.Test.YtbnkhmemicmadaaNuI
import Derived.Test.YtbnkhmemicmadaaNuMath
import Derived.LoopTactic
namespace Go.Proofs
open Go.RowKit Nu
set_option linter.unusedVariables false
set_option linter.unusedSimpArgs false
theorem mul_bd (n : Int) (h : 0 ≤ n) (g : n ≤ 1000000) : 0 ≤ n * (n + 1) ∧ n * (n + 1) ≤ 1000002000000 := by
  have a := su2 n
  have b := su_bd n h g
  omega
set_option maxHeartbeats 400000 in
theorem Try.sumUpTo (n : Int) (h : 0 ≤ n) (g : n ≤ 1000000) (w : World) :
    Calls Try.prog 75 #[.int .i64 n] w fun e w' => e = .returned (.int .i64 (su n)) ∧ w = w' := by
  obtain ⟨h1, h2⟩ := mul_bd n h g
  go_enter Try.func75, Try.ntmps75
  go_wp2
  go_ret
  exact ⟨rfl, rfl⟩
set_option maxHeartbeats 400000 in
theorem Try.lean (h m : Int) (h0 : 1 ≤ h) (h1 : h ≤ 1000000) (m0 : 1 ≤ m) (m1 : m ≤ 1000000) (w : World) :
    Calls Try.prog 73 #[.int .i64 h, .int .i64 m] w fun e w' => e = .returned (.int .i64 (h * h - su m)) ∧ w = w' := by
  obtain ⟨s1, s2⟩ := su_bd h (by omega) (by omega)
  obtain ⟨s3, s4⟩ := su_bd m (by omega) (by omega)
  obtain ⟨s5, s6⟩ := su_bd (h - 1) (by omega) (by omega)
  rw [← lean_eq h m]
  go_enter Try.func73, Try.ntmps73
  go_wp2_with (first | (go_at_call 75; refine (Try.sumUpTo _ (by omega) (by omega) _).mono ?_; rintro e w1 ⟨rfl, rfl⟩))
  go_ret
  exact ⟨rfl, rfl⟩
set_option maxHeartbeats 400000 in
theorem Try.middleHouse (s m h : Int) (u : Up (su m) h) (s0 : 1 ≤ s) (sh : s ≤ h) (hm : h ≤ m) (m0 : 1 ≤ m) (m1 : m ≤ 1000000) (w : World) :
    Calls Try.prog 72 #[.int .i64 s, .int .i64 m] w fun e w' => e = .returned (.int .i64 h) ∧ w = w' := by
  have U := Lib.hid u
  clear u
  go_enter Try.func72, Try.ntmps72
  go_wp2
  go_loop [5] (fun t => ∃ j : Int, s ≤ j ∧ j ≤ h ∧ t = .int .i64 j) (fun t => (h - intOf t).toNat)
  case atStart => exact ⟨s, by omega, sh, rfl⟩
  case round =>
    obtain ⟨j, j1, j2, rfl⟩ := hrel
    by_cases hj : j < h
    · have q := up_lt _ _ j U.out (by omega) hj
      have q2 : j * j - su m < 0 := by omega
      clear q
      go_wp2_with (first | (go_at_call 73; refine (Try.lean _ _ (by omega) (by omega) m0 m1 _).mono ?_; rintro e w1 ⟨rfl, rfl⟩))
      go_round
      case rel => exact ⟨j + 1, by omega, by omega, rfl⟩
      case measure => simp [intOf]; omega
    · have q := up_ge _ _ j U.out (by omega)
      have q2 : ¬ (j * j - su m < 0) := by omega
      clear q
      obtain rfl : j = h := by omega
      go_wp2_with (first | (go_at_call 73; refine (Try.lean _ _ (by omega) (by omega) m0 m1 _).mono ?_; rintro e w1 ⟨rfl, rfl⟩))
      go_ret
      exact ⟨rfl, rfl⟩
set_option maxHeartbeats 400000 in
theorem Try.nuBalanced (m h : Int) (m0 : 1 ≤ m) (m1 : m ≤ 1000000) (u : Up (su m) h) (w : World) :
    Calls Try.prog 70 #[.int .i64 m] w fun e w' => e = .returned (.tuple #[.int .i64 h, .bool (decide (h * h = su m))]) ∧ w = w' := by
  obtain ⟨q1, q2⟩ := mul_bd m (by omega) (by omega)
  have hle := up_le m h m0 u
  have hh1 := u.1
  have U := Lib.hid u
  clear u
  go_enter Try.func70, Try.ntmps70
  go_wp2
  go_loop [5, 6, 7] (fun lo hi _ => ∃ l r : Int, 1 ≤ l ∧ l ≤ h ∧ h ≤ r ∧ r ≤ m ∧ lo = .int .i64 l ∧ hi = .int .i64 r) (fun lo hi _ => (intOf hi - intOf lo).toNat)
  case atStart => exact ⟨1, m, by omega, by omega, hle, by omega, rfl, rfl⟩
  case round =>
    obtain ⟨l, r, l1, l2, r1, r2, rfl, rfl⟩ := hrel
    by_cases hlr : l < r
    · have c0 : 0 ≤ (l + r) / 2 := by omega
      have c1 : (l + r) / 2 ≤ 1000000 := by omega
      have b1 := sq_mono _ _ c0 c1
      have b0 := sq_mono 0 _ (by omega) c0
      by_cases hc : (l + r) / 2 < h
      · have q : (l + r) / 2 * ((l + r) / 2) < m * (m + 1) / 2 := up_lt _ _ _ U.out c0 hc
        go_wp2
        go_round
        case rel => exact ⟨(l + r) / 2 + 1, r, by omega, by omega, by omega, by omega, rfl, rfl⟩
        case measure => simp [intOf]; omega
      · have q : ¬ (l + r) / 2 * ((l + r) / 2) < m * (m + 1) / 2 := by have := up_ge _ _ ((l + r) / 2) U.out (by omega); unfold su at this; omega
        go_wp2
        go_round
        case rel => exact ⟨l, (l + r) / 2, by omega, by omega, by omega, by omega, rfl, rfl⟩
        case measure => simp [intOf]; omega
    · obtain rfl : l = h := by omega
      have b1 := sq_mono l 1000000 (by omega) (by omega)
      have b0 := sq_mono 0 l (by omega) (by omega)
      go_wp2
      go_ret2
      exact ⟨by first | rfl | (rw [show (l * l == m * (m + 1) / 2) = decide (l * l = su m) by unfold su; exact Int.beq_eq_decide ..]) | skip, rfl⟩
end Go.Proofs
