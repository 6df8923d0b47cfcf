/-
  Contracts of chapter 1: sums of houses, the balanced house.
-/
import Derived.Test.YthaepfpcnbhndabNuI
import Derived.Test.YthaepfpcnbhndabNuMath
import Derived.LoopTactic
namespace Go.Proofs
open Go.RowKit Nu
set_option linter.unusedVariables false
set_option linter.unusedSimpArgs false
theorem mul_bd (n : Int) (h : 0 ≤ n) (g : n ≤ 1000000) : 0 ≤ n * (n + 1) ∧ n * (n + 1) ≤ 1000002000000 := by
  have a := su2 n
  have b := su_bd n h g
  omega
set_option maxHeartbeats 400000 in
theorem Try.sumUpTo (n : Int) (h : 0 ≤ n) (g : n ≤ 1000000) (w : World) :
    Calls Try.prog 48 #[.int .i64 n] w fun e w' => e = .returned (.int .i64 (su n)) ∧ w = w' := by
  obtain ⟨h1, h2⟩ := mul_bd n h g
  go_enter Try.func48, Try.ntmps48
  go_wp2
  go_ret
  exact ⟨rfl, rfl⟩
def sbB (a b : Int) : Bool := inn a 1 1000000 && inn b 1 1000000 && decide (a < b)
def sbV (a b : Int) : Int := if sbB a b then su (b - 1) - su a else 0
set_option maxHeartbeats 400000 in
theorem Try.iSumBetween (a b : Int) (w : World) :
    Calls Try.prog 26 #[.int .i64 a, .int .i64 b] w fun e w' => e = .returned (.tuple #[.int .i64 (sbV a b), .bool (sbB a b)]) ∧ Gr w w' := by
  cases ha : inn a 1 1000000
  · have e : sbB a b = false := by simp [sbB, ha]
    rw [show sbV a b = 0 by simp [sbV, e], e]
    have H := Lib.hid ha
    clear ha e
    go_enter Try.func26, Try.ntmps26
    go_wp2_with (first | (go_at_call 31; refine (Try.isMost _ _ H.out _).mono ?_; rintro e w1 ⟨rfl, rfl⟩))
    go_ret2
    exact ⟨rfl, by repeat (first | exact Gr.refl _ | refine Gr.alloc ?_ _ | refine Gr.trans ?_ (by assumption) | refine Gr.drew ?_ | refine Gr.drewN ?_ _ | refine Gr.grow ?_ _)⟩
  · cases hb : inn b 1 1000000
    · have e : sbB a b = false := by simp [sbB, hb]
      rw [show sbV a b = 0 by simp [sbV, e], e]
      have H := Lib.hid ha
      have H2 := Lib.hid hb
      clear ha hb e
      go_enter Try.func26, Try.ntmps26
      go_wp2_with (first | (go_at_call_of 31 (Value.int .i64 a); refine (Try.isMost _ _ H.out _).mono ?_; rintro e w1 ⟨rfl, rfl⟩) | (go_at_call_of 31 (Value.int .i64 b); refine (Try.isMost _ _ H2.out _).mono ?_; rintro e w1 ⟨rfl, rfl⟩))
      go_ret2
      exact ⟨rfl, by repeat (first | exact Gr.refl _ | refine Gr.alloc ?_ _ | refine Gr.trans ?_ (by assumption) | refine Gr.drew ?_ | refine Gr.drewN ?_ _ | refine Gr.grow ?_ _)⟩
    · obtain ⟨a1, a2⟩ := inn_e ha
      obtain ⟨b1, b2⟩ := inn_e hb
      have H := Lib.hid ha
      have H2 := Lib.hid hb
      by_cases hl : a < b
      · have e : sbB a b = true := by simp [sbB, hb, ha, hl]
        have s1 := su_bd a (by omega) (by omega)
        have s2 := su_bd (b - 1) (by omega) (by omega)
        obtain ⟨s11, s12⟩ := s1
        obtain ⟨s21, s22⟩ := s2
        rw [show sbV a b = su (b - 1) - su a by simp [sbV, e], e]
        clear ha hb e
        go_enter Try.func26, Try.ntmps26
        go_wp2_with (first | (go_at_call_of 31 (Value.int .i64 a); refine (Try.isMost _ _ H.out _).mono ?_; rintro e w1 ⟨rfl, rfl⟩) | (go_at_call_of 31 (Value.int .i64 b); refine (Try.isMost _ _ H2.out _).mono ?_; rintro e w1 ⟨rfl, rfl⟩) | (go_at_call 48; refine (Try.sumUpTo _ (by omega) (by omega) _).mono ?_; rintro e w1 ⟨rfl, rfl⟩))
        go_ret2
        exact ⟨rfl, by repeat (first | exact Gr.refl _ | refine Gr.alloc ?_ _ | refine Gr.trans ?_ (by assumption) | refine Gr.drew ?_ | refine Gr.drewN ?_ _ | refine Gr.grow ?_ _)⟩
      · have e : sbB a b = false := by simp [sbB, hl]
        rw [show sbV a b = 0 by simp [sbV, e], e]
        clear ha hb e
        go_enter Try.func26, Try.ntmps26
        go_wp2_with (first | (go_at_call_of 31 (Value.int .i64 a); refine (Try.isMost _ _ H.out _).mono ?_; rintro e w1 ⟨rfl, rfl⟩) | (go_at_call_of 31 (Value.int .i64 b); refine (Try.isMost _ _ H2.out _).mono ?_; rintro e w1 ⟨rfl, rfl⟩) | (go_at_call 48; refine (Try.sumUpTo _ (by omega) (by omega) _).mono ?_; rintro e w1 ⟨rfl, rfl⟩))
        go_ret2
        exact ⟨rfl, by repeat (first | exact Gr.refl _ | refine Gr.alloc ?_ _ | refine Gr.trans ?_ (by assumption) | refine Gr.drew ?_ | refine Gr.drewN ?_ _ | refine Gr.grow ?_ _)⟩
set_option maxHeartbeats 400000 in
theorem Try.sSumBetween (a b : Int) (w : World) :
    Calls Try.prog 25 #[.int .i64 a, .int .i64 b] w fun e w' => e = .returned (.tuple #[.int .i64 (sbV a b), .bool (sbB a b)]) ∧ Gr w w' := by
  cases ha : inn a 1 1000000
  · have e : sbB a b = false := by simp [sbB, ha]
    rw [show sbV a b = 0 by simp [sbV, e], e]
    have H := Lib.hid ha
    clear ha e
    go_enter Try.func25, Try.ntmps25
    go_wp2_with (first | (go_at_call 29; refine (Try.nuMost _ _ H.out _).mono ?_; rintro e w1 ⟨rfl, rfl⟩))
    go_ret2
    exact ⟨rfl, by repeat (first | exact Gr.refl _ | refine Gr.alloc ?_ _ | refine Gr.trans ?_ (by assumption) | refine Gr.drew ?_ | refine Gr.drewN ?_ _ | refine Gr.grow ?_ _)⟩
  · cases hb : inn b 1 1000000
    · have e : sbB a b = false := by simp [sbB, hb]
      rw [show sbV a b = 0 by simp [sbV, e], e]
      have H := Lib.hid ha
      have H2 := Lib.hid hb
      clear ha hb e
      go_enter Try.func25, Try.ntmps25
      go_wp2_with (first | (go_at_call_of 29 (Value.int .i64 a); refine (Try.nuMost _ _ H.out _).mono ?_; rintro e w1 ⟨rfl, rfl⟩) | (go_at_call_of 29 (Value.int .i64 b); refine (Try.nuMost _ _ H2.out _).mono ?_; rintro e w1 ⟨rfl, rfl⟩))
      go_ret2
      exact ⟨rfl, by repeat (first | exact Gr.refl _ | refine Gr.alloc ?_ _ | refine Gr.trans ?_ (by assumption) | refine Gr.drew ?_ | refine Gr.drewN ?_ _ | refine Gr.grow ?_ _)⟩
    · obtain ⟨a1, a2⟩ := inn_e ha
      obtain ⟨b1, b2⟩ := inn_e hb
      have H := Lib.hid ha
      have H2 := Lib.hid hb
      by_cases hl : a < b
      · have e : sbB a b = true := by simp [sbB, hb, ha, hl]
        obtain ⟨m1, m2⟩ := mul_bd a (by omega) (by omega)
        have m3 := mul_bd (b - 1) (by omega) (by omega)
        rw [show b - 1 + 1 = b by omega] at m3
        obtain ⟨m3, m4⟩ := m3
        have s0 : su (b - 1) = (b - 1) * b / 2 := by unfold su; rw [show b - 1 + 1 = b by omega]
        rw [show sbV a b = (b - 1) * b / 2 - a * (a + 1) / 2 by simp only [sbV, e, if_true]; rw [s0]; rfl, e]
        clear ha hb e s0
        go_enter Try.func25, Try.ntmps25
        go_wp2_with (first | (go_at_call_of 29 (Value.int .i64 a); refine (Try.nuMost _ _ H.out _).mono ?_; rintro e w1 ⟨rfl, rfl⟩) | (go_at_call_of 29 (Value.int .i64 b); refine (Try.nuMost _ _ H2.out _).mono ?_; rintro e w1 ⟨rfl, rfl⟩))
        go_ret2
        exact ⟨rfl, by repeat (first | exact Gr.refl _ | refine Gr.alloc ?_ _ | refine Gr.trans ?_ (by assumption) | refine Gr.drew ?_ | refine Gr.drewN ?_ _ | refine Gr.grow ?_ _)⟩
      · have e : sbB a b = false := by simp [sbB, hl]
        rw [show sbV a b = 0 by simp [sbV, e], e]
        clear ha hb e
        go_enter Try.func25, Try.ntmps25
        go_wp2_with (first | (go_at_call_of 29 (Value.int .i64 a); refine (Try.nuMost _ _ H.out _).mono ?_; rintro e w1 ⟨rfl, rfl⟩) | (go_at_call_of 29 (Value.int .i64 b); refine (Try.nuMost _ _ H2.out _).mono ?_; rintro e w1 ⟨rfl, rfl⟩))
        go_ret2
        exact ⟨rfl, by repeat (first | exact Gr.refl _ | refine Gr.alloc ?_ _ | refine Gr.trans ?_ (by assumption) | refine Gr.drew ?_ | refine Gr.drewN ?_ _ | refine Gr.grow ?_ _)⟩

/-! ## The balanced house -/
set_option maxHeartbeats 400000 in
theorem Try.lean (h m : Int) (h0 : 1 ≤ h) (h1 : h ≤ 1000000) (m0 : 1 ≤ m) (m1 : m ≤ 1000000) (w : World) :
    Calls Try.prog 45 #[.int .i64 h, .int .i64 m] w fun e w' => e = .returned (.int .i64 (h * h - su m)) ∧ w = w' := by
  obtain ⟨s1, s2⟩ := su_bd h (by omega) (by omega)
  obtain ⟨s3, s4⟩ := su_bd m (by omega) (by omega)
  obtain ⟨s5, s6⟩ := su_bd (h - 1) (by omega) (by omega)
  rw [← lean_eq h m]
  go_enter Try.func45, Try.ntmps45
  go_wp2_with (first | (go_at_call 48; refine (Try.sumUpTo _ (by omega) (by omega) _).mono ?_; rintro e w1 ⟨rfl, rfl⟩))
  go_ret
  exact ⟨rfl, rfl⟩
set_option maxHeartbeats 400000 in
theorem Try.middleHouse (s m h : Int) (u : Up (su m) h) (s0 : 1 ≤ s) (sh : s ≤ h) (hm : h ≤ m) (m0 : 1 ≤ m) (m1 : m ≤ 1000000) (w : World) :
    Calls Try.prog 44 #[.int .i64 s, .int .i64 m] w fun e w' => e = .returned (.int .i64 h) ∧ w = w' := by
  have U := Lib.hid u
  clear u
  go_enter Try.func44, Try.ntmps44
  go_wp2
  go_loop [5] (fun t => ∃ j : Int, s ≤ j ∧ j ≤ h ∧ t = .int .i64 j) (fun t => (h - intOf t).toNat)
  case atStart => exact ⟨s, by omega, sh, rfl⟩
  case round =>
    obtain ⟨j, j1, j2, rfl⟩ := hrel
    by_cases hj : j < h
    · have q := up_lt _ _ j U.out (by omega) hj
      have q2 : j * j - su m < 0 := by omega
      clear q
      go_wp2_with (first | (go_at_call 45; refine (Try.lean _ _ (by omega) (by omega) m0 m1 _).mono ?_; rintro e w1 ⟨rfl, rfl⟩))
      go_round
      case rel => exact ⟨j + 1, by omega, by omega, rfl⟩
      case measure => simp [intOf]; omega
    · have q := up_ge _ _ j U.out (by omega)
      have q2 : ¬ (j * j - su m < 0) := by omega
      clear q
      obtain rfl : j = h := by omega
      go_wp2_with (first | (go_at_call 45; refine (Try.lean _ _ (by omega) (by omega) m0 m1 _).mono ?_; rintro e w1 ⟨rfl, rfl⟩))
      go_ret
      exact ⟨rfl, rfl⟩
def blV (m h : Int) : Int := if h * h = su m then h else 0
set_option maxHeartbeats 400000 in
theorem Try.iBalancedNo (m : Int) (hm : inn m 1 1000000 = false) (w : World) :
    Calls Try.prog 19 #[.int .i64 m] w fun e w' => e = .returned (.tuple #[.int .i64 0, .bool false]) ∧ Gr w w' := by
  have H := Lib.hid hm
  clear hm
  go_enter Try.func19, Try.ntmps19
  go_wp2_with (first | (go_at_call 31; refine (Try.isMost _ _ H.out _).mono ?_; rintro e w1 ⟨rfl, rfl⟩))
  go_ret2
  exact ⟨rfl, by repeat (first | exact Gr.refl _ | refine Gr.alloc ?_ _ | refine Gr.trans ?_ (by assumption) | refine Gr.drew ?_ | refine Gr.drewN ?_ _ | refine Gr.grow ?_ _)⟩
set_option maxHeartbeats 400000 in
theorem Try.sBalancedNo (m : Int) (hm : inn m 1 1000000 = false) (w : World) :
    Calls Try.prog 18 #[.int .i64 m] w fun e w' => e = .returned (.tuple #[.int .i64 0, .bool false]) ∧ Gr w w' := by
  have H := Lib.hid hm
  clear hm
  go_enter Try.func18, Try.ntmps18
  go_wp2_with (first | (go_at_call 29; refine (Try.nuMost _ _ H.out _).mono ?_; rintro e w1 ⟨rfl, rfl⟩))
  go_ret2
  exact ⟨rfl, by repeat (first | exact Gr.refl _ | refine Gr.alloc ?_ _ | refine Gr.trans ?_ (by assumption) | refine Gr.drew ?_ | refine Gr.drewN ?_ _ | refine Gr.grow ?_ _)⟩
set_option maxHeartbeats 400000 in
theorem Try.iBalanced (m h : Int) (hm : inn m 1 1000000 = true) (u : Up (su m) h) (w : World) :
    Calls Try.prog 19 #[.int .i64 m] w fun e w' => e = .returned (.tuple #[.int .i64 (blV m h), .bool (decide (h * h = su m))]) ∧ Gr w w' := by
  obtain ⟨m0, m1⟩ := inn_e hm
  have hle := up_le m h m0 u
  have hh1 := u.1
  have H := Lib.hid hm
  have U := Lib.hid u
  clear hm u
  by_cases hz : h * h = su m
  · rw [show blV m h = h by simp [blV, hz], decide_eq_true hz]
    have q : h * h - su m = 0 := by omega
    have qb : (h * h - su m != 0) = false := by simp [q]
    clear hz q
    go_enter Try.func19, Try.ntmps19
    go_wp2_with (first | (go_at_call 31; refine (Try.isMost _ _ H.out _).mono ?_; rintro e w1 ⟨rfl, rfl⟩) | (go_at_call 44; refine (Try.middleHouse _ _ h U.out (by omega) hh1 hle m0 m1 _).mono ?_; rintro e w1 ⟨rfl, rfl⟩) | (go_at_call 45; refine (Try.lean _ _ (by omega) (by omega) m0 m1 _).mono ?_; rintro e w1 ⟨rfl, rfl⟩))
    go_ret2
    exact ⟨rfl, by repeat (first | exact Gr.refl _ | refine Gr.alloc ?_ _ | refine Gr.trans ?_ (by assumption) | refine Gr.drew ?_ | refine Gr.drewN ?_ _ | refine Gr.grow ?_ _)⟩
  · rw [show blV m h = 0 by simp [blV, hz], decide_eq_false hz]
    have q : ¬ h * h - su m = 0 := by omega
    have qb : (h * h - su m != 0) = true := by simp [q]
    clear hz q
    go_enter Try.func19, Try.ntmps19
    go_wp2_with (first | (go_at_call 31; refine (Try.isMost _ _ H.out _).mono ?_; rintro e w1 ⟨rfl, rfl⟩) | (go_at_call 44; refine (Try.middleHouse _ _ h U.out (by omega) hh1 hle m0 m1 _).mono ?_; rintro e w1 ⟨rfl, rfl⟩) | (go_at_call 45; refine (Try.lean _ _ (by omega) (by omega) m0 m1 _).mono ?_; rintro e w1 ⟨rfl, rfl⟩))
    go_ret2
    exact ⟨rfl, by repeat (first | exact Gr.refl _ | refine Gr.alloc ?_ _ | refine Gr.trans ?_ (by assumption) | refine Gr.drew ?_ | refine Gr.drewN ?_ _ | refine Gr.grow ?_ _)⟩
set_option maxHeartbeats 400000 in
theorem Try.nuBalanced (m h : Int) (m0 : 1 ≤ m) (m1 : m ≤ 1000000) (u : Up (su m) h) (w : World) :
    Calls Try.prog 43 #[.int .i64 m] w fun e w' => e = .returned (.tuple #[.int .i64 h, .bool (decide (h * h = su m))]) ∧ w = w' := by
  obtain ⟨q1, q2⟩ := mul_bd m (by omega) (by omega)
  have hle := up_le m h m0 u
  have hh1 := u.1
  have U := Lib.hid u
  clear u
  go_enter Try.func43, Try.ntmps43
  go_wp2
  go_loop [5, 6, 7] (fun lo hi _ => ∃ l r : Int, 1 ≤ l ∧ l ≤ h ∧ h ≤ r ∧ r ≤ m ∧ lo = .int .i64 l ∧ hi = .int .i64 r) (fun lo hi _ => (intOf hi - intOf lo).toNat)
  case atStart => exact ⟨1, m, by omega, by omega, hle, by omega, rfl, rfl⟩
  case round =>
    obtain ⟨l, r, l1, l2, r1, r2, rfl, rfl⟩ := hrel
    by_cases hlr : l < r
    · have c0 : 0 ≤ (l + r) / 2 := by omega
      have c1 : (l + r) / 2 ≤ 1000000 := by omega
      have b1 := sq_mono _ _ c0 c1
      have b0 := sq_mono 0 _ (by omega) c0
      by_cases hc : (l + r) / 2 < h
      · have q : (l + r) / 2 * ((l + r) / 2) < m * (m + 1) / 2 := up_lt _ _ _ U.out c0 hc
        go_wp2
        go_round
        case rel => exact ⟨(l + r) / 2 + 1, r, by omega, by omega, by omega, by omega, rfl, rfl⟩
        case measure => simp [intOf]; omega
      · have q : ¬ (l + r) / 2 * ((l + r) / 2) < m * (m + 1) / 2 := by have := up_ge _ _ ((l + r) / 2) U.out (by omega); unfold su at this; omega
        go_wp2
        go_round
        case rel => exact ⟨l, (l + r) / 2, by omega, by omega, by omega, by omega, rfl, rfl⟩
        case measure => simp [intOf]; omega
    · obtain rfl : l = h := by omega
      have b1 := sq_mono l 1000000 (by omega) (by omega)
      have b0 := sq_mono 0 l (by omega) (by omega)
      go_wp2
      go_ret2
      exact ⟨by first | rfl | (rw [show (l * l == m * (m + 1) / 2) = decide (l * l = su m) by unfold su; exact Int.beq_eq_decide ..]) | skip, rfl⟩
set_option maxHeartbeats 400000 in
theorem Try.sBalanced (m h : Int) (hm : inn m 1 1000000 = true) (u : Up (su m) h) (w : World) :
    Calls Try.prog 18 #[.int .i64 m] w fun e w' => e = .returned (.tuple #[.int .i64 (blV m h), .bool (decide (h * h = su m))]) ∧ Gr w w' := by
  obtain ⟨m0, m1⟩ := inn_e hm
  have H := Lib.hid hm
  have U := Lib.hid u
  clear hm u
  have hb := fun (w : World) => Try.nuBalanced m h m0 m1 U.out w
  by_cases hz : h * h = su m
  · rw [show blV m h = h by simp [blV, hz], decide_eq_true hz]
    rw [decide_eq_true hz] at hb
    have HB := Lib.hid hb
    clear hz hb
    go_enter Try.func18, Try.ntmps18
    go_wp2_with (first | (go_at_call 29; refine (Try.nuMost _ _ H.out _).mono ?_; rintro e w1 ⟨rfl, rfl⟩) | (go_at_call 43; refine (HB.out _).mono ?_; rintro e w1 ⟨rfl, rfl⟩))
    go_ret2
    exact ⟨rfl, by repeat (first | exact Gr.refl _ | refine Gr.alloc ?_ _ | refine Gr.trans ?_ (by assumption) | refine Gr.drew ?_ | refine Gr.drewN ?_ _ | refine Gr.grow ?_ _)⟩
  · rw [show blV m h = 0 by simp [blV, hz], decide_eq_false hz]
    rw [decide_eq_false hz] at hb
    have HB := Lib.hid hb
    clear hz hb
    go_enter Try.func18, Try.ntmps18
    go_wp2_with (first | (go_at_call 29; refine (Try.nuMost _ _ H.out _).mono ?_; rintro e w1 ⟨rfl, rfl⟩) | (go_at_call 43; refine (HB.out _).mono ?_; rintro e w1 ⟨rfl, rfl⟩))
    go_ret2
    exact ⟨rfl, by repeat (first | exact Gr.refl _ | refine Gr.alloc ?_ _ | refine Gr.trans ?_ (by assumption) | refine Gr.drew ?_ | refine Gr.drewN ?_ _ | refine Gr.grow ?_ _)⟩
end Go.Proofs
