/-
  Contracts of chapter 1: digits on plates.
-/
import Derived.Test.YthaepfpcnbhndaaNuL
namespace Go.Proofs
open Go.RowKit Nu
set_option linter.unusedVariables false
set_option linter.unusedSimpArgs false
def dpV (m : Int) : Int := if inn m 1 1000000 then dsum m else 0
set_option maxHeartbeats 400000 in
theorem Try.iDigitsOnPlates (m : Int) (w : World) :
    Calls Try.prog 18 #[.int .i64 m] w fun e w' => e = .returned (.tuple #[.int .i64 (dpV m), .bool (inn m 1 1000000)]) ∧ Gr w w' := by
  cases hm : inn m 1 1000000
  · rw [show dpV m = 0 by simp [dpV, hm]]
    have H := Lib.hid hm
    clear hm
    go_enter Try.func18, Try.ntmps18
    go_wp2_with (first | (go_at_call 63; refine (Try.isMost _ _ H.out _).mono ?_; rintro e w1 ⟨rfl, rfl⟩))
    go_ret2
    exact ⟨rfl, by repeat (first | exact Gr.refl _ | refine Gr.alloc ?_ _ | refine Gr.trans ?_ (by assumption) | refine Gr.drew ?_ | refine Gr.drewN ?_ _ | refine Gr.grow ?_ _)⟩
  · rw [show dpV m = dsum m by simp [dpV, hm]]
    obtain ⟨m0, m1⟩ := inn_e hm
    have H := Lib.hid hm
    clear hm
    go_enter Try.func18, Try.ntmps18
    go_wp2_with (first | (go_at_call 63; refine (Try.isMost _ _ H.out _).mono ?_; rintro e w1 ⟨rfl, rfl⟩) | (go_at_call 68; refine (Try.digitsUpTo _ m0 m1 _).mono ?_; rintro e w1 ⟨rfl, rfl⟩))
    go_ret2
    exact ⟨rfl, by repeat (first | exact Gr.refl _ | refine Gr.alloc ?_ _ | refine Gr.trans ?_ (by assumption) | refine Gr.drew ?_ | refine Gr.drewN ?_ _ | refine Gr.grow ?_ _)⟩
def SRel (m : Int) (w : World) (s n : Value) (wr : World) : Prop := Gr w wr ∧ ∃ k : Int, 1 ≤ k ∧ k ≤ m + 1 ∧ n = .int .i64 k ∧ s = .int .i64 (dsum (k - 1))
set_option maxHeartbeats 400000 in
theorem Try.sDigitsOnPlates (m : Int) (w : World) :
    Calls Try.prog 27 #[.int .i64 m] w fun e w' => e = .returned (.tuple #[.int .i64 (dpV m), .bool (inn m 1 1000000)]) ∧ Gr w w' := by
  cases hm : inn m 1 1000000
  · rw [show dpV m = 0 by simp [dpV, hm]]
    have H := Lib.hid hm
    clear hm
    go_enter Try.func27, Try.ntmps27
    go_wp2_with (first | (go_at_call 66; refine (Try.nuMost _ _ H.out _).mono ?_; rintro e w1 ⟨rfl, rfl⟩))
    go_ret2
    exact ⟨rfl, by repeat (first | exact Gr.refl _ | refine Gr.alloc ?_ _ | refine Gr.trans ?_ (by assumption) | refine Gr.drew ?_ | refine Gr.drewN ?_ _ | refine Gr.grow ?_ _)⟩
  · rw [show dpV m = dsum m by simp [dpV, hm]]
    obtain ⟨m0, m1⟩ := inn_e hm
    have H := Lib.hid hm
    clear hm
    go_enter Try.func27, Try.ntmps27
    go_wp2_with (first | (go_at_call 66; refine (Try.nuMost _ _ H.out _).mono ?_; rintro e w1 ⟨rfl, rfl⟩))
    go_loopw [4, 5] (fun s n wr => SRel m w s n wr) (fun _ n _ => (m + 1 - intOf n).toNat)
    case atStart => exact ⟨Gr.refl _, 1, by omega, by omega, rfl, by rw [show (1 : Int) - 1 = 0 by omega, dsum_zero]⟩
    case round =>
      obtain ⟨gr, k, k1, k2, rfl, rfl⟩ := hrel
      obtain ⟨q1, q2, q3⟩ := dsum_bd (k - 1) (by omega) (by omega)
      by_cases hk : k ≤ m
      · obtain ⟨p1, p2⟩ := dl_bd k (by omega)
        have HS := Lib.hid (dsum_succ (k - 1))
        go_wp2_with (first | (go_at_call 78; refine (Try.nuLong _ (by omega) (by omega) _).mono ?_; rintro e w1 ⟨rfl, hbW⟩))
        go_roundw
        case rel => exact ⟨gr.trans hbW, k + 1, by omega, by omega, rfl, by have := HS.out; rw [show k - 1 + 1 = k by omega] at this; rw [show k + 1 - 1 = k by omega, this]⟩
        case measure => simp [intOf]; omega
      · obtain rfl : k = m + 1 := by omega
        go_wp2
        go_ret2
        exact ⟨by first | rfl | rw [show m + 1 - 1 = m by omega], gr⟩
end Go.Proofs
