/-
  Contracts of chapter 5, the model: sums between boxes; lists of lists of ints.
-/
import Derived.Test.YtciiombkhndnjaaBxM
import Derived.Test.YtciiombkhndnjaaMdB
namespace Go.Proofs
open Go.RowKit
set_option linter.unusedVariables false
set_option linter.unusedSimpArgs false
set_option maxHeartbeats 400000 in
theorem Try.l1MostB (a b : Int) (w : World) : Calls Try.prog 84 #[.int .i64 a, .int .i64 b] w fun e w' => e = .returned (.int .i64 (max a b)) ∧ w = w' := by
  go_enter Try.func84, Try.ntmps84
  go_wp2
  all_goals
    go_ret
    exact ⟨ri (by rw [Int.max_def]; split <;> omega), rfl⟩
set_option maxHeartbeats 400000 in
theorem Try.l1LeastB (a b : Int) (w : World) : Calls Try.prog 67 #[.int .i64 a, .int .i64 b] w fun e w' => e = .returned (.int .i64 (min a b)) ∧ w = w' := by
  go_enter Try.func67, Try.ntmps67
  go_wp2
  all_goals
    go_ret
    exact ⟨ri (by rw [Int.min_def]; split <;> omega), rfl⟩
def PtRel (xs : List Int) (a : Int) (b : Nat) (w : World) (s i : Value) (wr : World) : Prop := Gr w wr ∧ ∃ k : Nat, k ≤ b - lo0 a ∧ i = .int .i64 (((lo0 a + k : Nat)) : Int) ∧ s = .int .i64 (sumF (fun j => ptf xs a b (lo0 a + j)) k)
set_option maxRecDepth 100000 in
set_option maxHeartbeats 1600000 in
theorem Try.mdPart (w : World) (B : Nat) (v : Value) (xs : List Int) (a : Int) (b : Nat) (hg : GoodP xs) (h0 : -1 ≤ a) (h1 : a ≤ (xs.length : Int)) (hb : b ≤ xs.length) (h4 : 0 ≤ a ∨ b < xs.length) (h : OwnI w B v xs) :
    Calls Try.prog 69 #[v, .int .i64 a, .int .i64 (b : Int)] w fun e w' => e = .returned (.int .i64 (pt xs a b)) ∧ Gr w w' := by
  have hxl := hg.1
  rcases h.view with ⟨rfl, _⟩ | ⟨hpos, g, c, rfl, _, _, _, hc, _⟩
  · simp at hxl
  · have HC := Lib.hid hc
    have HX := Lib.hid hg
    have hlo : max a 0 = (lo0 a : Int) := by unfold lo0; omega
    have HM := Lib.hid (fun W => Try.l1MostB a 0 W)
    rw [hlo] at HM
    have hle : min (b : Int) (xs.length : Int) = (b : Int) := by omega
    have HL := Lib.hid (fun W => Try.l1LeastB (b : Int) (xs.length : Int) W)
    rw [hle] at HL
    have HE := Lib.hid (show pt xs a b = sumF (fun j => ptf xs a b (lo0 a + j)) (b - lo0 a) from rfl)
    have hlob : lo0 a ≤ 60 := by unfold lo0; omega
    have hla : ∀ i : Nat, lo0 a ≤ i → a ≤ (i : Int) := fun i hi => by unfold lo0 at hi; omega
    obtain ⟨R, hR⟩ : ∃ R, pt xs a b = R := ⟨_, rfl⟩
    rw [hR] at HE ⊢
    clear h hc hg hR hlo
    go_enter Try.func69, Try.ntmps69
    go_wp2_with (first | (go_at_call 84; refine (HM.out _).mono ?_; rintro e w1 ⟨rfl, rfl⟩))
    go_loopw [7, 8] (fun s i wr => PtRel xs a b w s i wr) (fun _ i _ => (b - (intOf i).toNat))
    case atStart => exact ⟨Gr.refl _, 0, Nat.zero_le _, rfl, rfl⟩
    case round =>
      obtain ⟨gr, k, hk, rfl, rfl⟩ := hrel
      have HG := Lib.hid gr
      by_cases hlt : lo0 a + k < b
      · have hi2 : lo0 a + k < xs.length := by omega
        have e1 := gr.keep2 (HC.out (lo0 a + k) hi2)
        have bd := ptf_bd HX.out (a := a) (b := b) (i := lo0 a + k) (by omega) hlt hb h4
        have hs := sumF_bd (f := fun j => ptf xs a b (lo0 a + j)) (n := k) (K := 60000) (fun j hj => (ptf_bd HX.out (a := a) (b := b) (i := lo0 a + j) (by omega) (by omega) hb h4).2.2)
        have HN := Lib.hid (sumF_succ (fun j => ptf xs a b (lo0 a + j)) k)
        have hm : ptf xs a b (lo0 a + k) = xs.getD (lo0 a + k) 0 * dsf xs.length a b (lo0 a + k) := rfl
        have hd : dsf xs.length a b (lo0 a + k) = if 0 ≤ a then (if b < xs.length then min (((lo0 a + k : Nat) : Int) - a) ((b : Int) - ((lo0 a + k : Nat) : Int)) else ((lo0 a + k : Nat) : Int) - a) else (if b < xs.length then min big ((b : Int) - ((lo0 a + k : Nat) : Int)) else big) := rfl
        have hka := hla (lo0 a + k) (by omega)
        have HNX := Lib.hid (show ((lo0 a + k : Nat) : Int) + 1 = ((lo0 a + (k + 1) : Nat) : Int) by omega)
        have hmeas : b - (lo0 a + (k + 1)) < b - (lo0 a + k) := by omega
        generalize ptf xs a b (lo0 a + k) = p at *
        generalize dsf xs.length a b (lo0 a + k) = d at *
        generalize xs.getD (lo0 a + k) 0 = y at *
        generalize sumF (fun j => ptf xs a b (lo0 a + j)) k = s at *
        have hi60 : lo0 a + k ≤ 60 := by omega
        generalize hI : lo0 a + k = I at *
        have z0 : (0 : Int) ≤ (I : Int) := by omega
        have z1 : (I : Int) < (xs.length : Int) := by omega
        have z2 : (I : Int) < (b : Int) := by omega
        have wm : IntKind.i64.wrap (y * d) = p := by rw [← hm]; exact IntWalk.i64_in _ (by omega)
        have ws : IntKind.i64.wrap (s + p) = s + p := IntWalk.i64_in _ (by omega)
        have wd1 : IntKind.i64.wrap ((I : Int) - a) = (I : Int) - a := IntWalk.i64_in _ (by omega)
        have wd2 : IntKind.i64.wrap ((b : Int) - (I : Int)) = (b : Int) - (I : Int) := IntWalk.i64_in _ (by omega)
        clear gr hm
        by_cases ha : 0 ≤ a
        · rw [if_pos ha] at hd
          by_cases hbn : b < xs.length
          · rw [if_pos hbn] at hd
            have zb : (b : Int) < (xs.length : Int) := by omega
            have HQ := Lib.hid (fun W => Try.l1LeastB ((I : Int) - a) ((b : Int) - (I : Int)) W)
            rw [← hd] at HQ
            clear hd
            go_wp2_with (first | (go_at_call_of 67 (Value.int .i64 (b : Int)); refine (HL.out _).mono ?_; rintro e w1 ⟨rfl, rfl⟩) | (go_at_call_of 67 (Value.int .i64 ((I : Int) - a)); refine (HQ.out _).mono ?_; rintro e w1 ⟨rfl, rfl⟩))
            go_roundw
            case rel => exact ⟨HG.out, k + 1, by omega, by rw [← HNX.out], by rw [HN.out]⟩
            case measure => simp [intOf]; omega
          · rw [if_neg hbn] at hd
            have zb : ¬ (b : Int) < (xs.length : Int) := by omega
            rw [hd] at wm
            clear hd
            go_wp2_with (first | (go_at_call 67; refine (HL.out _).mono ?_; rintro e w1 ⟨rfl, rfl⟩))
            go_roundw
            case rel => exact ⟨HG.out, k + 1, by omega, by rw [← HNX.out], by rw [HN.out]⟩
            case measure => simp [intOf]; omega
        · rw [if_neg ha, if_pos (by omega)] at hd
          have zb : (b : Int) < (xs.length : Int) := by omega
          have HQ := Lib.hid (fun W => Try.l1LeastB 1000000000 ((b : Int) - (I : Int)) W)
          rw [show min (1000000000 : Int) ((b : Int) - (I : Int)) = d from hd.symm] at HQ
          clear hd
          go_wp2_with (first | (go_at_call_of 67 (Value.int .i64 (b : Int)); refine (HL.out _).mono ?_; rintro e w1 ⟨rfl, rfl⟩) | (go_at_call_of 67 (Value.int .i64 1000000000); refine (HQ.out _).mono ?_; rintro e w1 ⟨rfl, rfl⟩))
          go_roundw
          case rel => exact ⟨HG.out, k + 1, by omega, by rw [← HNX.out], by rw [HN.out]⟩
          case measure => simp [intOf]; omega
      · obtain rfl : k = b - lo0 a := by omega
        rw [← HE.out]
        have zz : ¬ ((lo0 a + (b - lo0 a) : Nat) : Int) < (b : Int) := by omega
        clear gr
        go_wp2_with (first | (go_at_call 67; refine (HL.out _).mono ?_; rintro e w1 ⟨rfl, rfl⟩))
        go_ret
        exact ⟨rfl, HG.out⟩
end Go.Proofs
