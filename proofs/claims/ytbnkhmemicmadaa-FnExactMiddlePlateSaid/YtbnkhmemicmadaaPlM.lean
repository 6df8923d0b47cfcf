/-
  Contracts of chapter 2: the plate in the middle of two.
-/
import Derived.Test.YtbnkhmemicmadaaPlN
import Derived.Test.YtbnkhmemicmadaaQTail
namespace Go.Proofs
open Go.RowKit Pl
set_option linter.unusedVariables false
set_option linter.unusedSimpArgs false
def mdB (a b c d : Int) : Bool := ok2 a b c d && decide (rk (a, b) + 2 ≤ rk (c, d))
def mdV (a b c d : Int) : Int × Int := if mdB a b c d then iof ((rk (a, b) + rk (c, d)) / 2) else (0, 0)
set_option maxHeartbeats 800000 in
theorem Try.iMiddlePlate (a b c d : Int) (w : World) :
    Calls Try.prog 42 #[.agg #[.int .i64 a, .int .i64 b], .agg #[.int .i64 c, .int .i64 d]] w fun e w' => e = .returned (.tuple #[.agg #[.int .i64 (mdV a b c d).1, .int .i64 (mdV a b c d).2], .bool (mdB a b c d)]) ∧ Gr w w' := by
  have hc := fun w => Try.iCountBetween a b c d w
  cases h0 : cbB a b c d
  · have e : mdB a b c d = false := by
      unfold mdB; unfold cbB at h0
      cases hk : ok2 a b c d
      · rfl
      · rw [hk] at h0; simp at h0 ⊢; omega
    rw [show mdV a b c d = (0, 0) by simp [mdV, e], e]
    rw [h0, show cbV a b c d = 0 by simp [cbV, h0]] at hc
    have H := Lib.hid hc
    clear hc h0 e
    go_enter Try.func42, Try.ntmps42
    go_wp2_with (go_at_call 40; refine (H.out _).mono ?_; rintro e w1 ⟨rfl, hbW⟩; have hcW := (bcell hbW.below).1; have hfW := (bcell hbW.below).2; (try have hzW : w.heap.size < w1.heap.size := by have hq := hbW.below.size; (try simp at hq); omega); (try have hyW : w.heap.size + 1 < w1.heap.size := by have hq := hbW.below.size; (try simp at hq); omega); (try have hxW : w.heap.size + 2 < w1.heap.size := by have hq := hbW.below.size; (try simp at hq); omega))
    exact bodyPost_ret (v := .tuple #[.agg #[.int .i64 0, .int .i64 0], .bool false]) (by simp [results, Try.results42, go_sem, *]) rfl ⟨rfl, by repeat (first | exact Gr.refl _ | refine Gr.alloc ?_ _ | refine Gr.trans ?_ (by assumption) | refine Gr.drew ?_ | refine Gr.drewN ?_ _ | refine Gr.grow ?_ _ | refine Gr.setCell ?_ (by (try simp); (try omega)) _)⟩
  · obtain ⟨hk, hl⟩ : ok2 a b c d = true ∧ rk (a, b) < rk (c, d) := by simpa [cbB] using h0
    obtain ⟨h1, h2⟩ : isP a b = true ∧ isP c d = true := by simpa [ok2] using hk
    rw [h0, show cbV a b c d = rk (c, d) - rk (a, b) - 1 by simp [cbV, h0]] at hc
    obtain ⟨a1, a2, a3, a4⟩ := isP_t h1
    obtain ⟨r1, r2⟩ := rk_b h1
    obtain ⟨r3, r4⟩ := rk_b h2
    by_cases h : rk (a, b) + 2 ≤ rk (c, d)
    · have e : mdB a b c d = true := by simp [mdB, hk, h]
      have ev : mdV a b c d = ((rk (a, b) - 27 + (rk (c, d) - rk (a, b) - 1 + 1) / 2) / 27 + 1, (rk (a, b) - 27 + (rk (c, d) - rk (a, b) - 1 + 1) / 2) % 27) := by
        simp only [mdV, e, if_true]; unfold iof; ext <;> simp only <;> omega
      rw [ev, e]
      have hz : ((rk (c, d) - rk (a, b) - 1) == 0) = false := by simp; omega
      have H := Lib.hid hc
      clear hc h0 h1 h2 hk e ev
      go_enter Try.func42, Try.ntmps42
      go_wp2_with (first | (go_at_call 40; refine (H.out _).mono ?_; rintro e w1 ⟨rfl, hbW⟩; have hcW := (bcell hbW.below).1; have hfW := (bcell hbW.below).2; (try have hzW : w.heap.size < w1.heap.size := by have hq := hbW.below.size; (try simp at hq); omega); (try have hyW : w.heap.size + 1 < w1.heap.size := by have hq := hbW.below.size; (try simp at hq); omega); (try have hxW : w.heap.size + 2 < w1.heap.size := by have hq := hbW.below.size; (try simp at hq); omega)) | (go_at_call 82; refine (Try.rankOfPlate _ _ (by omega) (by omega) (by omega) (by omega) _).mono ?_; rintro e w1 ⟨rfl, hbW⟩; have hcW := (bcell hbW.below).1; have hfW := (bcell hbW.below).2; (try have hzW : w.heap.size < w1.heap.size := by have hq := hbW.below.size; (try simp at hq); omega); (try have hyW : w.heap.size + 1 < w1.heap.size := by have hq := hbW.below.size; (try simp at hq); omega); (try have hxW : w.heap.size + 2 < w1.heap.size := by have hq := hbW.below.size; (try simp at hq); omega)) | (go_at_call 81; refine (Try.plateWithRank _ (by omega) (by omega) _).mono ?_; rintro e w1 ⟨rfl, hbW⟩; have hcW := (bcell hbW.below).1; have hfW := (bcell hbW.below).2; (try have hzW : w.heap.size < w1.heap.size := by have hq := hbW.below.size; (try simp at hq); omega); (try have hyW : w.heap.size + 1 < w1.heap.size := by have hq := hbW.below.size; (try simp at hq); omega); (try have hxW : w.heap.size + 2 < w1.heap.size := by have hq := hbW.below.size; (try simp at hq); omega)))
      exact bodyPost_ret (v := .tuple #[.agg #[.int .i64 ((rk (a, b) - 27 + (rk (c, d) - rk (a, b) - 1 + 1) / 2) / 27 + 1), .int .i64 ((rk (a, b) - 27 + (rk (c, d) - rk (a, b) - 1 + 1) / 2) % 27)], .bool true]) (by simp [results, Try.results42, go_sem, *]) rfl ⟨rfl, by repeat (first | exact Gr.refl _ | refine Gr.alloc ?_ _ | refine Gr.trans ?_ (by assumption) | refine Gr.drew ?_ | refine Gr.drewN ?_ _ | refine Gr.grow ?_ _ | refine Gr.setCell ?_ (by (try simp); (try omega)) _)⟩
    · have e : mdB a b c d = false := by simp [mdB, h]
      rw [show mdV a b c d = (0, 0) by simp [mdV, e], e]
      have hz : rk (c, d) - rk (a, b) - 1 = 0 := by omega
      rw [hz] at hc
      have H := Lib.hid hc
      clear hc h0 h1 h2 hk e hz
      go_enter Try.func42, Try.ntmps42
      go_wp2_with (first | (go_at_call 40; refine (H.out _).mono ?_; rintro e w1 ⟨rfl, hbW⟩; have hcW := (bcell hbW.below).1; have hfW := (bcell hbW.below).2; (try have hzW : w.heap.size < w1.heap.size := by have hq := hbW.below.size; (try simp at hq); omega); (try have hyW : w.heap.size + 1 < w1.heap.size := by have hq := hbW.below.size; (try simp at hq); omega); (try have hxW : w.heap.size + 2 < w1.heap.size := by have hq := hbW.below.size; (try simp at hq); omega)))
      exact bodyPost_ret (v := .tuple #[.agg #[.int .i64 0, .int .i64 0], .bool false]) (by simp [results, Try.results42, go_sem, *]) rfl ⟨rfl, by repeat (first | exact Gr.refl _ | refine Gr.alloc ?_ _ | refine Gr.trans ?_ (by assumption) | refine Gr.drew ?_ | refine Gr.drewN ?_ _ | refine Gr.grow ?_ _ | refine Gr.setCell ?_ (by (try simp); (try omega)) _)⟩
set_option maxHeartbeats 1600000 in
theorem Try.sMiddlePlate (a b c d : Int) (w : World) :
    Calls Try.prog 41 #[.agg #[.int .i64 a, .int .i64 b], .agg #[.int .i64 c, .int .i64 d]] w fun e w' => e = .returned (.tuple #[.agg #[.int .i64 (mdV a b c d).1, .int .i64 (mdV a b c d).2], .bool (mdB a b c d)]) ∧ Gr w w' := by
  have mixed : Try.prog.follows .mixedOrders = true := by kernel_rfl
  obtain ⟨⟨b0, b1, b2, b3⟩, b4, b5, b6, b7⟩ := boxes3 (w := w) (W := (((w.alloc (.cells #[.int .i64 a, .int .i64 b] 45)).alloc (.cells #[.int .i64 c, .int .i64 d] 45)).alloc (.cells #[.int .i64 0, .int .i64 0] 45))) (Gr.refl _)
  cases h1 : isP a b
  · have e : mdB a b c d = false := by simp [mdB, ok2, h1]
    rw [show mdV a b c d = (0, 0) by simp [mdV, e], e]
    have H := Lib.hid h1
    clear h1 e
    go_enter Try.func41, Try.ntmps41
    go_wp2
    (refine wp_region_quiet_grown mixed (by kernel_rfl) ?_; (repeat (first | go_big_quiet_step ((first | (go_at_call 76; exact Calls.grown_of (Try.isPlate _ _ _ H.out _)))) | quiet_step ((first | (go_at_call 76; exact Calls.grown_of (Try.isPlate _ _ _ H.out _)))))); refine wpQuiet_nil ?_; intro _ hw'; obtain ⟨⟨nq, osq⟩, hw''⟩ := hw'; subst hw'')
    go_wp2
    exact bodyPost_ret (v := .tuple #[.agg #[.int .i64 0, .int .i64 0], .bool false]) (by simp [results, Try.results41, go_sem, *]) rfl ⟨rfl, by repeat (first | exact Gr.refl _ | refine Gr.alloc ?_ _ | refine Gr.trans ?_ (by assumption) | refine Gr.drew ?_ | refine Gr.drewN ?_ _ | refine Gr.grow ?_ _ | refine Gr.setCell ?_ (by (try simp); (try omega)) _)⟩
  · cases h2 : isP c d
    · have e : mdB a b c d = false := by simp [mdB, ok2, h2]
      rw [show mdV a b c d = (0, 0) by simp [mdV, e], e]
      have H := Lib.hid h1
      have H2 := Lib.hid h2
      clear h1 h2 e
      go_enter Try.func41, Try.ntmps41
      go_wp2
      (refine wp_region_quiet_grown mixed (by kernel_rfl) ?_; (repeat (first | go_big_quiet_step ((first | (go_at_call_of 76 (Value.int .i64 a); exact Calls.grown_of (Try.isPlate _ _ _ H.out _)) | (go_at_call_of 76 (Value.int .i64 c); exact Calls.grown_of (Try.isPlate _ _ _ H2.out _)) | (go_at_call 78; exact Calls.grown_of (Try.isRank _ _ (by omega) (by omega) (by omega) (by omega) _)))) | quiet_step ((first | (go_at_call_of 76 (Value.int .i64 a); exact Calls.grown_of (Try.isPlate _ _ _ H.out _)) | (go_at_call_of 76 (Value.int .i64 c); exact Calls.grown_of (Try.isPlate _ _ _ H2.out _)) | (go_at_call 78; exact Calls.grown_of (Try.isRank _ _ (by omega) (by omega) (by omega) (by omega) _)))))); refine wpQuiet_nil ?_; intro _ hw'; obtain ⟨⟨nq, osq⟩, hw''⟩ := hw'; subst hw'')
      go_wp2
      exact bodyPost_ret (v := .tuple #[.agg #[.int .i64 0, .int .i64 0], .bool false]) (by simp [results, Try.results41, go_sem, *]) rfl ⟨rfl, by repeat (first | exact Gr.refl _ | refine Gr.alloc ?_ _ | refine Gr.trans ?_ (by assumption) | refine Gr.drew ?_ | refine Gr.drewN ?_ _ | refine Gr.grow ?_ _ | refine Gr.setCell ?_ (by (try simp); (try omega)) _)⟩
    · obtain ⟨a1, a2, a3, a4⟩ := isP_t h1
      obtain ⟨c1, c2, c3, c4⟩ := isP_t h2
      obtain ⟨r1, r2⟩ := rk_b h1
      obtain ⟨r3, r4⟩ := rk_b h2
      have q1 : IntKind.i64.wrap (rk (c, d) - rk (a, b)) = rk (c, d) - rk (a, b) := IntWalk.i64_in _ (by omega)
      by_cases hl : rk (a, b) + 2 ≤ rk (c, d)
      · have e : mdB a b c d = true := by simp [mdB, ok2, h1, h2, hl]
        rw [show mdV a b c d = iof ((rk (a, b) + rk (c, d)) / 2) by simp only [mdV, e, if_true], e]
        have H := Lib.hid h1
        have H2 := Lib.hid h2
        have hd : decide (rk (c, d) - rk (a, b) < 2) = false := by simp; omega
        clear h1 h2 e
        go_enter Try.func41, Try.ntmps41
        go_wp2
        (refine wp_region_quiet_grown mixed (by kernel_rfl) ?_; (repeat (first | go_big_quiet_step ((first | (go_at_call_of 76 (Value.int .i64 a); exact Calls.grown_of (Try.isPlate _ _ _ H.out _)) | (go_at_call_of 76 (Value.int .i64 c); exact Calls.grown_of (Try.isPlate _ _ _ H2.out _)) | (go_at_call 78; exact Calls.grown_of (Try.isRank _ _ (by omega) (by omega) (by omega) (by omega) _)))) | quiet_step ((first | (go_at_call_of 76 (Value.int .i64 a); exact Calls.grown_of (Try.isPlate _ _ _ H.out _)) | (go_at_call_of 76 (Value.int .i64 c); exact Calls.grown_of (Try.isPlate _ _ _ H2.out _)) | (go_at_call 78; exact Calls.grown_of (Try.isRank _ _ (by omega) (by omega) (by omega) (by omega) _)))))); refine wpQuiet_nil ?_; intro _ hw'; obtain ⟨⟨nq, osq⟩, hw''⟩ := hw'; subst hw'')
        clear q1 hd
        go_wp2
        have gW : Gr (((w.alloc (.cells #[.int .i64 a, .int .i64 b] 45)).alloc (.cells #[.int .i64 c, .int .i64 d] 45)).alloc (.cells #[.int .i64 0, .int .i64 0] 45)) (Go.Sort.grow ((((w.alloc (.cells #[.int .i64 a, .int .i64 b] 45)).alloc (.cells #[.int .i64 c, .int .i64 d] 45)).alloc (.cells #[.int .i64 0, .int .i64 0] 45)).drewN nq) osq) := by repeat (first | exact Gr.refl _ | refine Gr.alloc ?_ _ | refine Gr.trans ?_ (by assumption) | refine Gr.drew ?_ | refine Gr.drewN ?_ _ | refine Gr.grow ?_ _ | refine Gr.setCell ?_ (by (try simp); (try omega)) _)
        clear b0 b1 b2 b3 b4 b5 b6 b7
        obtain ⟨⟨b0, b1, b2, b3⟩, b4, b5, b6, b7⟩ := boxes3 (w := w) gW
        have q2 : IntKind.i64.wrap (rk (a, b) + rk (c, d)) = rk (a, b) + rk (c, d) := IntWalk.i64_in _ (by omega)
        have q3 : IntKind.i64.wrap ((rk (a, b) + rk (c, d)).tdiv 2) = (rk (a, b) + rk (c, d)) / 2 := by rw [Int.tdiv_eq_ediv_of_nonneg (by omega)]; exact IntWalk.i64_in _ (by omega)
        (refine wp_region_grown_tail 7 mixed (by kernel_rfl) ?_; simp only [List.take_succ_cons, List.take_zero, List.drop_succ_cons, List.drop_zero]; (repeat (first | go_big_quiet_step ((first | (go_at_call 78; exact Calls.grown_of (Try.isRank _ _ (by omega) (by omega) (by omega) (by omega) _)) | (go_at_call 80; exact Calls.grown_of (Try.isOf _ (by omega) (by omega) _)))) | quiet_step ((first | (go_at_call 78; exact Calls.grown_of (Try.isRank _ _ (by omega) (by omega) (by omega) (by omega) _)) | (go_at_call 80; exact Calls.grown_of (Try.isOf _ (by omega) (by omega) _)))))); refine wpQuiet_nil ?_; intro _ hw'; obtain ⟨⟨nq, osq⟩, hw''⟩ := hw'; subst hw'')
        go_wp2
        exact bodyPost_ret (v := .tuple #[.agg #[.int .i64 (iof ((rk (a, b) + rk (c, d)) / 2)).1, .int .i64 (iof ((rk (a, b) + rk (c, d)) / 2)).2], .bool true]) (by simp [results, Try.results41, go_sem, *]) rfl ⟨rfl, by repeat (first | exact Gr.refl _ | refine Gr.alloc ?_ _ | refine Gr.trans ?_ (by assumption) | refine Gr.drew ?_ | refine Gr.drewN ?_ _ | refine Gr.grow ?_ _ | refine Gr.setCell ?_ (by (try simp); (try omega)) _)⟩
      · have e : mdB a b c d = false := by simp [mdB, hl]
        rw [show mdV a b c d = (0, 0) by simp [mdV, e], e]
        have H := Lib.hid h1
        have H2 := Lib.hid h2
        have hd : decide (rk (c, d) - rk (a, b) < 2) = true := by simp; omega
        clear h1 h2 e
        go_enter Try.func41, Try.ntmps41
        go_wp2
        (refine wp_region_quiet_grown mixed (by kernel_rfl) ?_; (repeat (first | go_big_quiet_step ((first | (go_at_call_of 76 (Value.int .i64 a); exact Calls.grown_of (Try.isPlate _ _ _ H.out _)) | (go_at_call_of 76 (Value.int .i64 c); exact Calls.grown_of (Try.isPlate _ _ _ H2.out _)) | (go_at_call 78; exact Calls.grown_of (Try.isRank _ _ (by omega) (by omega) (by omega) (by omega) _)))) | quiet_step ((first | (go_at_call_of 76 (Value.int .i64 a); exact Calls.grown_of (Try.isPlate _ _ _ H.out _)) | (go_at_call_of 76 (Value.int .i64 c); exact Calls.grown_of (Try.isPlate _ _ _ H2.out _)) | (go_at_call 78; exact Calls.grown_of (Try.isRank _ _ (by omega) (by omega) (by omega) (by omega) _)))))); refine wpQuiet_nil ?_; intro _ hw'; obtain ⟨⟨nq, osq⟩, hw''⟩ := hw'; subst hw'')
        go_wp2
        exact bodyPost_ret (v := .tuple #[.agg #[.int .i64 0, .int .i64 0], .bool false]) (by simp [results, Try.results41, go_sem, *]) rfl ⟨rfl, by repeat (first | exact Gr.refl _ | refine Gr.alloc ?_ _ | refine Gr.trans ?_ (by assumption) | refine Gr.drew ?_ | refine Gr.drewN ?_ _ | refine Gr.grow ?_ _ | refine Gr.setCell ?_ (by (try simp); (try omega)) _)⟩
end Go.Proofs
