/-
  Contracts of chapter 1, third part: opposite houses, walks between houses.
-/
import Derived.Test.YthaepfpcnbhndaaNuB
namespace Go.Proofs
open Go.RowKit
set_option linter.unusedVariables false
set_option linter.unusedSimpArgs false
def opB (k p n : Int) : Bool := asB k p n && decide (k ≠ 0)
def opV (k p n : Int) : Int := if opB k p n then num k p (1 - sdo k p n) (plo k p n) else 0
theorem sdo_bd (k p n : Int) (h4 : 1 ≤ n) : 0 ≤ sdo k p n ∧ sdo k p n ≤ 1 := by unfold sdo; omega
theorem plo_bd (k p n : Int) (h2 : 1 ≤ p) (h4 : 1 ≤ n) (h5 : n ≤ hs k p) : 0 ≤ plo k p n ∧ plo k p n ≤ p - 1 := by unfold hs at h5; unfold plo; omega
theorem op_na (k p n : Int) (h : asB k p n = true) : naB k p (1 - sdo k p n) (plo k p n) = opB k p n ∧ naV k p (1 - sdo k p n) (plo k p n) = opV k p n := by
  obtain ⟨hgd, h4, h5⟩ := asB_t h
  obtain ⟨h0, h1, h2, h3⟩ := gd_t hgd
  have hp := plo_bd k p n h2 h4 h5
  have e : naB k p (1 - sdo k p n) (plo k p n) = opB k p n := by
    unfold naB opB
    rw [hgd, h, inn_t hp.1 hp.2]
    simp only [Bool.true_and, Bool.and_true]
    unfold hsd
    refine decide_eq_decide.2 ?_
    unfold sdo
    unfold hs at h5
    omega
  exact ⟨e, by unfold naV opV; rw [e]⟩
set_option maxHeartbeats 400000 in
theorem Try.sOppositeOf (k p n : Int) (w : World) :
    Calls Try.prog 48 #[.agg #[.int .i64 k, .int .i64 p], .int .i64 n] w fun e w' => e = .returned (.tuple #[.int .i64 (opV k p n), .bool (opB k p n)]) ∧ Gr w w' := by
  cases hg : asB k p n
  · have e : opB k p n = false := by simp [opB, hg]
    rw [show opV k p n = 0 by simp [opV, e], e]
    have H := Lib.hid hg
    clear hg e
    go_enter Try.func48, Try.ntmps48
    go_wp2_with (go_at_call 92; refine (Try.nuAsked _ _ _ _ H.out _).mono ?_; rintro e w1 ⟨rfl, hbW⟩; have hcW := (bcell hbW.below).1; have hfW := (bcell hbW.below).2; (try have hzW : w.heap.size < w1.heap.size := by have hq := hbW.below.size; (try simp at hq); omega); (try have hyW : w.heap.size + 1 < w1.heap.size := by have hq := hbW.below.size; (try simp at hq); omega))
    go_ret2
    exact ⟨rfl, by repeat (first | exact Gr.refl _ | refine Gr.alloc ?_ _ | refine Gr.trans ?_ (by assumption) | refine Gr.drew ?_ | refine Gr.drewN ?_ _ | refine Gr.grow ?_ _)⟩
  · obtain ⟨hgd, h4, h5⟩ := asB_t hg
    obtain ⟨h0, h1, h2, h3⟩ := gd_t hgd
    have hs1 := sdo_bd k p n h4
    have hp1 := plo_bd k p n h2 h4 h5
    by_cases hk : k = 0
    · have e : opB k p n = false := by simp [opB, hk]
      rw [show opV k p n = 0 by simp [opV, e], e]
      have H := Lib.hid hg
      have hb : (k == 0) = true := by simp [hk]
      clear hg e hgd hk
      go_enter Try.func48, Try.ntmps48
      go_wp2_with (go_at_call 92; refine (Try.nuAsked _ _ _ _ H.out _).mono ?_; rintro e w1 ⟨rfl, hbW⟩; have hcW := (bcell hbW.below).1; have hfW := (bcell hbW.below).2; (try have hzW : w.heap.size < w1.heap.size := by have hq := hbW.below.size; (try simp at hq); omega); (try have hyW : w.heap.size + 1 < w1.heap.size := by have hq := hbW.below.size; (try simp at hq); omega))
      go_ret2
      exact ⟨rfl, by repeat (first | exact Gr.refl _ | refine Gr.alloc ?_ _ | refine Gr.trans ?_ (by assumption) | refine Gr.drew ?_ | refine Gr.drewN ?_ _ | refine Gr.grow ?_ _)⟩
    · have e : opB k p n = true := by simp [opB, hg, hk]
      rw [show opV k p n = num k p (1 - sdo k p n) (plo k p n) by simp [opV, e], e]
      have H := Lib.hid hg
      have hb : (k == 0) = false := by simp [hk]
      clear hg e hgd hk
      go_enter Try.func48, Try.ntmps48
      go_wp2_with (first | (go_at_call 92; refine (Try.nuAsked _ _ _ _ H.out _).mono ?_; rintro e w1 ⟨rfl, hbW⟩; have hcW := (bcell hbW.below).1; have hfW := (bcell hbW.below).2; (try have hzW : w.heap.size < w1.heap.size := by have hq := hbW.below.size; (try simp at hq); omega); (try have hyW : w.heap.size + 1 < w1.heap.size := by have hq := hbW.below.size; (try simp at hq); omega)) | (go_at_call 93; refine (Try.nuPlot _ _ _ _ h0 h1 h2 h3 h4 h5).mono ?_; rintro e w1 ⟨rfl, hbW⟩; have hcW := (bcell hbW.below).1; have hfW := (bcell hbW.below).2; (try have hzW : w.heap.size < w1.heap.size := by have hq := hbW.below.size; (try simp at hq); omega); (try have hyW : w.heap.size + 1 < w1.heap.size := by have hq := hbW.below.size; (try simp at hq); omega)) | (go_at_call 89; refine (Try.nuNumber _ _ _ _ _ h0 h1 h2 h3 (by omega) (by omega) hp1.1 hp1.2).mono ?_; rintro e w1 ⟨rfl, hbW⟩; have hcW := (bcell hbW.below).1; have hfW := (bcell hbW.below).2; (try have hzW : w.heap.size < w1.heap.size := by have hq := hbW.below.size; (try simp at hq); omega); (try have hyW : w.heap.size + 1 < w1.heap.size := by have hq := hbW.below.size; (try simp at hq); omega)))
      go_ret2
      exact ⟨rfl, by repeat (first | exact Gr.refl _ | refine Gr.alloc ?_ _ | refine Gr.trans ?_ (by assumption) | refine Gr.drew ?_ | refine Gr.drewN ?_ _ | refine Gr.grow ?_ _)⟩
set_option maxHeartbeats 400000 in
theorem Try.iOppositeOf (k p n : Int) (w : World) :
    Calls Try.prog 49 #[.agg #[.int .i64 k, .int .i64 p], .int .i64 n] w fun e w' => e = .returned (.tuple #[.int .i64 (opV k p n), .bool (opB k p n)]) ∧ Gr w w' := by
  cases hg : asB k p n
  · have e : opB k p n = false := by simp [opB, hg]
    rw [show opV k p n = 0 by simp [opV, e], e]
    have H := Lib.hid hg
    clear hg e
    go_enter Try.func49, Try.ntmps49
    go_wp2_with (go_at_call 94; refine (Try.hasHouse _ _ _ _ H.out _).mono ?_; rintro e w1 ⟨rfl, hbW⟩; have hcW := (bcell hbW.below).1; have hfW := (bcell hbW.below).2; (try have hzW : w.heap.size < w1.heap.size := by have hq := hbW.below.size; (try simp at hq); omega); (try have hyW : w.heap.size + 1 < w1.heap.size := by have hq := hbW.below.size; (try simp at hq); omega))
    go_ret2
    exact ⟨rfl, by repeat (first | exact Gr.refl _ | refine Gr.alloc ?_ _ | refine Gr.trans ?_ (by assumption) | refine Gr.drew ?_ | refine Gr.drewN ?_ _ | refine Gr.grow ?_ _)⟩
  · obtain ⟨hgd, h4, h5⟩ := asB_t hg
    obtain ⟨h0, h1, h2, h3⟩ := gd_t hgd
    obtain ⟨e1, e2⟩ := op_na k p n hg
    have hs1 := sdo_bd k p n h4
    rw [← e1, ← e2]
    have H := Lib.hid hg
    clear hg e1 e2 hgd
    go_enter Try.func49, Try.ntmps49
    go_wp2_with (first | (go_at_call 94; refine (Try.hasHouse _ _ _ _ H.out _).mono ?_; rintro e w1 ⟨rfl, hbW⟩; have hcW := (bcell hbW.below).1; have hfW := (bcell hbW.below).2; (try have hzW : w.heap.size < w1.heap.size := by have hq := hbW.below.size; (try simp at hq); omega); (try have hyW : w.heap.size + 1 < w1.heap.size := by have hq := hbW.below.size; (try simp at hq); omega)) | (go_at_call 95; refine (Try.placeOf _ _ _ _ h0 h1 h2 h3 h4 h5).mono ?_; rintro e w1 ⟨rfl, hbW⟩; have hcW := (bcell hbW.below).1; have hfW := (bcell hbW.below).2; (try have hzW : w.heap.size < w1.heap.size := by have hq := hbW.below.size; (try simp at hq); omega); (try have hyW : w.heap.size + 1 < w1.heap.size := by have hq := hbW.below.size; (try simp at hq); omega)) | (go_at_call 45; refine (Try.iNumberAt _ _ _ _ _).mono ?_; rintro e w1 ⟨rfl, hbW⟩; have hcW := (bcell hbW.below).1; have hfW := (bcell hbW.below).2; (try have hzW : w.heap.size < w1.heap.size := by have hq := hbW.below.size; (try simp at hq); omega); (try have hyW : w.heap.size + 1 < w1.heap.size := by have hq := hbW.below.size; (try simp at hq); omega)))
    go_ret2
    exact ⟨rfl, by repeat (first | exact Gr.refl _ | refine Gr.alloc ?_ _ | refine Gr.trans ?_ (by assumption) | refine Gr.drew ?_ | refine Gr.drewN ?_ _ | refine Gr.grow ?_ _)⟩

/-! ## Walks between houses -/
def wkB (k p a b x : Int) : Bool := asB k p a && asB k p b && inn x 0 1000
def wkD (k p a b x : Int) : Int := (if plo k p a ≤ plo k p b then plo k p b - plo k p a else plo k p a - plo k p b) + (if sdo k p a = sdo k p b then 0 else x)
def wkV (k p a b x : Int) : Int := if wkB k p a b x then wkD k p a b x else 0
def abv (n : Int) : Int := if 0 ≤ n then n else -n
set_option maxHeartbeats 400000 in
theorem Try.l1Abs (n : Int) (w : World) (h : -1000000 ≤ n) (g : n ≤ 1000000) :
    Calls Try.prog 98 #[.int .i64 n] w fun e w' => e = .returned (.int .i64 (abv n)) ∧ w = w' := by
  go_enter Try.func98, Try.ntmps98
  go_wp2
  all_goals
    go_ret
    exact ⟨ri (by (try simp only [beq_iff_eq, beq_eq_false_iff_ne, bne_iff_ne, ne_eq, decide_eq_true_eq, decide_eq_false_iff_not] at *); (try unfold abv); omega), rfl⟩
set_option maxHeartbeats 800000 in
theorem Try.sWalkBetween (k p a b x : Int) (w : World) :
    Calls Try.prog 55 #[.agg #[.int .i64 k, .int .i64 p], .int .i64 a, .int .i64 b, .int .i64 x] w fun e w' => e = .returned (.tuple #[.int .i64 (wkV k p a b x), .bool (wkB k p a b x)]) ∧ Gr w w' := by
  cases ha : asB k p a
  · have e : wkB k p a b x = false := by simp [wkB, ha]
    rw [show wkV k p a b x = 0 by simp [wkV, e], e]
    have H := Lib.hid ha
    clear ha e
    go_enter Try.func55, Try.ntmps55
    go_wp2_with (go_at_call 92; refine (Try.nuAsked _ _ _ _ H.out _).mono ?_; rintro e w1 ⟨rfl, hbW⟩; have hcW := (bcell hbW.below).1; have hfW := (bcell hbW.below).2; (try have hzW : w.heap.size < w1.heap.size := by have hq := hbW.below.size; (try simp at hq); omega); (try have hyW : w.heap.size + 1 < w1.heap.size := by have hq := hbW.below.size; (try simp at hq); omega))
    go_ret2
    exact ⟨rfl, by repeat (first | exact Gr.refl _ | refine Gr.alloc ?_ _ | refine Gr.trans ?_ (by assumption) | refine Gr.drew ?_ | refine Gr.drewN ?_ _ | refine Gr.grow ?_ _)⟩
  · cases hb : asB k p b
    · have e : wkB k p a b x = false := by simp [wkB, hb]
      rw [show wkV k p a b x = 0 by simp [wkV, e], e]
      have H := Lib.hid ha
      have H2 := Lib.hid hb
      clear ha hb e
      go_enter Try.func55, Try.ntmps55
      go_wp2_with (first | (go_at_call_of 92 (Value.int .i64 a); refine (Try.nuAsked _ _ _ _ H.out _).mono ?_; rintro e w1 ⟨rfl, hbW⟩; have hcW := (bcell hbW.below).1) | (go_at_call_of 92 (Value.int .i64 b); refine (Try.nuAsked _ _ _ _ H2.out _).mono ?_; rintro e w1 ⟨rfl, hbW⟩; have hcW := (bcell hbW.below).1))
      go_ret2
      exact ⟨rfl, by repeat (first | exact Gr.refl _ | refine Gr.alloc ?_ _ | refine Gr.trans ?_ (by assumption) | refine Gr.drew ?_ | refine Gr.drewN ?_ _ | refine Gr.grow ?_ _)⟩
    · cases hx : inn x 0 1000
      · have e : wkB k p a b x = false := by simp [wkB, hx]
        rw [show wkV k p a b x = 0 by simp [wkV, e], e]
        have H := Lib.hid ha
        have H2 := Lib.hid hb
        have H3 := Lib.hid hx
        clear ha hb hx e
        go_enter Try.func55, Try.ntmps55
        go_wp2_with (first | (go_at_call_of 92 (Value.int .i64 a); refine (Try.nuAsked _ _ _ _ H.out _).mono ?_; rintro e w1 ⟨rfl, hbW⟩; have hcW := (bcell hbW.below).1; (try have hzW : w.heap.size < w1.heap.size := by have hq := hbW.below.size; (try simp at hq); omega)) | (go_at_call_of 92 (Value.int .i64 b); refine (Try.nuAsked _ _ _ _ H2.out _).mono ?_; rintro e w1 ⟨rfl, hbW⟩; have hcW := (bcell hbW.below).1; (try have hzW : w.heap.size < w1.heap.size := by have hq := hbW.below.size; (try simp at hq); omega)) | (go_at_call 67; refine (Try.l1In_b _ _ _ _ H3.out _).mono ?_; rintro e w1 ⟨rfl, rfl⟩))
        go_ret2
        exact ⟨rfl, by repeat (first | exact Gr.refl _ | refine Gr.alloc ?_ _ | refine Gr.trans ?_ (by assumption) | refine Gr.drew ?_ | refine Gr.drewN ?_ _ | refine Gr.grow ?_ _)⟩
      · have e : wkB k p a b x = true := by simp [wkB, ha, hb, hx]
        obtain ⟨hgd, ha4, ha5⟩ := asB_t ha
        obtain ⟨_, hb4, hb5⟩ := asB_t hb
        obtain ⟨h0, h1, h2, h3⟩ := gd_t hgd
        obtain ⟨hx0, hx1⟩ := inn_e hx
        obtain ⟨qa0, qa1⟩ := plo_bd k p a h2 ha4 ha5
        obtain ⟨qb0, qb1⟩ := plo_bd k p b h2 hb4 hb5
        have hd : wkD k p a b x = abv (plo k p a - plo k p b) + (if sdo k p a = sdo k p b then 0 else x) := by unfold wkD abv; omega
        have hv : 0 ≤ abv (plo k p a - plo k p b) ∧ abv (plo k p a - plo k p b) ≤ 1000 := by unfold abv; omega
        obtain ⟨hv0, hv1⟩ := hv
        rw [show wkV k p a b x = wkD k p a b x by simp [wkV, e], e, hd]
        have H := Lib.hid ha
        have H2 := Lib.hid hb
        have H3 := Lib.hid hx
        by_cases hs : sdo k p a = sdo k p b
        · rw [if_pos hs]
          have hb1 : (sdo k p a != sdo k p b) = false := by simp [hs]
          clear ha hb hx e hd hgd hs
          go_enter Try.func55, Try.ntmps55
          go_wp2_with (first | (go_at_call_of 92 (Value.int .i64 a); refine (Try.nuAsked _ _ _ _ H.out _).mono ?_; rintro e w1 ⟨rfl, hbW⟩; have hcW := (bcell hbW.below).1; (try have hzW : w.heap.size < w1.heap.size := by have hq := hbW.below.size; (try simp at hq); omega)) | (go_at_call_of 92 (Value.int .i64 b); refine (Try.nuAsked _ _ _ _ H2.out _).mono ?_; rintro e w1 ⟨rfl, hbW⟩; have hcW := (bcell hbW.below).1; (try have hzW : w.heap.size < w1.heap.size := by have hq := hbW.below.size; (try simp at hq); omega)) | (go_at_call 67; refine (Try.l1In_b _ _ _ _ H3.out _).mono ?_; rintro e w1 ⟨rfl, rfl⟩) | (go_at_call_of 93 (Value.int .i64 a); refine (Try.nuPlot _ _ _ _ h0 h1 h2 h3 ha4 ha5).mono ?_; rintro e w1 ⟨rfl, hbW⟩; have hcW := (bcell hbW.below).1; (try have hzW : w.heap.size < w1.heap.size := by have hq := hbW.below.size; (try simp at hq); omega)) | (go_at_call_of 93 (Value.int .i64 b); refine (Try.nuPlot _ _ _ _ h0 h1 h2 h3 hb4 hb5).mono ?_; rintro e w1 ⟨rfl, hbW⟩; have hcW := (bcell hbW.below).1) | (go_at_call 98; refine (Try.l1Abs _ _ (by omega) (by omega)).mono ?_; rintro e w1 ⟨rfl, rfl⟩))
          go_ret2
          exact ⟨by simp, by repeat (first | exact Gr.refl _ | refine Gr.alloc ?_ _ | refine Gr.trans ?_ (by assumption) | refine Gr.drew ?_ | refine Gr.drewN ?_ _ | refine Gr.grow ?_ _)⟩
        · rw [if_neg hs]
          have hb1 : (sdo k p a != sdo k p b) = true := by simp [hs]
          clear ha hb hx e hd hgd hs
          go_enter Try.func55, Try.ntmps55
          go_wp2_with (first | (go_at_call_of 92 (Value.int .i64 a); refine (Try.nuAsked _ _ _ _ H.out _).mono ?_; rintro e w1 ⟨rfl, hbW⟩; have hcW := (bcell hbW.below).1; (try have hzW : w.heap.size < w1.heap.size := by have hq := hbW.below.size; (try simp at hq); omega)) | (go_at_call_of 92 (Value.int .i64 b); refine (Try.nuAsked _ _ _ _ H2.out _).mono ?_; rintro e w1 ⟨rfl, hbW⟩; have hcW := (bcell hbW.below).1; (try have hzW : w.heap.size < w1.heap.size := by have hq := hbW.below.size; (try simp at hq); omega)) | (go_at_call 67; refine (Try.l1In_b _ _ _ _ H3.out _).mono ?_; rintro e w1 ⟨rfl, rfl⟩) | (go_at_call_of 93 (Value.int .i64 a); refine (Try.nuPlot _ _ _ _ h0 h1 h2 h3 ha4 ha5).mono ?_; rintro e w1 ⟨rfl, hbW⟩; have hcW := (bcell hbW.below).1; (try have hzW : w.heap.size < w1.heap.size := by have hq := hbW.below.size; (try simp at hq); omega)) | (go_at_call_of 93 (Value.int .i64 b); refine (Try.nuPlot _ _ _ _ h0 h1 h2 h3 hb4 hb5).mono ?_; rintro e w1 ⟨rfl, hbW⟩; have hcW := (bcell hbW.below).1) | (go_at_call 98; refine (Try.l1Abs _ _ (by omega) (by omega)).mono ?_; rintro e w1 ⟨rfl, rfl⟩))
          go_ret2
          exact ⟨by simp, by repeat (first | exact Gr.refl _ | refine Gr.alloc ?_ _ | refine Gr.trans ?_ (by assumption) | refine Gr.drew ?_ | refine Gr.drewN ?_ _ | refine Gr.grow ?_ _)⟩
end Go.Proofs
