/-
  Contracts of chapter 4: a step along a block, both sides.
-/
import Derived.Test.YtnpkhoiblemodaaBrF
import Derived.Test.YtnpkhoiblemodaaCtK
namespace Go.Proofs
open Go.RowKit Av
set_option linter.unusedVariables false
set_option linter.unusedSimpArgs false
def sgn : Nat → Int | 0 => 101 | 1 => 110 | 2 => 115 | _ => 119
def sb (x y : Int) : Nat → Blk | 0 => (x, y, false) | 1 => (x, y, true) | 2 => (x, y - 1, true) | _ => (x - 1, y, false)
theorem sb_eq (x y : Int) (j : Nat) (hj : j < 4) : bb (x, y) (nx (x, y) j) = sb x y j := by
  have : j = 0 ∨ j = 1 ∨ j = 2 ∨ j = 3 := by omega
  rcases this with rfl | rfl | rfl | rfl <;> simp [nx, bb, sb, dx, dy] <;> omega
/-- what a step comes to -/
def stV (W H : Int) (cl : List Blk) (x y : Int) (j : Nat) : Value :=
  if stp W H cl (x, y) j then .tuple #[.int .i64 (x + dx j), .int .i64 (y + dy j), .bool true] else .tuple #[.int .i64 0, .int .i64 0, .bool false]
theorem stp_f1 {W H : Int} {cl : List Blk} {x y : Int} {j : Nat} (hj : j < 4) (ho : onC W H (x, y)) (h : isB W H (sb x y j) = false) : stp W H cl (x, y) j = false := by
  have : ¬ onC W H (nx (x, y) j) := fun q => of_decide_eq_false h (by rw [← sb_eq x y j hj]; exact (onC_is ho j hj).1 q)
  unfold stp
  rw [decide_eq_false this]; rfl
theorem stp_t1 {W H : Int} {cl : List Blk} {x y : Int} {j : Nat} (hj : j < 4) (ho : onC W H (x, y)) (h : isB W H (sb x y j) = true) : stp W H cl (x, y) j = !has cl (sb x y j) := by
  have : onC W H (nx (x, y) j) := (onC_is ho j hj).2 (by rw [sb_eq x y j hj]; exact of_decide_eq_true h)
  unfold stp
  rw [decide_eq_true this, sb_eq x y j hj]; rfl
set_option maxRecDepth 100000 in
set_option maxHeartbeats 1600000 in
theorem Try.avStep0 (w : World) (W H : Int) (B : Nat) (a : Value) (ps : List Blk) (x y : Int) (hW : 1 ≤ W ∧ W ≤ 8) (hH : 1 ≤ H ∧ H ≤ 8) (ho : onC W H (x, y)) (hl : ps.length ≤ 1048576) (h : OwnB w B a ps) :
    Calls Try.prog 71 #[.agg #[.int .i64 W, .int .i64 H, a], .int .i64 x, .int .i64 y, .int .u8 101] w fun e w' => e = .returned (stV W H ps x y 0) ∧ Gr w w' := by
  have mixed : Try.prog.follows .mixedOrders = true := by kernel_rfl
  have e1 := stp_f1 (cl := ps) (j := 0) (by decide) ho
  have e2 := stp_t1 (cl := ps) (j := 0) (by decide) ho
  have HS := Lib.hid (fun (X : World) (g : Gr w X) v hv => Try.avShut X W H B a ps x y false v hv hl (h.gr g))
  obtain ⟨o1, o2, o3, o4⟩ := ho
  simp only at o1 o2 o3 o4
  obtain ⟨A, c, rfl, h⟩ := OwnE.eta h
  clear h
  simp only [sb] at e1 e2
  unfold stV
  simp only [dx, dy]
  cases h1 : isB W H (x, y, false)
  · rw [e1 h1]
    have H1 := Lib.hid h1
    simp only [Bool.false_eq_true, if_false]
    clear e1 e2 h1
    go_enter Try.func71, Try.ntmps71
    go_wp2_with (first | (go_at_call 29; refine (Try.avIs W H _ _ _ hW hH _ H1.out _).mono ?_; rintro e w1 ⟨rfl, hbW⟩; have hcW := (bcell hbW.below).1; have hfW := (bcell hbW.below).2; (try have hzW : w.heap.size < w1.heap.size := by have hq := hbW.below.size; (try simp at hq); omega); (try have hyW : w.heap.size + 1 < w1.heap.size := by have hq := hbW.below.size; (try simp at hq); omega); (try have hxW : w.heap.size + 2 < w1.heap.size := by have hq := hbW.below.size; (try simp at hq); omega)))
    exact bodyPost_ret (v := .tuple #[.int .i64 0, .int .i64 0, .bool false]) (by simp [results, Try.results71, go_sem]) rfl ⟨rfl, by repeat (first | exact Gr.refl _ | refine Gr.alloc ?_ _ | refine Gr.trans ?_ (by assumption) | refine Gr.drew ?_ | refine Gr.drewN ?_ _ | refine Gr.grow ?_ _ | refine Gr.setCell ?_ (by (try simp); (try omega)) _)⟩
  · rw [e2 h1]
    cases h2 : has ps (x, y, false)
    all_goals
      have H1 := Lib.hid h1
      have H2 := Lib.hid h2
      simp only [Bool.not_false, Bool.not_true, Bool.false_eq_true, if_false, if_true]
      clear e1 e2 h1 h2
      go_enter Try.func71, Try.ntmps71
      go_wp2_with (first | (go_at_call 29; refine (Try.avIs W H _ _ _ hW hH _ H1.out _).mono ?_; rintro e w1 ⟨rfl, hbW⟩; have hcW := (bcell hbW.below).1; have hfW := (bcell hbW.below).2; (try have hzW : w.heap.size < w1.heap.size := by have hq := hbW.below.size; (try simp at hq); omega); (try have hyW : w.heap.size + 1 < w1.heap.size := by have hq := hbW.below.size; (try simp at hq); omega); (try have hxW : w.heap.size + 2 < w1.heap.size := by have hq := hbW.below.size; (try simp at hq); omega)) | (go_at_call 30; refine (HS.out _ (by repeat (first | exact Gr.refl _ | refine Gr.alloc ?_ _ | refine Gr.trans ?_ (by assumption) | refine Gr.drew ?_ | refine Gr.drewN ?_ _ | refine Gr.grow ?_ _ | refine Gr.setCell ?_ (by (try simp); (try omega)) _)) _ H2.out).mono ?_; rintro e w1 ⟨rfl, hbW⟩; have hcW := (bcell hbW.below).1; have hfW := (bcell hbW.below).2; (try have hzW : w.heap.size < w1.heap.size := by have hq := hbW.below.size; (try simp at hq); omega); (try have hyW : w.heap.size + 1 < w1.heap.size := by have hq := hbW.below.size; (try simp at hq); omega); (try have hxW : w.heap.size + 2 < w1.heap.size := by have hq := hbW.below.size; (try simp at hq); omega)))
      go_ret3
      exact ⟨by simp <;> rfl, by repeat (first | exact Gr.refl _ | refine Gr.alloc ?_ _ | refine Gr.trans ?_ (by assumption) | refine Gr.drew ?_ | refine Gr.drewN ?_ _ | refine Gr.grow ?_ _ | refine Gr.setCell ?_ (by (try simp); (try omega)) _)⟩
set_option maxRecDepth 100000 in
set_option maxHeartbeats 1600000 in
theorem Try.avStep1 (w : World) (W H : Int) (B : Nat) (a : Value) (ps : List Blk) (x y : Int) (hW : 1 ≤ W ∧ W ≤ 8) (hH : 1 ≤ H ∧ H ≤ 8) (ho : onC W H (x, y)) (hl : ps.length ≤ 1048576) (h : OwnB w B a ps) :
    Calls Try.prog 71 #[.agg #[.int .i64 W, .int .i64 H, a], .int .i64 x, .int .i64 y, .int .u8 110] w fun e w' => e = .returned (stV W H ps x y 1) ∧ Gr w w' := by
  have mixed : Try.prog.follows .mixedOrders = true := by kernel_rfl
  have e1 := stp_f1 (cl := ps) (j := 1) (by decide) ho
  have e2 := stp_t1 (cl := ps) (j := 1) (by decide) ho
  have HS := Lib.hid (fun (X : World) (g : Gr w X) v hv => Try.avShut X W H B a ps x y true v hv hl (h.gr g))
  obtain ⟨o1, o2, o3, o4⟩ := ho
  simp only at o1 o2 o3 o4
  obtain ⟨A, c, rfl, h⟩ := OwnE.eta h
  clear h
  simp only [sb] at e1 e2
  unfold stV
  simp only [dx, dy]
  cases h1 : isB W H (x, y, true)
  · rw [e1 h1]
    have H1 := Lib.hid h1
    simp only [Bool.false_eq_true, if_false]
    clear e1 e2 h1
    go_enter Try.func71, Try.ntmps71
    go_wp2_with (first | (go_at_call 29; refine (Try.avIs W H _ _ _ hW hH _ H1.out _).mono ?_; rintro e w1 ⟨rfl, hbW⟩; have hcW := (bcell hbW.below).1; have hfW := (bcell hbW.below).2; (try have hzW : w.heap.size < w1.heap.size := by have hq := hbW.below.size; (try simp at hq); omega); (try have hyW : w.heap.size + 1 < w1.heap.size := by have hq := hbW.below.size; (try simp at hq); omega); (try have hxW : w.heap.size + 2 < w1.heap.size := by have hq := hbW.below.size; (try simp at hq); omega)))
    exact bodyPost_ret (v := .tuple #[.int .i64 0, .int .i64 0, .bool false]) (by simp [results, Try.results71, go_sem]) rfl ⟨rfl, by repeat (first | exact Gr.refl _ | refine Gr.alloc ?_ _ | refine Gr.trans ?_ (by assumption) | refine Gr.drew ?_ | refine Gr.drewN ?_ _ | refine Gr.grow ?_ _ | refine Gr.setCell ?_ (by (try simp); (try omega)) _)⟩
  · rw [e2 h1]
    cases h2 : has ps (x, y, true)
    all_goals
      have H1 := Lib.hid h1
      have H2 := Lib.hid h2
      simp only [Bool.not_false, Bool.not_true, Bool.false_eq_true, if_false, if_true]
      clear e1 e2 h1 h2
      go_enter Try.func71, Try.ntmps71
      go_wp2_with (first | (go_at_call 29; refine (Try.avIs W H _ _ _ hW hH _ H1.out _).mono ?_; rintro e w1 ⟨rfl, hbW⟩; have hcW := (bcell hbW.below).1; have hfW := (bcell hbW.below).2; (try have hzW : w.heap.size < w1.heap.size := by have hq := hbW.below.size; (try simp at hq); omega); (try have hyW : w.heap.size + 1 < w1.heap.size := by have hq := hbW.below.size; (try simp at hq); omega); (try have hxW : w.heap.size + 2 < w1.heap.size := by have hq := hbW.below.size; (try simp at hq); omega)) | (go_at_call 30; refine (HS.out _ (by repeat (first | exact Gr.refl _ | refine Gr.alloc ?_ _ | refine Gr.trans ?_ (by assumption) | refine Gr.drew ?_ | refine Gr.drewN ?_ _ | refine Gr.grow ?_ _ | refine Gr.setCell ?_ (by (try simp); (try omega)) _)) _ H2.out).mono ?_; rintro e w1 ⟨rfl, hbW⟩; have hcW := (bcell hbW.below).1; have hfW := (bcell hbW.below).2; (try have hzW : w.heap.size < w1.heap.size := by have hq := hbW.below.size; (try simp at hq); omega); (try have hyW : w.heap.size + 1 < w1.heap.size := by have hq := hbW.below.size; (try simp at hq); omega); (try have hxW : w.heap.size + 2 < w1.heap.size := by have hq := hbW.below.size; (try simp at hq); omega)))
      go_ret3
      exact ⟨by simp <;> rfl, by repeat (first | exact Gr.refl _ | refine Gr.alloc ?_ _ | refine Gr.trans ?_ (by assumption) | refine Gr.drew ?_ | refine Gr.drewN ?_ _ | refine Gr.grow ?_ _ | refine Gr.setCell ?_ (by (try simp); (try omega)) _)⟩
set_option maxRecDepth 100000 in
set_option maxHeartbeats 1600000 in
theorem Try.avStep2 (w : World) (W H : Int) (B : Nat) (a : Value) (ps : List Blk) (x y : Int) (hW : 1 ≤ W ∧ W ≤ 8) (hH : 1 ≤ H ∧ H ≤ 8) (ho : onC W H (x, y)) (hl : ps.length ≤ 1048576) (h : OwnB w B a ps) :
    Calls Try.prog 71 #[.agg #[.int .i64 W, .int .i64 H, a], .int .i64 x, .int .i64 y, .int .u8 115] w fun e w' => e = .returned (stV W H ps x y 2) ∧ Gr w w' := by
  have mixed : Try.prog.follows .mixedOrders = true := by kernel_rfl
  have e1 := stp_f1 (cl := ps) (j := 2) (by decide) ho
  have e2 := stp_t1 (cl := ps) (j := 2) (by decide) ho
  have HS := Lib.hid (fun (X : World) (g : Gr w X) v hv => Try.avShut X W H B a ps x (y - 1) true v hv hl (h.gr g))
  obtain ⟨o1, o2, o3, o4⟩ := ho
  simp only at o1 o2 o3 o4
  obtain ⟨A, c, rfl, h⟩ := OwnE.eta h
  clear h
  simp only [sb] at e1 e2
  unfold stV
  simp only [dx, dy]
  cases h1 : isB W H (x, (y - 1), true)
  · rw [e1 h1]
    have H1 := Lib.hid h1
    simp only [Bool.false_eq_true, if_false]
    clear e1 e2 h1
    go_enter Try.func71, Try.ntmps71
    go_wp2_with (first | (go_at_call 29; refine (Try.avIs W H _ _ _ hW hH _ H1.out _).mono ?_; rintro e w1 ⟨rfl, hbW⟩; have hcW := (bcell hbW.below).1; have hfW := (bcell hbW.below).2; (try have hzW : w.heap.size < w1.heap.size := by have hq := hbW.below.size; (try simp at hq); omega); (try have hyW : w.heap.size + 1 < w1.heap.size := by have hq := hbW.below.size; (try simp at hq); omega); (try have hxW : w.heap.size + 2 < w1.heap.size := by have hq := hbW.below.size; (try simp at hq); omega)))
    exact bodyPost_ret (v := .tuple #[.int .i64 0, .int .i64 0, .bool false]) (by simp [results, Try.results71, go_sem]) rfl ⟨rfl, by repeat (first | exact Gr.refl _ | refine Gr.alloc ?_ _ | refine Gr.trans ?_ (by assumption) | refine Gr.drew ?_ | refine Gr.drewN ?_ _ | refine Gr.grow ?_ _ | refine Gr.setCell ?_ (by (try simp); (try omega)) _)⟩
  · rw [e2 h1]
    cases h2 : has ps (x, (y - 1), true)
    all_goals
      have H1 := Lib.hid h1
      have H2 := Lib.hid h2
      simp only [Bool.not_false, Bool.not_true, Bool.false_eq_true, if_false, if_true]
      clear e1 e2 h1 h2
      go_enter Try.func71, Try.ntmps71
      go_wp2_with (first | (go_at_call 29; refine (Try.avIs W H _ _ _ hW hH _ H1.out _).mono ?_; rintro e w1 ⟨rfl, hbW⟩; have hcW := (bcell hbW.below).1; have hfW := (bcell hbW.below).2; (try have hzW : w.heap.size < w1.heap.size := by have hq := hbW.below.size; (try simp at hq); omega); (try have hyW : w.heap.size + 1 < w1.heap.size := by have hq := hbW.below.size; (try simp at hq); omega); (try have hxW : w.heap.size + 2 < w1.heap.size := by have hq := hbW.below.size; (try simp at hq); omega)) | (go_at_call 30; refine (HS.out _ (by repeat (first | exact Gr.refl _ | refine Gr.alloc ?_ _ | refine Gr.trans ?_ (by assumption) | refine Gr.drew ?_ | refine Gr.drewN ?_ _ | refine Gr.grow ?_ _ | refine Gr.setCell ?_ (by (try simp); (try omega)) _)) _ H2.out).mono ?_; rintro e w1 ⟨rfl, hbW⟩; have hcW := (bcell hbW.below).1; have hfW := (bcell hbW.below).2; (try have hzW : w.heap.size < w1.heap.size := by have hq := hbW.below.size; (try simp at hq); omega); (try have hyW : w.heap.size + 1 < w1.heap.size := by have hq := hbW.below.size; (try simp at hq); omega); (try have hxW : w.heap.size + 2 < w1.heap.size := by have hq := hbW.below.size; (try simp at hq); omega)))
      go_ret3
      exact ⟨by simp <;> rfl, by repeat (first | exact Gr.refl _ | refine Gr.alloc ?_ _ | refine Gr.trans ?_ (by assumption) | refine Gr.drew ?_ | refine Gr.drewN ?_ _ | refine Gr.grow ?_ _ | refine Gr.setCell ?_ (by (try simp); (try omega)) _)⟩
set_option maxRecDepth 100000 in
set_option maxHeartbeats 1600000 in
theorem Try.avStep3 (w : World) (W H : Int) (B : Nat) (a : Value) (ps : List Blk) (x y : Int) (hW : 1 ≤ W ∧ W ≤ 8) (hH : 1 ≤ H ∧ H ≤ 8) (ho : onC W H (x, y)) (hl : ps.length ≤ 1048576) (h : OwnB w B a ps) :
    Calls Try.prog 71 #[.agg #[.int .i64 W, .int .i64 H, a], .int .i64 x, .int .i64 y, .int .u8 119] w fun e w' => e = .returned (stV W H ps x y 3) ∧ Gr w w' := by
  have mixed : Try.prog.follows .mixedOrders = true := by kernel_rfl
  have e1 := stp_f1 (cl := ps) (j := 3) (by decide) ho
  have e2 := stp_t1 (cl := ps) (j := 3) (by decide) ho
  have HS := Lib.hid (fun (X : World) (g : Gr w X) v hv => Try.avShut X W H B a ps (x - 1) y false v hv hl (h.gr g))
  obtain ⟨o1, o2, o3, o4⟩ := ho
  simp only at o1 o2 o3 o4
  obtain ⟨A, c, rfl, h⟩ := OwnE.eta h
  clear h
  simp only [sb] at e1 e2
  unfold stV
  simp only [dx, dy]
  cases h1 : isB W H ((x - 1), y, false)
  · rw [e1 h1]
    have H1 := Lib.hid h1
    simp only [Bool.false_eq_true, if_false]
    clear e1 e2 h1
    go_enter Try.func71, Try.ntmps71
    go_wp2_with (first | (go_at_call 29; refine (Try.avIs W H _ _ _ hW hH _ H1.out _).mono ?_; rintro e w1 ⟨rfl, hbW⟩; have hcW := (bcell hbW.below).1; have hfW := (bcell hbW.below).2; (try have hzW : w.heap.size < w1.heap.size := by have hq := hbW.below.size; (try simp at hq); omega); (try have hyW : w.heap.size + 1 < w1.heap.size := by have hq := hbW.below.size; (try simp at hq); omega); (try have hxW : w.heap.size + 2 < w1.heap.size := by have hq := hbW.below.size; (try simp at hq); omega)))
    exact bodyPost_ret (v := .tuple #[.int .i64 0, .int .i64 0, .bool false]) (by simp [results, Try.results71, go_sem]) rfl ⟨rfl, by repeat (first | exact Gr.refl _ | refine Gr.alloc ?_ _ | refine Gr.trans ?_ (by assumption) | refine Gr.drew ?_ | refine Gr.drewN ?_ _ | refine Gr.grow ?_ _ | refine Gr.setCell ?_ (by (try simp); (try omega)) _)⟩
  · rw [e2 h1]
    cases h2 : has ps ((x - 1), y, false)
    all_goals
      have H1 := Lib.hid h1
      have H2 := Lib.hid h2
      simp only [Bool.not_false, Bool.not_true, Bool.false_eq_true, if_false, if_true]
      clear e1 e2 h1 h2
      go_enter Try.func71, Try.ntmps71
      go_wp2_with (first | (go_at_call 29; refine (Try.avIs W H _ _ _ hW hH _ H1.out _).mono ?_; rintro e w1 ⟨rfl, hbW⟩; have hcW := (bcell hbW.below).1; have hfW := (bcell hbW.below).2; (try have hzW : w.heap.size < w1.heap.size := by have hq := hbW.below.size; (try simp at hq); omega); (try have hyW : w.heap.size + 1 < w1.heap.size := by have hq := hbW.below.size; (try simp at hq); omega); (try have hxW : w.heap.size + 2 < w1.heap.size := by have hq := hbW.below.size; (try simp at hq); omega)) | (go_at_call 30; refine (HS.out _ (by repeat (first | exact Gr.refl _ | refine Gr.alloc ?_ _ | refine Gr.trans ?_ (by assumption) | refine Gr.drew ?_ | refine Gr.drewN ?_ _ | refine Gr.grow ?_ _ | refine Gr.setCell ?_ (by (try simp); (try omega)) _)) _ H2.out).mono ?_; rintro e w1 ⟨rfl, hbW⟩; have hcW := (bcell hbW.below).1; have hfW := (bcell hbW.below).2; (try have hzW : w.heap.size < w1.heap.size := by have hq := hbW.below.size; (try simp at hq); omega); (try have hyW : w.heap.size + 1 < w1.heap.size := by have hq := hbW.below.size; (try simp at hq); omega); (try have hxW : w.heap.size + 2 < w1.heap.size := by have hq := hbW.below.size; (try simp at hq); omega)))
      go_ret3
      exact ⟨by simp <;> rfl, by repeat (first | exact Gr.refl _ | refine Gr.alloc ?_ _ | refine Gr.trans ?_ (by assumption) | refine Gr.drew ?_ | refine Gr.drewN ?_ _ | refine Gr.grow ?_ _ | refine Gr.setCell ?_ (by (try simp); (try omega)) _)⟩
end Go.Proofs
