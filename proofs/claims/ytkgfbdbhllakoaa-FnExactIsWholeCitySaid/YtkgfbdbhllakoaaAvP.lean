/-
  Contracts of chapter 4: are there ways to all corners from each? Both sides.
-/
import Derived.Test.YtkgfbdbhllakoaaAvO
import Derived.Test.YtkgfbdbhllakoaaHas
namespace Go.Proofs
open Go.RowKit Av Gm Go.Maps
set_option linter.unusedVariables false
set_option linter.unusedSimpArgs false
theorem own_lit2 {w : World} {b : Nat} {x y : Int} (h : w.heap[b]? = some (.cells #[.int .i64 x, .int .i64 y] 3 (0, 0))) : OwnI w b (.slice (some ⟨b, 0, none⟩) 2 2) [x, y] :=
  ⟨rfl, .inr ⟨b, 2, _, rfl, Nat.le_refl _, h, by simp, by decide, rfl, rfl⟩⟩
theorem crn0 (Hn : Nat) : (crn Hn 0).1 = 0 ∧ (crn Hn 0).2 = 0 := by unfold crn; simp
theorem isC00 {W H : Int} (hW : 1 ≤ W) (hH : 1 ≤ H) : isC W H [0, 0] = true := by
  unfold isC onB onC; simp; omega
/-- whole? -/
def whB (W H : Int) (ps : List Blk) : Bool := okB W H ps && decide (crN W H ps [0, 0] = W.toNat * H.toNat)
set_option maxRecDepth 100000 in
set_option maxHeartbeats 1600000 in
theorem Try.iIsWholeCity (w : World) (W H : Int) (B : Nat) (a : Value) (ps : List Blk) (v b : Bool) (hv : whB W H ps = v) (hb : okB W H ps = b) (hl : ps.length ≤ 1048576) (h : OwnB w B a ps) :
    Calls Try.prog 26 #[.agg #[.int .i64 W, .int .i64 H, a]] w fun e w' => e = .returned (.tuple #[.bool v, .bool b]) ∧ Below w.heap.size w w' := by
  have mixed : Try.prog.follows .mixedOrders = true := by kernel_rfl
  subst hv
  obtain ⟨A, c, rfl, h⟩ := OwnE.eta h
  have HA := Lib.hid (fun (X : World) (g : Gr w X) b' (hla : OwnI X b' (.slice (some ⟨b', 0, none⟩) 2 2) [0, 0]) => Try.iCornersReached X W H B _ ps b' _ [0, 0] _ _ rfl rfl hl (h.gr g) hla)
  cases b
  · have e1 : crB W H ps [0, 0] = false := by unfold crB; rw [hb]; rfl
    have e2 : whB W H ps = false := by unfold whB; rw [hb]; rfl
    rw [e2]
    rw [e1] at HA
    generalize crV W H ps [0, 0] = cv at *
    clear h hb e1 e2
    go_enter Try.func26, Try.ntmps26
    go_wp2_with (first | (go_at_call 24; refine (HA.out _ (by repeat (first | exact Gr.refl _ | refine Gr.alloc ?_ _ | refine Gr.trans ?_ (by assumption) | refine Gr.drew ?_ | refine Gr.drewN ?_ _ | refine Gr.grow ?_ _ | refine Gr.setCell ?_ (by (try simp); (try omega)) _)) _ (own_lit2 (by refine heap_new' ?_; simp; done))).mono ?_; rintro e w1 ⟨rfl, hb1⟩))
    go_ret2
    refine ⟨rfl, Below.trans (show Gr w _ from ?_).below (hb1.mono (show Gr w _ from ?_).below.size)⟩
    all_goals exact by repeat (first | exact Gr.refl _ | refine Gr.alloc ?_ _ | refine Gr.trans ?_ (by assumption) | refine Gr.drew ?_ | refine Gr.drewN ?_ _ | refine Gr.grow ?_ _ | refine Gr.setCell ?_ (by (try simp); (try omega)) _)
  · obtain ⟨o1, o2, o3, o4, _, _, o7⟩ := of_decide_eq_true hb
    have e1 : crB W H ps [0, 0] = true := by unfold crB; rw [hb, isC00 o1 o3]; rfl
    have e2 : whB W H ps = decide (crN W H ps [0, 0] = W.toNat * H.toNat) := by unfold whB; rw [hb]; rfl
    have e3 : crV W H ps [0, 0] = crN W H ps [0, 0] := by unfold crV; rw [e1]; rfl
    rw [e2]
    rw [e1, e3] at HA
    generalize crN W H ps [0, 0] = n at *
    obtain ⟨Wn, rfl⟩ : ∃ Wn : Nat, W = Wn := ⟨W.toNat, by omega⟩
    obtain ⟨Hn, rfl⟩ : ∃ Hn : Nat, H = Hn := ⟨H.toNat, by omega⟩
    simp only [Int.toNat_natCast] at *
    have hN : Wn * Hn ≤ 64 := Nat.mul_le_mul (show Wn ≤ 8 by omega) (show Hn ≤ 8 by omega)
    have hN' : (Wn : Int) * Hn = ((Wn * Hn : Nat) : Int) := by push_cast; rfl
    have hwr : IntKind.i64.wrap ((Wn : Int) * Hn) = ((Wn * Hn : Nat) : Int) := by rw [hN']; exact IntWalk.i64_in _ (by omega)
    have heq : ((n : Int) == ((Wn * Hn : Nat) : Int)) = decide (n = Wn * Hn) := by
      by_cases q : n = Wn * Hn
      · simp [q]
      · simp [q]; omega
    clear e2
    generalize decide (n = Wn * Hn) = r at heq ⊢
    generalize Wn * Hn = N at *
    clear h hb e1 e3 hN'
    go_enter Try.func26, Try.ntmps26
    go_wp2_with (first | (go_at_call 24; refine (HA.out _ (by repeat (first | exact Gr.refl _ | refine Gr.alloc ?_ _ | refine Gr.trans ?_ (by assumption) | refine Gr.drew ?_ | refine Gr.drewN ?_ _ | refine Gr.grow ?_ _ | refine Gr.setCell ?_ (by (try simp); (try omega)) _)) _ (own_lit2 (by refine heap_new' ?_; simp; done))).mono ?_; rintro e w1 ⟨rfl, hb1⟩; have k0 := cell_k2 hb1 (show ((w.alloc (.cells #[.int .i64 Wn, .int .i64 Hn, .slice A ps.length c] 31)).alloc (.cells #[.int .i64 0, .int .i64 0] 3)).cell? ⟨w.heap.size, 0, none⟩ = some (.int .i64 Wn) by simp [go_sem]); have k1 := cell_k2 hb1 (show ((w.alloc (.cells #[.int .i64 Wn, .int .i64 Hn, .slice A ps.length c] 31)).alloc (.cells #[.int .i64 0, .int .i64 0] 3)).cell? ⟨w.heap.size, 1, none⟩ = some (.int .i64 Hn) by simp [go_sem])))
    go_ret2
    refine ⟨rfl, Below.trans (show Gr w _ from ?_).below (hb1.mono (show Gr w _ from ?_).below.size)⟩
    all_goals exact by repeat (first | exact Gr.refl _ | refine Gr.alloc ?_ _ | refine Gr.trans ?_ (by assumption) | refine Gr.drew ?_ | refine Gr.drewN ?_ _ | refine Gr.grow ?_ _ | refine Gr.setCell ?_ (by (try simp); (try omega)) _)
set_option maxRecDepth 100000 in
set_option maxHeartbeats 1600000 in
theorem Try.avWhole (w : World) (W H : Int) (B : Nat) (a : Value) (ps : List Blk) (v : Bool) (hv : whB W H ps = v) (hb : okB W H ps = true) (hl : ps.length ≤ 1048576) (h : OwnB w B a ps) :
    Calls Try.prog 45 #[.agg #[.int .i64 W, .int .i64 H, a]] w fun e w' => e = .returned (.bool v) ∧ Below w.heap.size w w' := by
  have mixed : Try.prog.follows .mixedOrders = true := by kernel_rfl
  subst hv
  obtain ⟨A, c, rfl, h⟩ := OwnE.eta h
  obtain ⟨o1, o2, o3, o4, _, _, o7⟩ := of_decide_eq_true hb
  have e2 : whB W H ps = decide (crN W H ps [0, 0] = W.toNat * H.toNat) := by unfold whB; rw [hb]; rfl
  rw [e2]
  unfold crN vtx
  obtain ⟨Wn, rfl⟩ : ∃ Wn : Nat, W = Wn := ⟨W.toNat, by omega⟩
  obtain ⟨Hn, rfl⟩ : ∃ Hn : Nat, H = Hn := ⟨H.toNat, by omega⟩
  simp only [Int.toNat_natCast, List.getD_cons_zero, List.getD_cons_succ, Int.zero_mul, Int.add_zero, Int.toNat_zero] at *
  have hp : 0 < Wn * Hn := Nat.mul_pos (by omega) (by omega)
  have HF := Lib.hid (fun (X : World) (g : Gr w X) b' (hla : OwnI X b' (.slice (some ⟨b', 0, none⟩) 2 2) [0, 0]) => Try.avFar X Wn Hn B _ ps 0 b' _ (by omega) (by omega) hp hl (h.gr g) (by rw [(crn0 Hn).1, (crn0 Hn).2]; exact hla))
  have hI := (fin_bf (@nb_valid Wn Hn ps) hp).inv
  have hall := all_q hI
  have hfl := hI.fl
  have hN : Wn * Hn ≤ 64 := Nat.mul_le_mul (show Wn ≤ 8 by omega) (show Hn ≤ 8 by omega)
  have hh : decide ((fin (nbC Wn Hn ps) (Wn * Hn) 0).q.length = Wn * Hn) = !(hasI (fin (nbC Wn Hn ps) (Wn * Hn) 0).far (-1)) := by
    unfold hasI
    by_cases q : (fin (nbC Wn Hn ps) (Wn * Hn) 0).q.length = Wn * Hn
    · simp [q, mt hall.1 (fun z => z q)]
    · simp [q, hall.2 q]
  rw [hh]
  generalize (fin (nbC Wn Hn ps) (Wn * Hn) 0).far = fr at *
  have HH := Lib.hid (fun (X : World) (b' : Nat) v (ho : OwnI X b' v fr) => Try.l1Has X b' v fr (-1) (by omega) ho)
  generalize hasI fr (-1) = r at *
  clear h hb e2 hI hall hh
  go_enter Try.func45, Try.ntmps45
  go_wp2_with (first | (go_at_call 37; refine (HF.out _ (by repeat (first | exact Gr.refl _ | refine Gr.alloc ?_ _ | refine Gr.trans ?_ (by assumption) | refine Gr.drew ?_ | refine Gr.drewN ?_ _ | refine Gr.grow ?_ _ | refine Gr.setCell ?_ (by (try simp); (try omega)) _)) _ (own_lit2 (by refine heap_new' ?_; simp; done))).mono ?_; rintro e w1 ⟨v1, rfl, hown1, hb1⟩) | (go_at_call 60; refine (HH.out _ _ _ hown1).mono ?_; rintro e w2 ⟨rfl, hg2⟩))
  go_ret
  refine ⟨rfl, Below.trans (Below.trans (show Gr w _ from ?_).below (hb1.mono (show Gr w _ from ?_).below.size)) (hg2.below.mono (Nat.le_trans (show Gr w _ from ?_).below.size hb1.size))⟩
  all_goals exact by repeat (first | exact Gr.refl _ | refine Gr.alloc ?_ _ | refine Gr.trans ?_ (by assumption) | refine Gr.drew ?_ | refine Gr.drewN ?_ _ | refine Gr.grow ?_ _ | refine Gr.setCell ?_ (by (try simp); (try omega)) _)
set_option maxRecDepth 100000 in
set_option maxHeartbeats 1600000 in
theorem Try.sIsWholeCity (w : World) (W H : Int) (B : Nat) (a : Value) (ps : List Blk) (v b : Bool) (hv : whB W H ps = v) (hb : okB W H ps = b) (hl : ps.length ≤ 1048576) (h : OwnB w B a ps) :
    Calls Try.prog 25 #[.agg #[.int .i64 W, .int .i64 H, a]] w fun e w' => e = .returned (.tuple #[.bool v, .bool b]) ∧ Below w.heap.size w w' := by
  have mixed : Try.prog.follows .mixedOrders = true := by kernel_rfl
  obtain ⟨A, c, rfl, h⟩ := OwnE.eta h
  have HA := Lib.hid (fun (X : World) (g : Gr w X) => Try.avGood X W H B _ ps b hb hl (h.gr g))
  cases b
  · have e2 : v = false := by rw [← hv]; unfold whB; rw [hb]; rfl
    subst e2
    clear h hb hv
    go_enter Try.func25, Try.ntmps25
    go_wp2_with (first | (go_at_call 42; refine (HA.out _ (by repeat (first | exact Gr.refl _ | refine Gr.alloc ?_ _ | refine Gr.trans ?_ (by assumption) | refine Gr.drew ?_ | refine Gr.drewN ?_ _ | refine Gr.grow ?_ _ | refine Gr.setCell ?_ (by (try simp); (try omega)) _))).mono ?_; rintro e w1 ⟨rfl, hbW⟩; have hcW := (bcell hbW.below).1; have hfW := (bcell hbW.below).2; (try have hzW : w.heap.size < w1.heap.size := by have hq := hbW.below.size; (try simp at hq); omega); (try have hyW : w.heap.size + 1 < w1.heap.size := by have hq := hbW.below.size; (try simp at hq); omega); (try have hxW : w.heap.size + 2 < w1.heap.size := by have hq := hbW.below.size; (try simp at hq); omega)))
    go_ret2
    exact ⟨rfl, Gr.below (by repeat (first | exact Gr.refl _ | refine Gr.alloc ?_ _ | refine Gr.trans ?_ (by assumption) | refine Gr.drew ?_ | refine Gr.drewN ?_ _ | refine Gr.grow ?_ _ | refine Gr.setCell ?_ (by (try simp); (try omega)) _))⟩
  · have HB := Lib.hid (fun (X : World) (g : Gr w X) => Try.avWhole X W H B _ ps v hv hb hl (h.gr g))
    clear h hb hv
    go_enter Try.func25, Try.ntmps25
    go_wp2_with (first | (go_at_call 42; refine (HA.out _ (by repeat (first | exact Gr.refl _ | refine Gr.alloc ?_ _ | refine Gr.trans ?_ (by assumption) | refine Gr.drew ?_ | refine Gr.drewN ?_ _ | refine Gr.grow ?_ _ | refine Gr.setCell ?_ (by (try simp); (try omega)) _))).mono ?_; rintro e w1 ⟨rfl, hbW⟩; have hcW := (bcell hbW.below).1; have hfW := (bcell hbW.below).2; (try have hzW : w.heap.size < w1.heap.size := by have hq := hbW.below.size; (try simp at hq); omega); (try have hyW : w.heap.size + 1 < w1.heap.size := by have hq := hbW.below.size; (try simp at hq); omega); (try have hxW : w.heap.size + 2 < w1.heap.size := by have hq := hbW.below.size; (try simp at hq); omega)) | (go_at_call 45; refine (HB.out _ (by repeat (first | exact Gr.refl _ | refine Gr.alloc ?_ _ | refine Gr.trans ?_ (by assumption) | refine Gr.drew ?_ | refine Gr.drewN ?_ _ | refine Gr.grow ?_ _ | refine Gr.setCell ?_ (by (try simp); (try omega)) _))).mono ?_; rintro e w2 ⟨rfl, hb2⟩))
    go_ret2
    refine ⟨rfl, Below.trans (show Gr w _ from ?_).below (hb2.mono (show Gr w _ from ?_).below.size)⟩
    all_goals exact by repeat (first | exact Gr.refl _ | refine Gr.alloc ?_ _ | refine Gr.trans ?_ (by assumption) | refine Gr.drew ?_ | refine Gr.drewN ?_ _ | refine Gr.grow ?_ _ | refine Gr.setCell ?_ (by (try simp); (try omega)) _)
end Go.Proofs
