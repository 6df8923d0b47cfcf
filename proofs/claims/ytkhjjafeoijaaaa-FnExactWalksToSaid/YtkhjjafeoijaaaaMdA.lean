/-
  Contracts of chapter 5, the model: sums, people that are good (spec.mdSum, mdGood, ArePeople, mdHouse), sums of walks (mdWalks, WalksTo).
-/
import Derived.Test.YtkhjjafeoijaaaaMdMath

import Derived.Test.YtkhjjafeoijaaaaInn
namespace Go.Proofs
open Go.RowKit
set_option linter.unusedVariables false
set_option linter.unusedSimpArgs false
def SRelS (xs : List Int) (w : World) (s i : Value) (wr : World) : Prop := Gr w wr ∧ ∃ k : Nat, k ≤ xs.length ∧ i = .int .i64 k ∧ s = .int .i64 (sumF (gx xs) k)
set_option maxRecDepth 100000 in
set_option maxHeartbeats 800000 in
theorem Try.mdSum (w : World) (B : Nat) (v : Value) (xs : List Int) (hx : AllIn xs 0 1000) (hl : xs.length ≤ 60) (h : OwnI w B v xs) :
    Calls Try.prog 79 #[v] w fun e w' => e = .returned (.int .i64 (sumF (gx xs) xs.length)) ∧ Gr w w' := by
  rcases h.view with ⟨rfl, A, c, rfl⟩ | ⟨hpos, g, c, rfl, _, _, _, hc, _⟩
  · clear h hx
    go_enter Try.func79, Try.ntmps79
    go_wp2
    refine wp_loop_rounds 1 ?_
    rw [rounds_succ]
    go_wp2
    go_ret
    exact ⟨rfl, by repeat (first | exact Gr.refl _ | refine Gr.alloc ?_ _ | refine Gr.trans ?_ (by assumption) | refine Gr.drew ?_ | refine Gr.drewN ?_ _ | refine Gr.grow ?_ _ | refine Gr.setCell ?_ (by (try simp); (try omega)) _)⟩
  · have HC := Lib.hid hc
    have HX := Lib.hid hx
    clear h hc hx
    go_enter Try.func79, Try.ntmps79
    go_wp2
    go_loopw [3, 8] (fun s i wr => SRelS xs w s i wr) (fun _ i _ => (xs.length - intOf i).toNat)
    case atStart => exact ⟨Gr.refl _, 0, Nat.zero_le _, rfl, rfl⟩
    case round =>
      obtain ⟨gr, k, hk, rfl, rfl⟩ := hrel
      have HG := Lib.hid gr
      by_cases hlt : k < xs.length
      · have e1 := gr.keep2 (HC.out k hlt)
        have z0 : (0 : Int) ≤ (k : Int) := by omega
        have z1 : (k : Int) < (xs.length : Int) := by omega
        have hb := inn_e (HX.out k hlt)
        have hs := sumF_bd (f := gx xs) (n := k) (K := 1000) (fun i hi => inn_e (HX.out i (by omega)))
        have HN := Lib.hid (sumF_succ (gx xs) k)
        obtain ⟨y, hy⟩ : ∃ y, gx xs k = y := ⟨_, rfl⟩
        rw [show xs.getD k 0 = y from hy] at e1 hb
        rw [hy] at HN
        clear gr hy
        generalize sumF (gx xs) k = s at *
        go_wp2
        go_roundw
        case rel => exact ⟨HG.out, k + 1, by omega, by go_num, by rw [HN.out]⟩
        case measure => simp [intOf]; omega
      · obtain rfl : k = xs.length := by omega
        clear gr
        go_wp2
        go_ret
        exact ⟨rfl, HG.out⟩
set_option maxHeartbeats 800000 in
theorem Try.mdGood (w : World) (B : Nat) (v : Value) (xs : List Int) (b : Bool) (hb : b = true ↔ GoodP xs) (hl : xs.length ≤ 1048576) (h : OwnI w B v xs) :
    Calls Try.prog 42 #[v] w fun e w' => e = .returned (.bool b) ∧ Gr w w' := by
  have H0 := Lib.hid h
  obtain ⟨A, c, rfl, h⟩ := h.eta
  have HO := Lib.hid h
  have HB := Lib.hid hb
  clear h H0 hb
  cases h1 : inn (xs.length : Int) 1 60
  · have HF := Lib.hid (show b = false by
      cases q : b
      · rfl
      · have := (HB.out.1 q).1; have := of_decide_eq_false h1; omega)
    have H1 := Lib.hid h1
    clear h1
    go_enter Try.func42, Try.ntmps42
    go_wp2_with (first | (go_at_call 67; refine (Try.l1In _ _ _ _ H1.out _).mono ?_; rintro e w1 ⟨rfl, rfl⟩))
    go_ret
    exact ⟨by rw [HF.out]; rfl, by repeat (first | exact Gr.refl _ | refine Gr.alloc ?_ _ | refine Gr.trans ?_ (by assumption) | refine Gr.drew ?_ | refine Gr.drewN ?_ _ | refine Gr.grow ?_ _ | refine Gr.setCell ?_ (by (try simp); (try omega)) _)⟩
  · have hl1 := inn_e h1
    have H1 := Lib.hid h1
    clear h1
    by_cases h2 : AllIn xs 0 1000
    · have hs := sumF_bd (f := gx xs) (n := xs.length) (K := 1000) (fun i hi => inn_e (h2 i (by omega)))
      have HS := Lib.hid (fun (w1 : World) (g : Gr w w1) => Try.mdSum w1 B _ xs h2 (by omega) (HO.out.gr g))
      have HA := Lib.hid (Try.l1All w B _ xs 0 1000 true ⟨fun _ => h2, fun _ => rfl⟩ hl HO.out)
      have HD := Lib.hid (show b = decide (0 < sumF (gx xs) xs.length) by
        cases q : b
        · have : ¬ 0 < sumF (gx xs) xs.length := fun c => by have := HB.out.2 ⟨by omega, h2, c⟩; rw [q] at this; cases this
          simp [this]
        · have := (HB.out.1 q).2.2
          simp [this])
      clear h2
      generalize sumF (gx xs) xs.length = s at *
      go_enter Try.func42, Try.ntmps42
      go_wp2_with (first | (go_at_call 67; refine (Try.l1In _ _ _ _ H1.out _).mono ?_; rintro e w1 ⟨rfl, rfl⟩) | (go_at_call 78; refine (HA.out).mono ?_; rintro e w1 ⟨rfl, hbW⟩; have hcW := (bcell hbW.below).1; have hfW := (bcell hbW.below).2; (try have hzW : w.heap.size < w1.heap.size := by have hq := hbW.below.size; (try simp at hq); omega); (try have hyW : w.heap.size + 1 < w1.heap.size := by have hq := hbW.below.size; (try simp at hq); omega); (try have hxW : w.heap.size + 2 < w1.heap.size := by have hq := hbW.below.size; (try simp at hq); omega)) | (go_at_call 79; refine (HS.out _ (by assumption)).mono ?_; rintro e w1 ⟨rfl, hbW⟩; have hcW := (bcell hbW.below).1; have hfW := (bcell hbW.below).2; (try have hzW : w.heap.size < w1.heap.size := by have hq := hbW.below.size; (try simp at hq); omega); (try have hyW : w.heap.size + 1 < w1.heap.size := by have hq := hbW.below.size; (try simp at hq); omega); (try have hxW : w.heap.size + 2 < w1.heap.size := by have hq := hbW.below.size; (try simp at hq); omega)))
      go_ret
      exact ⟨by rw [HD.out]; rfl, by repeat (first | exact Gr.refl _ | refine Gr.alloc ?_ _ | refine Gr.trans ?_ (by assumption) | refine Gr.drew ?_ | refine Gr.drewN ?_ _ | refine Gr.grow ?_ _ | refine Gr.setCell ?_ (by (try simp); (try omega)) _)⟩
    · have HA := Lib.hid (Try.l1All w B _ xs 0 1000 false ⟨fun q => (by cases q), fun q => absurd q h2⟩ hl HO.out)
      have HF := Lib.hid (show b = false by
        cases q : b
        · rfl
        · exact absurd (HB.out.1 q).2.1 h2)
      clear h2
      go_enter Try.func42, Try.ntmps42
      go_wp2_with (first | (go_at_call 67; refine (Try.l1In _ _ _ _ H1.out _).mono ?_; rintro e w1 ⟨rfl, rfl⟩) | (go_at_call 78; refine (HA.out).mono ?_; rintro e w1 ⟨rfl, hbW⟩; have hcW := (bcell hbW.below).1; have hfW := (bcell hbW.below).2; (try have hzW : w.heap.size < w1.heap.size := by have hq := hbW.below.size; (try simp at hq); omega); (try have hyW : w.heap.size + 1 < w1.heap.size := by have hq := hbW.below.size; (try simp at hq); omega); (try have hxW : w.heap.size + 2 < w1.heap.size := by have hq := hbW.below.size; (try simp at hq); omega)))
      go_ret
      exact ⟨by rw [HF.out]; rfl, by repeat (first | exact Gr.refl _ | refine Gr.alloc ?_ _ | refine Gr.trans ?_ (by assumption) | refine Gr.drew ?_ | refine Gr.drewN ?_ _ | refine Gr.grow ?_ _ | refine Gr.setCell ?_ (by (try simp); (try omega)) _)⟩
end Go.Proofs
