/-
  Contracts of chapter 5: sums of walks to boxes (both sides), the box of each house (both sides).
-/
import Derived.Test.YtkiblppanlbpaaaMdG
namespace Go.Proofs
open Go.RowKit
set_option linter.unusedVariables false
set_option linter.unusedSimpArgs false
theorem ris_snoc' {xs : List Int} {lo hi : Int} {k : Nat} (h : ∀ j, j < k → stepR xs lo hi j) (s : stepR xs lo hi k) : ∀ j, j < k + 1 → stepR xs lo hi j := fun j hj => by
  rcases Nat.lt_or_eq_of_le (Nat.le_of_lt_succ hj) with c | c
  · exact h j c
  · rw [c]; exact s
def HBRel (bs : List Int) (hi : Int) (w : World) (i : Value) (wr : World) : Prop := Gr w wr ∧ ∃ k : Nat, k ≤ bs.length ∧ i = .int .i64 k ∧ ∀ j, j < k → stepR bs 0 hi j
set_option maxRecDepth 100000 in
set_option maxHeartbeats 1600000 in
theorem Try.haveBoxes (w : World) (B B2 : Nat) (v v2 : Value) (xs bs : List Int) (b : Bool) (hb : b = true ↔ BoxesP xs bs) (hl : xs.length ≤ 1048576) (hl2 : bs.length ≤ 1048576) (h : OwnI w B v xs) (h2 : OwnI w B2 v2 bs) :
    Calls Try.prog 67 #[v, v2] w fun e w' => e = .returned (.bool b) ∧ Gr w w' := by
  have HO := Lib.hid h
  obtain ⟨A, c, rfl, _⟩ := h.eta
  cases hi : inn (bs.length : Int) 1 5
  · have HF := Lib.hid (not_true hb (fun q => by have := q.2.1; have := of_decide_eq_false hi; omega))
    have HI := Lib.hid hi
    obtain ⟨A2, c2, rfl, h2⟩ := h2.eta
    clear h h2 hb hi
    go_enter Try.func67, Try.ntmps67
    go_wp2_with (first | (go_at_call 50; refine (Try.within _ _ _ _ HI.out _).mono ?_; rintro e w1 ⟨rfl, rfl⟩))
    go_ret
    exact ⟨by rw [HF.out]; rfl, by repeat (first | exact Gr.refl _ | refine Gr.alloc ?_ _ | refine Gr.trans ?_ (by assumption) | refine Gr.drew ?_ | refine Gr.drewN ?_ _ | refine Gr.grow ?_ _ | refine Gr.setCell ?_ (by (try simp); (try omega)) _)⟩
  · have hi' := inn_e hi
    have HI := Lib.hid hi
    rcases h2.view with ⟨rfl, _⟩ | ⟨hpos, g, c2, rfl, _, _, _, hc, _⟩
    · simp at hi'
    · have HC := Lib.hid hc
      have HB := Lib.hid hb
      clear h h2 hb hi hc
      go_enter Try.func67, Try.ntmps67
      go_wp2_with (first | (go_at_call 50; refine (Try.within _ _ _ _ HI.out _).mono ?_; rintro e w1 ⟨rfl, rfl⟩))
      go_loopw [13] (fun i wr => HBRel bs ((xs.length : Int) - 1) w i wr ∧ (i ≠ .int .i64 0 → GoodP xs)) (fun i _ => (bs.length - intOf i).toNat)
      case atStart => exact ⟨⟨Gr.refl _, 0, Nat.zero_le _, rfl, fun j hj => absurd hj (Nat.not_lt_zero _)⟩, fun q => absurd rfl q⟩
      case round =>
        obtain ⟨⟨gr, k, hk, rfl, hall⟩, hgood⟩ := hrel
        have HG := Lib.hid gr
        have HA := Lib.hid hall
        have HK := Lib.hid hgood
        by_cases hlt : k < bs.length
        · have e1 := gr.keep2 (HC.out k hlt)
          have z0 : (0 : Int) ≤ (k : Int) := by omega
          have z1 : (k : Int) < (bs.length : Int) := by omega
          obtain ⟨r, hr⟩ := exb (HouseP xs (bs.getD k 0))
          obtain ⟨y, hy⟩ : ∃ y, bs.getD k 0 = y := ⟨_, rfl⟩
          rw [show bs.getD k 0 = y from hy] at e1
          rw [hy] at hr
          have HY := Lib.hid hy
          have HH := Lib.hid (Try.haveHouse wr B _ xs y r hr hl (HO.out.gr gr))
          clear gr hall hgood hy
          cases hq : r
          · rw [hq] at HH
            have HF := Lib.hid (not_true HB.out (fun q => by
              have s := (q.2.2 k hlt).1
              rw [HY.out] at s
              have := hr.2 ⟨q.1, s.1, s.2⟩
              rw [hq] at this; cases this))
            clear hr hq
            go_wp2_with (first | (go_at_call 59; refine (HH.out).mono ?_; rintro e w1 ⟨rfl, hbW⟩; have hcW := (bcell hbW.below).1; have hfW := (bcell hbW.below).2; (try have hzW : w.heap.size < w1.heap.size := by have hq := hbW.below.size; (try simp at hq); omega); (try have hyW : w.heap.size + 1 < w1.heap.size := by have hq := hbW.below.size; (try simp at hq); omega); (try have hxW : w.heap.size + 2 < w1.heap.size := by have hq := hbW.below.size; (try simp at hq); omega)))
            go_ret
            exact ⟨by rw [HF.out]; rfl, HG.out.trans (by repeat (first | exact Gr.refl _ | refine Gr.alloc ?_ _ | refine Gr.trans ?_ (by assumption) | refine Gr.drew ?_ | refine Gr.drewN ?_ _ | refine Gr.grow ?_ _ | refine Gr.setCell ?_ (by (try simp); (try omega)) _))⟩
          · rw [hq] at HH
            have hH := hr.1 hq
            have HHP := Lib.hid hH
            clear hr hq hH
            rcases Nat.eq_zero_or_pos k with k0 | kpos
            · have HN := Lib.hid (ris_snoc' HA.out (show stepR bs 0 ((xs.length : Int) - 1) k from ⟨by rw [HY.out]; exact HHP.out.2, fun q => by omega⟩))
              have d0 : decide ((0 : Int) < (k : Int)) = false := by simp; omega
              have d9 : decide (0 < k) = false := by simp; omega
              clear k0
              go_wp2_with (first | (go_at_call 59; refine (HH.out).mono ?_; rintro e w1 ⟨rfl, hbW⟩; have hcW := (bcell hbW.below).1; have hfW := (bcell hbW.below).2; (try have hzW : w.heap.size < w1.heap.size := by have hq := hbW.below.size; (try simp at hq); omega); (try have hyW : w.heap.size + 1 < w1.heap.size := by have hq := hbW.below.size; (try simp at hq); omega); (try have hxW : w.heap.size + 2 < w1.heap.size := by have hq := hbW.below.size; (try simp at hq); omega)))
              go_roundw
              case rel => exact ⟨⟨HG.out.trans (by repeat (first | exact Gr.refl _ | refine Gr.alloc ?_ _ | refine Gr.trans ?_ (by assumption) | refine Gr.drew ?_ | refine Gr.drewN ?_ _ | refine Gr.grow ?_ _ | refine Gr.setCell ?_ (by (try simp); (try omega)) _)), k + 1, by omega, by go_num, HN.out⟩, fun _ => HHP.out.1⟩
              case measure => simp [intOf]; omega
            · obtain ⟨m, hm⟩ : ∃ m, k = m + 1 := ⟨k - 1, by omega⟩
              obtain ⟨q, hq⟩ : ∃ q, bs.getD m 0 = q := ⟨_, rfl⟩
              have e2 := HC.out m (by omega)
              rw [hq] at e2
              have f2 := HG.out.keep2 e2
              have hgs : g < wr.heap.size := World.block_lt_of_cell? _ _ f2
              have HQ := Lib.hid hq
              have wi : (k : Int) - 1 = (m : Int) := by omega
              have ww : IntKind.i64.wrap ((k : Int) - 1) = (m : Int) := by rw [wi]; exact IntWalk.i64_in _ (by omega)
              have y0 : (0 : Int) ≤ (m : Int) := by omega
              have y1 : (m : Int) < (bs.length : Int) := by omega
              have d0 : decide ((0 : Int) < (k : Int)) = true := by simp; omega
              have d9 : decide (0 < k) = true := by simp; omega
              have HM := Lib.hid hm
              clear hq e2 hm
              by_cases hqy : y ≤ q
              · have HF := Lib.hid (not_true HB.out (fun p => by
                  have s := (p.2.2 k hlt).2 kpos
                  rw [HY.out, HM.out, Nat.add_sub_cancel, HQ.out] at s
                  omega))
                go_wp2_with (first | (go_at_call 59; refine (HH.out).mono ?_; rintro e w1 ⟨rfl, hbW⟩; have hcW := (bcell hbW.below).1; have hfW := (bcell hbW.below).2; (try have hzW : w.heap.size < w1.heap.size := by have hq := hbW.below.size; (try simp at hq); omega); (try have hyW : w.heap.size + 1 < w1.heap.size := by have hq := hbW.below.size; (try simp at hq); omega); (try have hxW : w.heap.size + 2 < w1.heap.size := by have hq := hbW.below.size; (try simp at hq); omega)))
                go_ret
                exact ⟨by rw [HF.out]; rfl, HG.out.trans (by repeat (first | exact Gr.refl _ | refine Gr.alloc ?_ _ | refine Gr.trans ?_ (by assumption) | refine Gr.drew ?_ | refine Gr.drewN ?_ _ | refine Gr.grow ?_ _ | refine Gr.setCell ?_ (by (try simp); (try omega)) _))⟩
              · have HN := Lib.hid (ris_snoc' HA.out (show stepR bs 0 ((xs.length : Int) - 1) k from ⟨by rw [HY.out]; exact HHP.out.2, fun _ => by rw [HY.out, HM.out, Nat.add_sub_cancel, HQ.out]; omega⟩))
                go_wp2_with (first | (go_at_call 59; refine (HH.out).mono ?_; rintro e w1 ⟨rfl, hbW⟩; have hcW := (bcell hbW.below).1; have hfW := (bcell hbW.below).2; (try have hzW : w.heap.size < w1.heap.size := by have hq := hbW.below.size; (try simp at hq); omega); (try have hyW : w.heap.size + 1 < w1.heap.size := by have hq := hbW.below.size; (try simp at hq); omega); (try have hxW : w.heap.size + 2 < w1.heap.size := by have hq := hbW.below.size; (try simp at hq); omega)))
                go_roundw
                case rel => exact ⟨⟨HG.out.trans (by repeat (first | exact Gr.refl _ | refine Gr.alloc ?_ _ | refine Gr.trans ?_ (by assumption) | refine Gr.drew ?_ | refine Gr.drewN ?_ _ | refine Gr.grow ?_ _ | refine Gr.setCell ?_ (by (try simp); (try omega)) _)), k + 1, by omega, by go_num, HN.out⟩, fun _ => HHP.out.1⟩
                case measure => simp [intOf]; omega
        · obtain rfl : k = bs.length := by omega
          have HF := Lib.hid (show b = true from HB.out.2 ⟨HK.out (fun q => by injection q with _ q2; omega), by omega, HA.out⟩)
          clear gr hall hgood
          go_wp2
          go_ret
          exact ⟨by rw [HF.out]; rfl, HG.out⟩
end Go.Proofs
