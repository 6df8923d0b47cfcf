/-
  Lists of numbers that rise (as in PoA, over Inn).
-/
import Derived.Test.YtkhjjafeoijaaaaInn
import Derived.Test.YtkhjjafeoijaaaaInts3
import Derived.Test.YtkhjjafeoijaaaaQTail
import Derived.IntWalk
namespace Go.Proofs
open Go.RowKit
set_option linter.unusedVariables false
set_option linter.unusedSimpArgs false
def stepR (xs : List Int) (lo hi : Int) (j : Nat) : Prop := (lo ≤ xs.getD j 0 ∧ xs.getD j 0 ≤ hi) ∧ (0 < j → xs.getD (j - 1) 0 < xs.getD j 0)
def RisI (xs : List Int) (lo hi : Int) : Prop := ∀ j, j < xs.length → stepR xs lo hi j
theorem ris_snoc {xs : List Int} {lo hi : Int} {k : Nat} (h : ∀ j, j < k → stepR xs lo hi j) (s : stepR xs lo hi k) : ∀ j, j < k + 1 → stepR xs lo hi j := fun j hj => by
  rcases Nat.lt_or_eq_of_le (Nat.le_of_lt_succ hj) with c | c
  · exact h j c
  · rw [c]; exact s
theorem ris_false {xs : List Int} {lo hi : Int} {b : Bool} {k : Nat} (hb : b = true ↔ RisI xs lo hi) (hk : k < xs.length) (h : ¬ stepR xs lo hi k) : b = false := by
  cases q : b
  · rfl
  · exact absurd (hb.1 q k hk) h
def RRel (xs : List Int) (lo hi : Int) (w : World) (i : Value) (wr : World) : Prop := Gr w wr ∧ ∃ k : Nat, k ≤ xs.length ∧ i = .int .i64 k ∧ ∀ j, j < k → stepR xs lo hi j
set_option maxRecDepth 100000 in
set_option maxHeartbeats 1600000 in
theorem Try.l1Rising (w : World) (B : Nat) (v : Value) (xs : List Int) (lo hi : Int) (b : Bool) (hb : b = true ↔ RisI xs lo hi) (hl : xs.length ≤ 1048576) (h : OwnI w B v xs) :
    Calls Try.prog 68 #[v, .int .i64 lo, .int .i64 hi] w fun e w' => e = .returned (.bool b) ∧ Gr w w' := by
  have mixed : Try.prog.follows .mixedOrders = true := by kernel_rfl
  rcases h.view with ⟨rfl, A, c, rfl⟩ | ⟨hpos, g, c, rfl, _, _, _, hc, _⟩
  · obtain rfl : b = true := hb.2 (fun j hj => by simp at hj)
    clear h hb
    go_enter Try.func68, Try.ntmps68
    go_wp2
    refine wp_loop_rounds 1 ?_
    rw [rounds_succ]
    go_wp2
    go_ret
    exact ⟨rfl, by repeat (first | exact Gr.refl _ | refine Gr.alloc ?_ _ | refine Gr.trans ?_ (by assumption) | refine Gr.drew ?_ | refine Gr.drewN ?_ _ | refine Gr.grow ?_ _ | refine Gr.setCell ?_ (by (try simp); (try omega)) _)⟩
  · have HC := Lib.hid hc
    have HB := Lib.hid hb
    clear h hc hb
    go_enter Try.func68, Try.ntmps68
    go_wp2
    go_loopw [7, 8, 11] (fun _ _ i wr => RRel xs lo hi w i wr) (fun _ _ i _ => (xs.length - intOf i).toNat)
    case atStart => exact ⟨Gr.refl _, 0, Nat.zero_le _, rfl, fun j hj => absurd hj (Nat.not_lt_zero _)⟩
    case round =>
      obtain ⟨gr, k, hk, rfl, hall⟩ := hrel
      by_cases hlt : k < xs.length
      · have e1 := gr.keep2 (HC.out k hlt)
        obtain ⟨y, hy⟩ : ∃ y, xs.getD k 0 = y := ⟨_, rfl⟩
        rw [hy] at e1
        have z0 : (0 : Int) ≤ (k : Int) := by omega
        have z1 : (k : Int) < (xs.length : Int) := by omega
        have HA := Lib.hid hall
        have HG := Lib.hid gr
        have HY := Lib.hid hy
        clear hall gr hy
        cases hin : inn y lo hi
        · have HF := Lib.hid (ris_false HB.out hlt (fun q => by have := q.1; rw [HY.out] at this; have h2 := of_decide_eq_false hin; exact h2 this))
          have HI := Lib.hid hin
          clear hin
          go_wp2_with (first | (go_at_call 67; refine (Try.l1In _ _ _ _ HI.out _).mono ?_; rintro e w1 ⟨rfl, rfl⟩))
          go_ret
          exact ⟨by rw [HF.out]; rfl, HG.out.trans (by repeat (first | exact Gr.refl _ | refine Gr.alloc ?_ _ | refine Gr.trans ?_ (by assumption) | refine Gr.drew ?_ | refine Gr.drewN ?_ _ | refine Gr.grow ?_ _ | refine Gr.setCell ?_ (by (try simp); (try omega)) _))⟩
        · have HI := Lib.hid hin
          have hyb := of_decide_eq_true hin
          clear hin
          rcases Nat.eq_zero_or_pos k with k0 | kpos
          · have HN := Lib.hid (ris_snoc HA.out (show stepR xs lo hi k from ⟨by rw [HY.out]; exact hyb, fun q => by omega⟩))
            have d0 : decide ((0 : Int) < (k : Int)) = false := by simp; omega
            have d9 : decide (0 < k) = false := by simp; omega
            clear k0 hyb
            go_wp2_with (first | (go_at_call 67; refine (Try.l1In _ _ _ _ HI.out _).mono ?_; rintro e w1 ⟨rfl, rfl⟩))
            go_roundw
            case rel => exact ⟨HG.out.trans (by repeat (first | exact Gr.refl _ | refine Gr.alloc ?_ _ | refine Gr.trans ?_ (by assumption) | refine Gr.drew ?_ | refine Gr.drewN ?_ _ | refine Gr.grow ?_ _ | refine Gr.setCell ?_ (by (try simp); (try omega)) _)), k + 1, by omega, by go_num, HN.out⟩
            case measure => simp [intOf]; omega
          · obtain ⟨m, hm⟩ : ∃ m, k = m + 1 := ⟨k - 1, by omega⟩
            obtain ⟨q, hq⟩ : ∃ q, xs.getD m 0 = q := ⟨_, rfl⟩
            have e2 := HC.out m (by omega)
            rw [hq] at e2
            have f2 := HG.out.keep2 e2
            have wi : IntKind.i64.wrap ((k : Int) - 1) = (m : Int) := by rw [show (k : Int) - 1 = (m : Int) by omega]; exact IntWalk.i64_in _ (by omega)
            have wi2 : wrap64 ((k : Int) - 1) = (m : Int) := by rw [show (k : Int) - 1 = (m : Int) by omega]; unfold wrap64; omega
            have z2 : (0 : Int) ≤ (m : Int) := by omega
            have z3 : (m : Int) < (xs.length : Int) := by omega
            have d0 : decide ((0 : Int) < (k : Int)) = true := by simp; omega
            have d9 : decide (0 < k) = true := by simp; omega
            have HQ := Lib.hid hq
            have HM := Lib.hid hm
            clear e2 hq hm
            by_cases hr : q < y
            · have HN := Lib.hid (ris_snoc HA.out (show stepR xs lo hi k from ⟨by rw [HY.out]; exact hyb, fun _ => by rw [show k - 1 = m by have := HM.out; omega, HY.out, HQ.out]; exact hr⟩))
              have d1 : decide (y ≤ q) = false := by simp; omega
              clear hr hyb
              go_wp2_with (first | (go_at_call 67; refine (Try.l1In _ _ _ _ HI.out _).mono ?_; rintro e w1 ⟨rfl, rfl⟩))
              go_roundw
              case rel => exact ⟨HG.out.trans (by repeat (first | exact Gr.refl _ | refine Gr.alloc ?_ _ | refine Gr.trans ?_ (by assumption) | refine Gr.drew ?_ | refine Gr.drewN ?_ _ | refine Gr.grow ?_ _ | refine Gr.setCell ?_ (by (try simp); (try omega)) _)), k + 1, by omega, by go_num, HN.out⟩
              case measure => simp [intOf]; omega
            · have HF := Lib.hid (ris_false HB.out hlt (fun s => hr (by have := s.2 kpos; rw [show k - 1 = m by have := HM.out; omega, HY.out, HQ.out] at this; exact this)))
              have d1 : decide (y ≤ q) = true := by simp; omega
              clear hr hyb
              go_wp2_with (first | (go_at_call 67; refine (Try.l1In _ _ _ _ HI.out _).mono ?_; rintro e w1 ⟨rfl, rfl⟩))
              go_ret
              exact ⟨by rw [HF.out]; rfl, HG.out.trans (by repeat (first | exact Gr.refl _ | refine Gr.alloc ?_ _ | refine Gr.trans ?_ (by assumption) | refine Gr.drew ?_ | refine Gr.drewN ?_ _ | refine Gr.grow ?_ _ | refine Gr.setCell ?_ (by (try simp); (try omega)) _))⟩
      · obtain rfl : k = xs.length := by omega
        have HF := Lib.hid (show b = true from HB.out.2 hall)
        have HG := Lib.hid gr
        clear gr hall
        go_wp2
        go_ret
        exact ⟨by rw [HF.out]; rfl, HG.out⟩
end Go.Proofs
