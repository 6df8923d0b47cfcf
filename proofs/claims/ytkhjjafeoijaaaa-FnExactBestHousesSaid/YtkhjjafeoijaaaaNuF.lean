/-
  The model's helpers for lists of ints: are all in a range (spec.l1All), a copy (spec.l1Own).
-/
import Derived.Test.YtkhjjafeoijaaaaNuI
import Derived.Test.YtkhjjafeoijaaaaArgs
namespace Go.Proofs
open Go.RowKit
set_option linter.unusedVariables false
set_option linter.unusedSimpArgs false
def AllIn (xs : List Int) (lo hi : Int) : Prop := ∀ j, j < xs.length → inn (xs.getD j 0) lo hi = true
def LRelA (xs : List Int) (lo hi : Int) (w : World) (i : Value) (wr : World) : Prop := Gr w wr ∧ ∃ k : Nat, k ≤ xs.length ∧ i = .int .i64 k ∧ ∀ j, j < k → inn (xs.getD j 0) lo hi = true
set_option maxHeartbeats 400000 in
theorem Try.l1All (w : World) (B : Nat) (v : Value) (xs : List Int) (lo hi : Int) (b : Bool) (hb : b = true ↔ AllIn xs lo hi) (hl : xs.length ≤ 1048576) (h : OwnI w B v xs) :
    Calls Try.prog 78 #[v, .int .i64 lo, .int .i64 hi] w fun e w' => e = .returned (.bool b) ∧ Gr w w' := by
  rcases h.view with ⟨rfl, A, c, rfl⟩ | ⟨hpos, g, c, rfl, _, _, _, hc, _⟩
  · obtain rfl : b = true := hb.2 (fun j hj => by simp at hj)
    clear h hb
    go_enter Try.func78, Try.ntmps78
    go_wp2
    refine wp_loop_rounds 1 ?_
    rw [rounds_succ]
    go_wp2
    go_ret
    exact ⟨rfl, by repeat (first | exact Gr.refl _ | refine Gr.alloc ?_ _ | refine Gr.trans ?_ (by assumption) | refine Gr.drew ?_ | refine Gr.drewN ?_ _ | refine Gr.grow ?_ _ | refine Gr.setCell ?_ (by (try simp); (try omega)) _)⟩
  · have HC := Lib.hid hc
    have HB := Lib.hid hb
    clear h hc hb
    go_enter Try.func78, Try.ntmps78
    go_wp2
    go_loopw [11] (fun i wr => LRelA xs lo hi w i wr) (fun i _ => (xs.length - intOf i).toNat)
    case atStart => exact ⟨Gr.refl _, 0, Nat.zero_le _, rfl, fun j hj => absurd hj (Nat.not_lt_zero _)⟩
    case round =>
      obtain ⟨gr, k, hk, rfl, hall⟩ := hrel
      by_cases hlt : k < xs.length
      · have e1 := gr.keep2 (HC.out k hlt)
        have z0 : (0 : Int) ≤ (k : Int) := by omega
        have z1 : (k : Int) < (xs.length : Int) := by omega
        have HA := Lib.hid hall
        have HG := Lib.hid gr
        clear hall gr
        cases hx : inn (xs.getD k 0) lo hi
        · have HF := Lib.hid (show b = false by
            cases hbb : b
            · rfl
            · have := HB.out.1 hbb k hlt; rw [hx] at this; cases this)
          have HX := Lib.hid hx
          clear hx
          generalize xs.getD k 0 = y at e1 HX
          go_wp2_with (first | (go_at_call 67; refine (Try.l1In _ _ _ _ HX.out _).mono ?_; rintro e w1 ⟨rfl, rfl⟩))
          go_ret
          exact ⟨by rw [HF.out]; rfl, HG.out⟩
        · have HN := Lib.hid (show ∀ j, j < k + 1 → inn (xs.getD j 0) lo hi = true from fun j hj => by
            rcases Nat.lt_or_eq_of_le (Nat.le_of_lt_succ hj) with c | c
            · exact HA.out j c
            · rw [c]; exact hx)
          have HX := Lib.hid hx
          clear hx
          generalize xs.getD k 0 = y at e1 HX
          go_wp2_with (first | (go_at_call 67; refine (Try.l1In _ _ _ _ HX.out _).mono ?_; rintro e w1 ⟨rfl, rfl⟩))
          go_roundw
          case rel => exact ⟨HG.out, k + 1, by omega, by go_num, HN.out⟩
          case measure => simp [intOf]; omega
      · obtain rfl : k = xs.length := by omega
        have HF := Lib.hid (show b = true from HB.out.2 hall)
        have HG := Lib.hid gr
        clear gr hall
        go_wp2
        go_ret
        exact ⟨by rw [HF.out]; rfl, HG.out⟩
end Go.Proofs
