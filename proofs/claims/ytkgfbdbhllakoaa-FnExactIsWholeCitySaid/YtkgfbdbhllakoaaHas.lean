/-
  A list of numbers has a number: the model's little search (as in PoA, without its other words).
-/
import Derived.Test.YtkgfbdbhllakoaaInts3
namespace Go.Proofs
open Go.RowKit
set_option linter.unusedVariables false
set_option linter.unusedSimpArgs false
def hasI (xs : List Int) (n : Int) : Bool := decide (n ∈ xs)
def HasRel (xs : List Int) (n : Int) (w : World) (i : Value) (wr : World) : Prop := Gr w wr ∧ ∃ k : Nat, k ≤ xs.length ∧ i = .int .i64 k ∧ ∀ j, j < k → xs.getD j 0 ≠ n
theorem hasI_t {xs : List Int} {n : Int} {k : Nat} (hk : k < xs.length) (h : xs.getD k 0 = n) : hasI xs n = true := by
  unfold hasI
  rw [decide_eq_true_iff, ← h]
  simp [List.getD, hk]
theorem hasI_f {xs : List Int} {n : Int} (h : ∀ j, j < xs.length → xs.getD j 0 ≠ n) : hasI xs n = false := by
  unfold hasI
  rw [decide_eq_false_iff_not]
  intro hm
  obtain ⟨j, hj, e⟩ := List.getElem_of_mem hm
  exact h j hj (by simpa [List.getD, hj] using e)
set_option maxRecDepth 100000 in
set_option maxHeartbeats 1600000 in
theorem Try.l1Has (w : World) (B : Nat) (v : Value) (xs : List Int) (n : Int) (hl : xs.length ≤ 1048576) (h : OwnI w B v xs) :
    Calls Try.prog 60 #[v, .int .i64 n] w fun e w' => e = .returned (.bool (hasI xs n)) ∧ Gr w w' := by
  rcases h.view with ⟨rfl, A, c, rfl⟩ | ⟨hpos, g, c, rfl, _, _, _, hc, _⟩
  · have e : hasI [] n = false := rfl
    rw [e]
    clear h e
    go_enter Try.func60, Try.ntmps60
    go_wp2
    refine wp_loop_rounds 1 ?_
    rw [rounds_succ]
    go_wp2
    go_ret
    exact ⟨rfl, by repeat (first | exact Gr.refl _ | refine Gr.alloc ?_ _ | refine Gr.trans ?_ (by assumption) | refine Gr.drew ?_ | refine Gr.drewN ?_ _ | refine Gr.grow ?_ _ | refine Gr.setCell ?_ (by (try simp); (try omega)) _)⟩
  · have HC := Lib.hid hc
    clear h hc
    go_enter Try.func60, Try.ntmps60
    go_wp2
    go_loopw [6, 9] (fun _ i wr => HasRel xs n w i wr) (fun _ i _ => (xs.length - intOf i).toNat)
    case atStart => exact ⟨Gr.refl _, 0, Nat.zero_le _, rfl, fun j hj => absurd hj (Nat.not_lt_zero _)⟩
    case round =>
      obtain ⟨gr, k, hk, rfl, hall⟩ := hrel
      by_cases hlt : k < xs.length
      · have e1 := gr.keep2 (HC.out k hlt)
        obtain ⟨y, hy⟩ : ∃ y, xs.getD k 0 = y := ⟨_, rfl⟩
        rw [hy] at e1
        have z0 : (0 : Int) ≤ (k : Int) := by omega
        have z1 : (k : Int) < (xs.length : Int) := by omega
        have HA := Lib.hid hall
        have HG := Lib.hid gr
        have HY := Lib.hid hy
        clear hall gr hy
        by_cases hn : y = n
        · have HR := Lib.hid (hasI_t hlt (HY.out.trans hn))
          have d1 : ((y : Int) == n) = true := by simp [hn]
          go_wp2
          go_ret
          exact ⟨by rw [HR.out]; rfl, HG.out⟩
        · have d1 : ((y : Int) == n) = false := by simp [hn]
          have HN := Lib.hid (show ∀ j, j < k + 1 → xs.getD j 0 ≠ n from fun j hj => by
            rcases Nat.lt_or_eq_of_le (Nat.le_of_lt_succ hj) with c | c
            · exact HA.out j c
            · rw [c, HY.out]; exact hn)
          go_wp2
          go_roundw
          case rel => exact ⟨HG.out, k + 1, by omega, by go_num, HN.out⟩
          case measure => simp [intOf]; omega
      · obtain rfl : k = xs.length := by omega
        have HF := Lib.hid (hasI_f hall)
        have HG := Lib.hid gr
        clear gr hall
        go_wp2
        go_ret
        exact ⟨by rw [HF.out]; rfl, HG.out⟩
end Go.Proofs
