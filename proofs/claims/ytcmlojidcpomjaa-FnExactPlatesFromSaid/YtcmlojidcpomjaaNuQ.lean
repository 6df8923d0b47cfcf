/-
  Contracts of chapter 1: the last number with so many digits.
-/
import Derived.Test.YtcmlojidcpomjaaNuL
import Derived.Deep.LoopGhost
import Derived.Sort.AtCall
namespace Go.Proofs
open Go.RowKit Nu
set_option linter.unusedVariables false
set_option linter.unusedSimpArgs false
/-- l is the greatest number whose plates have at most D digits -/
def Last (D l : Int) : Prop := 0 ≤ l ∧ l < 1000000 ∧ dsum l ≤ D ∧ D < dsum (l + 1)
theorem last_ex (D : Int) (h0 : 0 ≤ D) (h1 : D ≤ 1000000) : ∃ l, Last D l := by
  have key : ∀ k : Nat, D < dsum k → ∃ l, 0 ≤ l ∧ l < (k : Int) ∧ dsum l ≤ D ∧ D < dsum (l + 1) := by
    intro k
    induction k with
    | zero => intro h; simp [dsum] at h; omega
    | succ k ih =>
      intro h
      by_cases c : D < dsum k
      · obtain ⟨l, a, b, d, e⟩ := ih c
        exact ⟨l, a, by push_cast; omega, d, e⟩
      · exact ⟨k, by omega, by push_cast; omega, by omega, by push_cast at h; exact h⟩
  obtain ⟨l, a, b, d, e⟩ := key 1000000 (by unfold dsum; simp; omega)
  exact ⟨l, a, by simpa using b, d, e⟩
def LRel (D l : Int) (w : World) (d n : Value) (wr : World) : Prop := Gr w wr ∧ ∃ k : Int, 0 ≤ k ∧ k ≤ l ∧ n = .int .i64 k ∧ d = .int .i64 (D - dsum k)
def BRel (n l : Int) (w : World) (a b : Value) (wr : World) : Prop := Gr w wr ∧ ∃ lo hi : Int, 0 ≤ lo ∧ lo ≤ l ∧ l ≤ hi ∧ hi ≤ n ∧ a = .int .i64 lo ∧ b = .int .i64 hi
set_option maxHeartbeats 1000000 in
/-- sort.Search with a closure that says 'l ≤ i' at i: l. -/
theorem Try.search (g : Nat) (cb : Array Value) (n l : Int) (w : World) (n1 : n ≤ 1000000000) (l0 : 0 ≤ l) (ln : l ≤ n)
    (eg : ∀ args w, (callFunc g args).run Try.prog w = .ok (.enter g args) w)
    (hf : ∀ (W : World) (i : Int), Gr w W → 0 ≤ i → i < n → Calls Try.prog g (#[.int .i64 i] ++ cb) W fun e w' => e = .returned (.bool (decide (l ≤ i))) ∧ Gr W w') :
    Calls Try.prog 50 #[.int .i64 n, .func (.func g) #[] cb] w fun e w' => e = .returned (.int .i64 l) ∧ Gr w w' := by
  have HF := Lib.hid hf
  clear hf
  go_enter Try.func50, Try.ntmps50
  go_wp2
  go_loopw [5, 6] (fun a b wr => BRel n l w a b wr) (fun a b _ => (intOf b - intOf a).toNat)
  case atStart => exact ⟨Gr.refl _, 0, n, by omega, l0, ln, by omega, rfl, rfl⟩
  case round =>
    obtain ⟨gr, lo, hi, a1, a2, a3, a4, rfl, rfl⟩ := hrel
    by_cases hlt : lo < hi
    · have hc := HF.out wr ((lo + hi) / 2) gr (by omega) (by omega)
      by_cases hl : l ≤ (lo + hi) / 2
      · rw [decide_eq_true hl] at hc
        have HC := Lib.hid hc
        clear hc
        go_wp2_with (go_at_fn g; refine HC.out.mono ?_; rintro e w2 ⟨rfl, g2⟩)
        go_roundw
        case rel => exact ⟨gr.trans g2, lo, (lo + hi) / 2, by omega, by omega, by omega, by omega, rfl, rfl⟩
        case measure => simp [intOf]; omega
      · rw [decide_eq_false hl] at hc
        have HC := Lib.hid hc
        clear hc
        go_wp2_with (go_at_fn g; refine HC.out.mono ?_; rintro e w2 ⟨rfl, g2⟩)
        go_roundw
        case rel => exact ⟨gr.trans g2, (lo + hi) / 2 + 1, hi, by omega, by omega, by omega, by omega, rfl, rfl⟩
        case measure => simp [intOf]; omega
    · obtain rfl : lo = l := by omega
      go_wp2
      go_ret
      exact ⟨rfl, gr⟩
end Go.Proofs
