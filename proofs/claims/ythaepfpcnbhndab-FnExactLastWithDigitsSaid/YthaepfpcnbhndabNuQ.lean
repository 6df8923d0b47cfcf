/-
  Contracts of chapter 1: the last number with so many digits.
-/
import Derived.Test.YthaepfpcnbhndabNuL
import Derived.Deep.LoopGhost
import Derived.Sort.AtCall
namespace Go.Proofs
open Go.RowKit Nu
set_option linter.unusedVariables false
set_option linter.unusedSimpArgs false
/-- l is the greatest number whose plates have at most D digits -/
def Last (D l : Int) : Prop := 0 ≤ l ∧ l < 1000000 ∧ dsum l ≤ D ∧ D < dsum (l + 1)
theorem last_ex (D : Int) (h0 : 0 ≤ D) (h1 : D ≤ 1000000) : ∃ l, Last D l := by
  have key : ∀ k : Nat, D < dsum k → ∃ l, 0 ≤ l ∧ l < (k : Int) ∧ dsum l ≤ D ∧ D < dsum (l + 1) := by
    intro k
    induction k with
    | zero => intro h; simp [dsum] at h; omega
    | succ k ih =>
      intro h
      by_cases c : D < dsum k
      · obtain ⟨l, a, b, d, e⟩ := ih c
        exact ⟨l, a, by push_cast; omega, d, e⟩
      · exact ⟨k, by omega, by push_cast; omega, by omega, by push_cast at h; exact h⟩
  obtain ⟨l, a, b, d, e⟩ := key 1000000 (by unfold dsum; simp; omega)
  exact ⟨l, a, by simpa using b, d, e⟩
def LRel (D l : Int) (w : World) (d n : Value) (wr : World) : Prop := Gr w wr ∧ ∃ k : Int, 0 ≤ k ∧ k ≤ l ∧ n = .int .i64 k ∧ d = .int .i64 (D - dsum k)
set_option maxHeartbeats 400000 in
theorem Try.sLastNo (D : Int) (hm : inn D 0 1000000 = false) (w : World) :
    Calls Try.prog 12 #[.int .i64 D] w fun e w' => e = .returned (.tuple #[.int .i64 0, .bool false]) ∧ Gr w w' := by
  have H := Lib.hid hm
  clear hm
  go_enter Try.func12, Try.ntmps12
  go_wp2_with (first | (go_at_call 30; refine (Try.l1In _ _ _ _ H.out _).mono ?_; rintro e w1 ⟨rfl, rfl⟩))
  go_ret2
  exact ⟨rfl, by repeat (first | exact Gr.refl _ | refine Gr.alloc ?_ _ | refine Gr.trans ?_ (by assumption) | refine Gr.drew ?_ | refine Gr.drewN ?_ _ | refine Gr.grow ?_ _)⟩
set_option maxHeartbeats 400000 in
theorem Try.iLastNo (D : Int) (hm : inn D 0 1000000 = false) (w : World) :
    Calls Try.prog 13 #[.int .i64 D] w fun e w' => e = .returned (.tuple #[.int .i64 0, .bool false]) ∧ Gr w w' := by
  have H := Lib.hid hm
  clear hm
  go_enter Try.func13, Try.ntmps13
  go_wp2_with (first | (go_at_call 32; refine (Try.within _ _ _ _ H.out _).mono ?_; rintro e w1 ⟨rfl, rfl⟩))
  go_ret2
  exact ⟨rfl, by repeat (first | exact Gr.refl _ | refine Gr.alloc ?_ _ | refine Gr.trans ?_ (by assumption) | refine Gr.drew ?_ | refine Gr.drewN ?_ _ | refine Gr.grow ?_ _)⟩
set_option maxHeartbeats 400000 in
theorem Try.sLast (D l : Int) (hm : inn D 0 1000000 = true) (hl : Last D l) (w : World) :
    Calls Try.prog 12 #[.int .i64 D] w fun e w' => e = .returned (.tuple #[.int .i64 l, .bool true]) ∧ Gr w w' := by
  obtain ⟨D0, D1⟩ := inn_e hm
  obtain ⟨l0, l1, l2, l3⟩ := hl
  have H := Lib.hid hm
  clear hm
  go_enter Try.func12, Try.ntmps12
  go_wp2_with (first | (go_at_call 30; refine (Try.l1In _ _ _ _ H.out _).mono ?_; rintro e w1 ⟨rfl, rfl⟩))
  go_loopw [0, 4] (fun d n wr => LRel D l w d n wr) (fun _ n _ => (l - intOf n).toNat)
  case atStart => exact ⟨Gr.refl _, 0, by omega, l0, rfl, by rw [dsum_zero, Int.sub_zero]⟩
  case round =>
    obtain ⟨gr, k, k1, k2, rfl, rfl⟩ := hrel
    obtain ⟨q1, q2, q3⟩ := dsum_bd k (by omega) (by omega)
    obtain ⟨p1, p2⟩ := dl_bd (k + 1) (by omega)
    have hs := dsum_succ k
    by_cases hk : k < l
    · have hm := dsum_mono (k + 1) l (by omega) (by omega)
      have hle : dl (k + 1) ≤ D - dsum k := by omega
      have HS := Lib.hid hs
      clear hs
      go_wp2_with (first | (go_at_call 34; refine (Try.nuLong _ (by omega) (by omega) _).mono ?_; rintro e w1 ⟨rfl, hbW⟩))
      go_roundw
      case rel => exact ⟨gr.trans ((by assumption : Gr wr _).trans (by assumption)), k + 1, by omega, by omega, rfl, by rw [HS.out]; congr 1; omega⟩
      case measure => simp [intOf]; omega
    · obtain rfl : k = l := by omega
      have hle : ¬ dl (k + 1) ≤ D - dsum k := by omega
      clear hs
      go_wp2_with (first | (go_at_call 34; refine (Try.nuLong _ (by omega) (by omega) _).mono ?_; rintro e w1 ⟨rfl, hbW⟩))
      go_ret2
      exact ⟨rfl, gr.trans hbW⟩
def BRel (n l : Int) (w : World) (a b : Value) (wr : World) : Prop := Gr w wr ∧ ∃ lo hi : Int, 0 ≤ lo ∧ lo ≤ l ∧ l ≤ hi ∧ hi ≤ n ∧ a = .int .i64 lo ∧ b = .int .i64 hi
set_option maxHeartbeats 1000000 in
/-- sort.Search with a closure that says 'l ≤ i' at i: l. -/
theorem Try.search (g : Nat) (cb : Array Value) (n l : Int) (w : World) (n1 : n ≤ 1000000000) (l0 : 0 ≤ l) (ln : l ≤ n)
    (eg : ∀ args w, (callFunc g args).run Try.prog w = .ok (.enter g args) w)
    (hf : ∀ (W : World) (i : Int), Gr w W → 0 ≤ i → i < n → Calls Try.prog g (#[.int .i64 i] ++ cb) W fun e w' => e = .returned (.bool (decide (l ≤ i))) ∧ Gr W w') :
    Calls Try.prog 35 #[.int .i64 n, .func (.func g) #[] cb] w fun e w' => e = .returned (.int .i64 l) ∧ Gr w w' := by
  have HF := Lib.hid hf
  clear hf
  go_enter Try.func35, Try.ntmps35
  go_wp2
  go_loopw [5, 6] (fun a b wr => BRel n l w a b wr) (fun a b _ => (intOf b - intOf a).toNat)
  case atStart => exact ⟨Gr.refl _, 0, n, by omega, l0, ln, by omega, rfl, rfl⟩
  case round =>
    obtain ⟨gr, lo, hi, a1, a2, a3, a4, rfl, rfl⟩ := hrel
    by_cases hlt : lo < hi
    · have hc := HF.out wr ((lo + hi) / 2) gr (by omega) (by omega)
      by_cases hl : l ≤ (lo + hi) / 2
      · rw [decide_eq_true hl] at hc
        have HC := Lib.hid hc
        clear hc
        go_wp2_with (go_at_fn g; refine HC.out.mono ?_; rintro e w2 ⟨rfl, g2⟩)
        go_roundw
        case rel => exact ⟨gr.trans g2, lo, (lo + hi) / 2, by omega, by omega, by omega, by omega, rfl, rfl⟩
        case measure => simp [intOf]; omega
      · rw [decide_eq_false hl] at hc
        have HC := Lib.hid hc
        clear hc
        go_wp2_with (go_at_fn g; refine HC.out.mono ?_; rintro e w2 ⟨rfl, g2⟩)
        go_roundw
        case rel => exact ⟨gr.trans g2, (lo + hi) / 2 + 1, hi, by omega, by omega, by omega, by omega, rfl, rfl⟩
        case measure => simp [intOf]; omega
    · obtain rfl : lo = l := by omega
      go_wp2
      go_ret
      exact ⟨rfl, gr⟩
set_option maxHeartbeats 400000 in
theorem Try.closureL (D l i : Int) (b : Nat) (w : World) (D1 : D ≤ 1000000) (hl : Last D l) (i0 : 0 ≤ i) (i1 : i < 1000000) (hc : w.cell? ⟨b, 0, none⟩ = some (.int .i64 D)) :
    Calls Try.prog 36 (#[.int .i64 i] ++ #[.pointer (some ⟨b, 0, none⟩)]) w fun e w' => e = .returned (.bool (decide (l ≤ i))) ∧ Gr w w' := by
  obtain ⟨l0, l1, l2, l3⟩ := hl
  have key : decide (l ≤ i) = decide (D < dsum (i + 1)) := by
    refine decide_eq_decide.2 ⟨fun h => ?_, fun h => ?_⟩
    · have := dsum_mono (l + 1) (i + 1) (by omega) (by omega); omega
    · rcases Int.lt_or_le i l with c | c
      · have := dsum_mono (i + 1) l (by omega) (by omega); omega
      · exact c
  rw [key]
  clear key
  have mixed : Try.prog.follows .mixedOrders = true := by kernel_rfl
  have hcg := fun n os => cell_grown (World.block_lt_of_cell? _ _ hc) hc n os
  have e1 : IntKind.i64.wrap (i + 1) = i + 1 := wr64 _ (by omega) (by omega)
  go_enter Try.func36, Try.ntmps36
  go_wp2
  (refine wp_region_quiet_grown mixed (by kernel_rfl) ?_; (repeat (first | go_big_quiet_step ((first | (go_at_call 37; exact Calls.grown_of (same_gr (Try.digitsUpTo _ (by omega) (by omega) _))))) | quiet_step ((first | (go_at_call 37; exact Calls.grown_of (same_gr (Try.digitsUpTo _ (by omega) (by omega) _))))))); refine wpQuiet_nil ?_; intro _ hw'; obtain ⟨⟨nq, osq⟩, hw''⟩ := hw'; subst hw'')
  go_wp2
  go_ret
  exact ⟨rfl, by repeat (first | exact Gr.refl _ | refine Gr.alloc ?_ _ | refine Gr.trans ?_ (by assumption) | refine Gr.drew ?_ | refine Gr.drewN ?_ _ | refine Gr.grow ?_ _)⟩
set_option maxHeartbeats 400000 in
theorem Try.iLast (D l : Int) (hm : inn D 0 1000000 = true) (hl : Last D l) (w : World) :
    Calls Try.prog 13 #[.int .i64 D] w fun e w' => e = .returned (.tuple #[.int .i64 l, .bool true]) ∧ Gr w w' := by
  obtain ⟨D0, D1⟩ := inn_e hm
  have H := Lib.hid hm
  have HL := Lib.hid hl
  have hl0 := hl.1
  have hl1 := hl.2.1
  clear hm hl
  have eg : ∀ args w, (callFunc 36 args).run Try.prog w = .ok (.enter 36 args) w := enters_of Try.func36 (by kernel_rfl) rfl
  have hc : (w.alloc (.cells #[.int .i64 D] 3)).cell? ⟨w.heap.size, 0, none⟩ = some (.int .i64 D) := by simp [go_sem]
  have hS := Try.search 36 #[.pointer (some ⟨w.heap.size, 0, none⟩)] 1000000 l (w.alloc (.cells #[.int .i64 D] 3)) (by omega) hl0 (by omega) eg
    (fun W i g i0 i1 => Try.closureL D l i w.heap.size W D1 HL.out i0 i1 (((bcell g.below).1 _ _ (by simp)).trans hc))
  have HS := Lib.hid hS
  clear hS hc eg
  go_enter Try.func13, Try.ntmps13
  go_wp2_with (first | (go_at_call 32; refine (Try.within _ _ _ _ H.out _).mono ?_; rintro e w1 ⟨rfl, rfl⟩) | (go_at_call 35; refine HS.out.mono ?_; rintro e w1 ⟨rfl, g1⟩))
  go_ret2
  exact ⟨rfl, by repeat (first | exact Gr.refl _ | refine Gr.alloc ?_ _ | refine Gr.trans ?_ (by assumption) | refine Gr.drew ?_ | refine Gr.drewN ?_ _ | refine Gr.grow ?_ _)⟩
end Go.Proofs
