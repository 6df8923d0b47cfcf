/-
  Contracts of chapter 1: SideSum.
-/
import Derived.Test.YthaepfpcnbhndaaNuO
namespace Go.Proofs
open Go.RowKit
set_option linter.unusedVariables false
set_option linter.unusedSimpArgs false
theorem sum_take (xs : List Int) (i : Nat) (h : i < xs.length) : (xs.take (i + 1)).sum = (xs.take i).sum + xs.getD i 0 := by
  rw [List.take_succ_eq_append_getElem h, List.sum_append]
  simp [List.getD, h]
theorem sum_bd (xs : List Int) (hx : ∀ j, j < xs.length → 0 ≤ xs.getD j 0 ∧ xs.getD j 0 ≤ 3000) (i : Nat) (h : i ≤ xs.length) : 0 ≤ (xs.take i).sum ∧ (xs.take i).sum ≤ 3000 * i := by
  induction i with
  | zero => simp
  | succ i ih =>
    have a := ih (by omega)
    have b := hx i (by omega)
    rw [sum_take xs i (by omega)]
    omega
theorem snL_bd (k p sd : Int) : ∀ j, j < (snL k p sd).length → 0 ≤ (snL k p sd).getD j 0 ∧ (snL k p sd).getD j 0 ≤ 3000 := by
  intro j hj
  unfold snL at hj ⊢
  split
  · rename_i h
    rw [if_pos h] at hj
    have hg : gd k p = true := by simp [snB] at h; exact h.1
    have hi : inn sd 0 1 = true := by simp [snB] at h; exact h.2
    obtain ⟨h0, h1, h2, h3⟩ := gd_t hg
    obtain ⟨s0, s1⟩ := inn_e hi
    unfold nlist at hj ⊢
    split
    · rename_i h5
      rw [if_pos h5] at hj
      simp at hj
      simp [List.getD, hj]
      unfold num
      omega
    · simp
  · simp
def ssV (k p sd : Int) : Int := (snL k p sd).sum
def TRel (xs : List Int) (W : World) (s n : Value) (wr : World) : Prop := W = wr ∧ ∃ i : Nat, i ≤ xs.length ∧ n = .int .i64 i ∧ s = .int .i64 (xs.take i).sum
set_option maxRecDepth 100000 in
set_option maxHeartbeats 1000000 in
theorem Try.iSideSum (k p sd : Int) (w : World) :
    Calls Try.prog 60 #[.agg #[.int .i64 k, .int .i64 p], .int .i64 sd] w fun e w' => e = .returned (.tuple #[.int .i64 (ssV k p sd), .bool (snB k p sd)]) ∧ Below w.heap.size w w' := by
  have HC := Lib.hid (fun (w : World) => Try.iSideNumbers k p sd w)
  have hlen := snL_len k p sd
  have hx := snL_bd k p sd
  unfold ssV
  generalize snL k p sd = xs at *
  generalize snB k p sd = b at *
  have HX := Lib.hid hx
  clear hx
  go_enter Try.func60, Try.ntmps60
  go_wp2_with fail
  refine (HC.out _).mono ?_
  rintro e w1 ⟨v, rfl, ho, hb⟩
  have bb : Below w.heap.size w w1 := (Below.alloc (Below.refl _ _) (Nat.le_refl _) _).trans (hb.mono (by simp))
  have BB := Lib.hid bb
  clear hb bb
  rcases ho.view with ⟨hx, A, c, rfl⟩ | ⟨hpos, g, c, rfl, g1, g2, hm, hc, _⟩
  · subst hx
    clear ho
    go_wp2
    refine wp_loop_rounds 1 ?_
    rw [rounds_succ]
    go_wp2
    go_ret2
    exact ⟨rfl, BB.out⟩
  · have HCC := Lib.hid hc
    clear ho hc
    go_wp2
    go_loopw [8, 10, 19] (fun s _ n wr => TRel xs w1 s n wr) (fun _ _ n _ => xs.length - (intOf n).toNat)
    case atStart => exact ⟨rfl, 0, Nat.zero_le _, rfl, by simp⟩
    case round =>
      obtain ⟨rfl, i, hi, rfl, rfl⟩ := hrel
      obtain ⟨s1, s2⟩ := sum_bd xs HX.out i hi
      by_cases hlt : i < xs.length
      · have e1 := HCC.out i hlt
        obtain ⟨q1, q2⟩ := HX.out i hlt
        have hs := sum_take xs i hlt
        generalize xs.getD i 0 = y at e1 q1 q2 hs
        have HS := Lib.hid hs
        clear hs
        have z0 : (0 : Int) ≤ (i : Int) := by omega
        have z1 : (i : Int) < (xs.length : Int) := by omega
        go_wp2
        go_roundw
        case rel => exact ⟨rfl, i + 1, by omega, by go_num, by rw [HS.out]⟩
        case measure => simp [intOf]; omega
      · obtain rfl : i = xs.length := by omega
        go_wp2
        go_ret2
        exact ⟨by simp, BB.out⟩
set_option maxRecDepth 100000 in
set_option maxHeartbeats 1000000 in
theorem Try.sSideSum (k p sd : Int) (w : World) :
    Calls Try.prog 59 #[.agg #[.int .i64 k, .int .i64 p], .int .i64 sd] w fun e w' => e = .returned (.tuple #[.int .i64 (ssV k p sd), .bool (snB k p sd)]) ∧ Below w.heap.size w w' := by
  cases hg : gd k p
  · have e : snB k p sd = false := by simp [snB, hg]
    rw [show ssV k p sd = 0 by simp [ssV, snL, e], e]
    have H := Lib.hid hg
    clear hg e
    go_enter Try.func59, Try.ntmps59
    go_wp2_with (first | (go_at_call 85; refine (Try.nuGood _ _ _ H.out _).mono ?_; rintro e w1 ⟨rfl, hbW⟩; have hcW := (bcell hbW.below).1; have hfW := (bcell hbW.below).2; (try have hzW : w.heap.size < w1.heap.size := by have hq := hbW.below.size; (try simp at hq); omega); (try have hyW : w.heap.size + 1 < w1.heap.size := by have hq := hbW.below.size; (try simp at hq); omega)))
    go_ret2
    exact ⟨rfl, Gr.below (by repeat (first | exact Gr.refl _ | refine Gr.alloc ?_ _ | refine Gr.trans ?_ (by assumption) | refine Gr.drew ?_ | refine Gr.drewN ?_ _ | refine Gr.grow ?_ _))⟩
  · obtain ⟨h0, h1, h2, h3⟩ := gd_t hg
    cases hin : inn sd 0 1
    · have e : snB k p sd = false := by simp [snB, hin]
      rw [show ssV k p sd = 0 by simp [ssV, snL, e], e]
      have H := Lib.hid hg
      have H2 := Lib.hid hin
      clear hg e hin
      go_enter Try.func59, Try.ntmps59
      go_wp2_with (first | (go_at_call 85; refine (Try.nuGood _ _ _ H.out _).mono ?_; rintro e w1 ⟨rfl, hbW⟩; have hcW := (bcell hbW.below).1; have hfW := (bcell hbW.below).2; (try have hzW : w.heap.size < w1.heap.size := by have hq := hbW.below.size; (try simp at hq); omega); (try have hyW : w.heap.size + 1 < w1.heap.size := by have hq := hbW.below.size; (try simp at hq); omega)) | (go_at_call 67; refine (Try.l1In_b _ _ _ _ H2.out _).mono ?_; rintro e w1 ⟨rfl, rfl⟩))
      go_ret2
      exact ⟨rfl, Gr.below (by repeat (first | exact Gr.refl _ | refine Gr.alloc ?_ _ | refine Gr.trans ?_ (by assumption) | refine Gr.drew ?_ | refine Gr.drewN ?_ _ | refine Gr.grow ?_ _))⟩
    · have e : snB k p sd = true := by simp [snB, hin, hg]
      have HC := Lib.hid (fun (w : World) => Try.nuNumbers k p sd w h0 h1 h2 h3)
      have hlen := snL_len k p sd
      have hx := snL_bd k p sd
      have es : snL k p sd = nlist k p sd p.toNat := by simp [snL, e]
      unfold ssV
      rw [es, e]
      rw [es] at hlen hx
      clear es e
      generalize nlist k p sd p.toNat = xs at *
      have HX := Lib.hid hx
      have H := Lib.hid hg
      have H2 := Lib.hid hin
      clear hx hg hin
      go_enter Try.func59, Try.ntmps59
      go_wp2_with (first | (go_at_call 85; refine (Try.nuGood _ _ _ H.out _).mono ?_; rintro e w1 ⟨rfl, hbW⟩; have hcW := (bcell hbW.below).1; have hfW := (bcell hbW.below).2; (try have hzW : w.heap.size < w1.heap.size := by have hq := hbW.below.size; (try simp at hq); omega); (try have hyW : w.heap.size + 1 < w1.heap.size := by have hq := hbW.below.size; (try simp at hq); omega)) | (go_at_call 67; refine (Try.l1In_b _ _ _ _ H2.out _).mono ?_; rintro e w1 ⟨rfl, rfl⟩))
      refine (HC.out _).mono ?_
      rintro e w2 ⟨v, rfl, ho, hb⟩
      have bb : Below w.heap.size w w2 := by
        have gg : Gr w w1 := (by repeat (first | exact Gr.refl _ | refine Gr.alloc ?_ _ | refine Gr.trans ?_ (by assumption) | refine Gr.drew ?_ | refine Gr.drewN ?_ _ | refine Gr.grow ?_ _))
        exact gg.below.trans (hb.mono gg.below.size)
      have BB := Lib.hid bb
      clear hb bb hcW hfW hbW
      rcases ho.view with ⟨hx, A, c, rfl⟩ | ⟨hpos, g, c, rfl, g1, g2, hm, hc, _⟩
      · subst hx
        clear ho
        go_wp2
        refine wp_loop_rounds 1 ?_
        rw [rounds_succ]
        go_wp2
        go_ret2
        exact ⟨rfl, BB.out⟩
      · have HCC := Lib.hid hc
        clear ho hc
        go_wp2
        go_loopw [6, 8, 21] (fun s _ n wr => TRel xs w2 s n wr) (fun _ _ n _ => xs.length - (intOf n).toNat)
        case atStart => exact ⟨rfl, 0, Nat.zero_le _, rfl, by simp⟩
        case round =>
          obtain ⟨rfl, i, hi, rfl, rfl⟩ := hrel
          obtain ⟨s1, s2⟩ := sum_bd xs HX.out i hi
          by_cases hlt : i < xs.length
          · have e1 := HCC.out i hlt
            obtain ⟨q1, q2⟩ := HX.out i hlt
            have hs := sum_take xs i hlt
            generalize xs.getD i 0 = y at e1 q1 q2 hs
            have HS := Lib.hid hs
            clear hs
            have z0 : (0 : Int) ≤ (i : Int) := by omega
            have z1 : (i : Int) < (xs.length : Int) := by omega
            go_wp2
            go_roundw
            case rel => exact ⟨rfl, i + 1, by omega, by go_num, by rw [HS.out]⟩
            case measure => simp [intOf]; omega
          · obtain rfl : i = xs.length := by omega
            go_wp2
            go_ret2
            exact ⟨by simp, BB.out⟩
end Go.Proofs
