/-
  Contracts of chapter 1: NextHouses.
-/
import Derived.Test.YtcmlojidcpomjaaNuC
import Derived.Test.YtcmlojidcpomjaaNuN
import Derived.Test.YtcmlojidcpomjaaNuPut
import Derived.Test.YtcmlojidcpomjaaShelf
import Derived.Sort.OwnSortedInts
namespace Go.Proofs
open Go.RowKit
set_option linter.unusedVariables false
set_option linter.unusedSimpArgs false
/-- the number at a plot, if there is one -/
def beL (k p sd q : Int) : List Int := if inn q 0 (p - 1) then [num k p sd q] else []
def nhR (k p sd q : Int) : List Int := (beL k p sd (q - 1) ++ beL k p sd (q + 1)).mergeSort (fun x y => decide (x ≤ y))
def nhL (k p n : Int) : List Int := if asB k p n then nhR k p (sdo k p n) (plo k p n) else []
theorem beL_len (k p sd q : Int) : (beL k p sd q).length ≤ 1 := by unfold beL; split <;> simp
theorem nhR_len (k p sd q : Int) : (nhR k p sd q).length ≤ 2 := by
  have h1 := beL_len k p sd (q - 1)
  have h2 := beL_len k p sd (q + 1)
  unfold nhR
  rw [List.length_mergeSort, List.length_append]; omega
theorem nhL_len (k p n : Int) : (nhL k p n).length ≤ 1000000000 := by
  unfold nhL
  split
  · have := nhR_len k p (sdo k p n) (plo k p n); omega
  · simp
theorem sort_two (a b : Int) (h : a ≠ b) : [a, b].mergeSort (fun x y => decide (x ≤ y)) = putI [a] b := by
  by_cases c : a ≤ b
  · rw [List.mergeSort_of_pairwise (by simp [c])]
    have : a < b := by omega
    simp [putI, hitI, plI, this]
  · have e : ¬ a < b := by omega
    have e1 : putI [a] b = [b, a] := by simp [putI, hitI, plI, e, h]
    rw [e1]
    simp [List.mergeSort, List.MergeSort.Internal.splitInTwo, List.merge, c]
theorem num_ne (k p sd q : Int) : num k p sd (q - 1) ≠ num k p sd (q + 1) := by unfold num; omega
theorem nhR_tt (k p sd q : Int) (h1 : inn (q - 1) 0 (p - 1) = true) (h2 : inn (q + 1) 0 (p - 1) = true) : nhR k p sd q = putI [num k p sd (q - 1)] (num k p sd (q + 1)) := by
  rw [← sort_two _ _ (num_ne k p sd q)]; simp [nhR, beL, h1, h2]
theorem nhR_tf (k p sd q : Int) (h1 : inn (q - 1) 0 (p - 1) = true) (h2 : inn (q + 1) 0 (p - 1) = false) : nhR k p sd q = [num k p sd (q - 1)] := by simp [nhR, beL, h1, h2]
theorem nhR_ft (k p sd q : Int) (h1 : inn (q - 1) 0 (p - 1) = false) (h2 : inn (q + 1) 0 (p - 1) = true) : nhR k p sd q = [num k p sd (q + 1)] := by simp [nhR, beL, h1, h2]
theorem nhR_ff (k p sd q : Int) (h1 : inn (q - 1) 0 (p - 1) = false) (h2 : inn (q + 1) 0 (p - 1) = false) : nhR k p sd q = [] := by simp [nhR, beL, h1, h2]
theorem putI_one (a : Int) : putI [] a = [a] := by simp [putI, hitI, plI]
set_option maxRecDepth 100000 in
set_option maxHeartbeats 1600000 in
theorem Try.sNextHouses (k p n : Int) (w : World) :
    Calls Try.prog 11 #[.agg #[.int .i64 k, .int .i64 p], .int .i64 n] w (RetI w (nhL k p n) (asB k p n)) := by
  cases hg : asB k p n
  · rw [show nhL k p n = [] by simp [nhL, hg]]
    have H := Lib.hid hg
    clear hg
    go_enter Try.func11, Try.ntmps11
    go_wp2_with (go_at_call 38; refine (Try.nuAsked _ _ _ _ H.out _).mono ?_; rintro e w1 ⟨rfl, hbW⟩; have hcW := (bcell hbW.below).1; have hfW := (bcell hbW.below).2; (try have hzW : w.heap.size < w1.heap.size := by have hq := hbW.below.size; (try simp at hq); omega); (try have hyW : w.heap.size + 1 < w1.heap.size := by have hq := hbW.below.size; (try simp at hq); omega); (try have hxW : w.heap.size + 2 < w1.heap.size := by have hq := hbW.below.size; (try simp at hq); omega))
    go_ret2
    exact ⟨_, rfl, OwnI.nil _ _, Gr.below (by repeat (first | exact Gr.refl _ | refine Gr.alloc ?_ _ | refine Gr.trans ?_ (by assumption) | refine Gr.drew ?_ | refine Gr.drewN ?_ _ | refine Gr.grow ?_ _ | refine Gr.setCell ?_ (by (try simp); (try omega)) _))⟩
  · obtain ⟨hgd, h4, h5⟩ := asB_t hg
    obtain ⟨h0, h1, h2, h3⟩ := gd_t hgd
    have hs1 := sdo_bd k p n h4
    have hp1 := plo_bd k p n h2 h4 h5
    rw [show nhL k p n = nhR k p (sdo k p n) (plo k p n) by simp [nhL, hg]]
    have H := Lib.hid hg
    have HPL := Lib.hid (fun (w : World) => Try.nuPlot k p n w h0 h1 h2 h3 h4 h5)
    generalize hsd0 : sdo k p n = sd at *
    generalize hq0 : plo k p n = q at *
    clear hg hgd h4 h5 hsd0 hq0
    have HS := Lib.hid hs1
    obtain ⟨q0, q1⟩ := hp1
    clear hs1
    cases i1 : inn (q - 1) 0 (p - 1) <;> cases i2 : inn (q + 1) 0 (p - 1)
    all_goals
      have HR := Lib.hid (show ∀ xs, xs = nhR k p sd q → xs = nhR k p sd q from fun _ h => h)
      first | rw [nhR_tt _ _ _ _ i1 i2, ← putI_one (num k p sd (q - 1))] | rw [nhR_tf _ _ _ _ i1 i2, ← putI_one (num k p sd (q - 1))] | rw [nhR_ft _ _ _ _ i1 i2, ← putI_one (num k p sd (q + 1))] | rw [nhR_ff _ _ _ _ i1 i2]
      have J1 := Lib.hid (fun (h : inn (q - 1) 0 (p - 1) = true) => inn_e h)
      have J2 := Lib.hid (fun (h : inn (q + 1) 0 (p - 1) = true) => inn_e h)
      have I1 := Lib.hid i1
      have I2 := Lib.hid i2
      clear i1 i2 HR
      go_enter Try.func11, Try.ntmps11
      go_wp2_with (first | (go_at_call 38; refine (Try.nuAsked _ _ _ _ H.out _).mono ?_; rintro e w1 ⟨rfl, hbW⟩; have hcW := (bcell hbW.below).1; have hfW := (bcell hbW.below).2; (try have hzW : w.heap.size < w1.heap.size := by have hq := hbW.below.size; (try simp at hq); omega); (try have hyW : w.heap.size + 1 < w1.heap.size := by have hq := hbW.below.size; (try simp at hq); omega); (try have hxW : w.heap.size + 2 < w1.heap.size := by have hq := hbW.below.size; (try simp at hq); omega)) | (go_at_call 39; refine (HPL.out _).mono ?_; rintro e w1 ⟨rfl, hbW⟩; have hcW := (bcell hbW.below).1; have hfW := (bcell hbW.below).2; (try have hzW : w.heap.size < w1.heap.size := by have hq := hbW.below.size; (try simp at hq); omega); (try have hyW : w.heap.size + 1 < w1.heap.size := by have hq := hbW.below.size; (try simp at hq); omega); (try have hxW : w.heap.size + 2 < w1.heap.size := by have hq := hbW.below.size; (try simp at hq); omega)))
      have gw : Gr w (w1.alloc (.cells #[.int .i64 (q - 1), .int .i64 (q + 1)] 3)) := (by repeat (first | exact Gr.refl _ | refine Gr.alloc ?_ _ | refine Gr.trans ?_ (by assumption) | refine Gr.drew ?_ | refine Gr.drewN ?_ _ | refine Gr.grow ?_ _ | refine Gr.setCell ?_ (by (try simp); (try omega)) _))
      have c0 : (w1.alloc (.cells #[.int .i64 (q - 1), .int .i64 (q + 1)] 3)).cell? ⟨w.heap.size, 0, none⟩ = some (.int .i64 k) := by go_simp
      have c1 : (w1.alloc (.cells #[.int .i64 (q - 1), .int .i64 (q + 1)] 3)).cell? ⟨w.heap.size, 1, none⟩ = some (.int .i64 p) := by go_simp
      have d0 : (w1.alloc (.cells #[.int .i64 (q - 1), .int .i64 (q + 1)] 3)).cell? ⟨w1.heap.size, 0, none⟩ = some (.int .i64 (q - 1)) := by simp [go_sem]
      have d1 : (w1.alloc (.cells #[.int .i64 (q - 1), .int .i64 (q + 1)] 3)).cell? ⟨w1.heap.size, 1, none⟩ = some (.int .i64 (q + 1)) := by simp [go_sem]
      have zW : w1.heap.size < (w1.alloc (.cells #[.int .i64 (q - 1), .int .i64 (q + 1)] 3)).heap.size := by simp
      have z0 : w.heap.size < (w1.alloc (.cells #[.int .i64 (q - 1), .int .i64 (q + 1)] 3)).heap.size := Nat.lt_trans hzW zW
      generalize w1.alloc (.cells #[.int .i64 (q - 1), .int .i64 (q + 1)] 3) = W at *
      clear hcW hfW hbW
      generalize q - 1 = qa at *
      generalize q + 1 = qb at *
      refine wp_loop_rounds 3 ?_
      rw [rounds_succ]
      go_wp2_with (first
        | (go_at_call_of 40 (Value.int .i64 qa); refine (Try.l1In_b _ _ _ _ I1.out _).mono ?_; rintro e w1 ⟨rfl, rfl⟩)
        | (go_at_call_of 40 (Value.int .i64 qb); refine (Try.l1In_b _ _ _ _ I2.out _).mono ?_; rintro e w1 ⟨rfl, rfl⟩)
        | (go_at_call 42; have := ho3; refine (Try.nuNumber _ _ _ _ _ h0 h1 h2 h3 HS.out.1 HS.out.2 (by first | exact (J1.out I1.out).1 | exact (J2.out I2.out).1) (by first | exact (J1.out I1.out).2 | exact (J2.out I2.out).2)).mono ?_; rintro e w4 ⟨rfl, g4⟩; have f4 := (bcell g4.below).1; have s4 : w.heap.size < w4.heap.size := Nat.lt_of_lt_of_le s3 g4.below.size; have t4 : w1.heap.size < w4.heap.size := Nat.lt_of_lt_of_le t3 g4.below.size)
        | (go_at_call 42; refine (Try.nuNumber _ _ _ _ _ h0 h1 h2 h3 HS.out.1 HS.out.2 (by first | exact (J1.out I1.out).1 | exact (J2.out I2.out).1) (by first | exact (J1.out I1.out).2 | exact (J2.out I2.out).2)).mono ?_; rintro e w2 ⟨rfl, g2⟩; have f2 := (bcell g2.below).1; have s2 := Nat.lt_of_lt_of_le z0 g2.below.size; have t2 := Nat.lt_of_lt_of_le zW g2.below.size)
        | (go_at_call 41; have := s4; refine (Try.l1Put _ w.heap.size _ _ _ (Nat.le_of_lt s4) (Nat.le_trans (putI_len _ _) (by simp)) (ho3.gr g4)).mono ?_; rintro e w5 ⟨v5, rfl, ho5, hb5⟩; have f5 := (bcell hb5).1; have s5 := Nat.lt_of_lt_of_le s4 hb5.size; have t5 := Nat.lt_of_lt_of_le t4 hb5.size)
        | (go_at_call 41; refine (Try.l1Put _ w.heap.size _ [] _ (Nat.le_of_lt s2) (by simp) (OwnI.nil _ _)).mono ?_; rintro e w3 ⟨v3, rfl, ho3, hb3⟩; have f3 := (bcell hb3).1; have s3 := Nat.lt_of_lt_of_le s2 hb3.size; have t3 := Nat.lt_of_lt_of_le t2 hb3.size))
      rw [rounds_succ]
      go_wp2_with (first
        | (go_at_call_of 40 (Value.int .i64 qa); refine (Try.l1In_b _ _ _ _ I1.out _).mono ?_; rintro e w1 ⟨rfl, rfl⟩)
        | (go_at_call_of 40 (Value.int .i64 qb); refine (Try.l1In_b _ _ _ _ I2.out _).mono ?_; rintro e w1 ⟨rfl, rfl⟩)
        | (go_at_call 42; have := ho3; refine (Try.nuNumber _ _ _ _ _ h0 h1 h2 h3 HS.out.1 HS.out.2 (by first | exact (J1.out I1.out).1 | exact (J2.out I2.out).1) (by first | exact (J1.out I1.out).2 | exact (J2.out I2.out).2)).mono ?_; rintro e w4 ⟨rfl, g4⟩; have f4 := (bcell g4.below).1; have s4 : w.heap.size < w4.heap.size := Nat.lt_of_lt_of_le s3 g4.below.size; have t4 : w1.heap.size < w4.heap.size := Nat.lt_of_lt_of_le t3 g4.below.size)
        | (go_at_call 42; refine (Try.nuNumber _ _ _ _ _ h0 h1 h2 h3 HS.out.1 HS.out.2 (by first | exact (J1.out I1.out).1 | exact (J2.out I2.out).1) (by first | exact (J1.out I1.out).2 | exact (J2.out I2.out).2)).mono ?_; rintro e w2 ⟨rfl, g2⟩; have f2 := (bcell g2.below).1; have s2 := Nat.lt_of_lt_of_le z0 g2.below.size; have t2 := Nat.lt_of_lt_of_le zW g2.below.size)
        | (go_at_call 41; have := s4; refine (Try.l1Put _ w.heap.size _ _ _ (Nat.le_of_lt s4) (Nat.le_trans (putI_len _ _) (by simp)) (ho3.gr g4)).mono ?_; rintro e w5 ⟨v5, rfl, ho5, hb5⟩; have f5 := (bcell hb5).1; have s5 := Nat.lt_of_lt_of_le s4 hb5.size; have t5 := Nat.lt_of_lt_of_le t4 hb5.size)
        | (go_at_call 41; refine (Try.l1Put _ w.heap.size _ [] _ (Nat.le_of_lt s2) (by simp) (OwnI.nil _ _)).mono ?_; rintro e w3 ⟨v3, rfl, ho3, hb3⟩; have f3 := (bcell hb3).1; have s3 := Nat.lt_of_lt_of_le s2 hb3.size; have t3 := Nat.lt_of_lt_of_le t2 hb3.size))
      rw [rounds_succ]
      go_wp2
      go_ret2
      first
        | exact ⟨_, rfl, ho5, gw.below.trans ((((g2.below.trans (hb3.mono g2.below.size))).trans ((g4.below.trans (hb5.mono g4.below.size)).mono (Nat.le_trans g2.below.size hb3.size))).mono gw.below.size)⟩
        | exact ⟨_, rfl, ho3, gw.below.trans ((g2.below.trans (hb3.mono g2.below.size)).mono gw.below.size)⟩
        | exact ⟨_, rfl, OwnI.nil _ _, gw.below⟩
theorem Try.sortI (w : World) (B : Nat) (v : Value) (xs : List Int) (hB : B ≤ w.heap.size) (hl : xs.length ≤ 1000000) (h : OwnI w B v xs) :
    Calls Try.prog 46 #[v] w fun e w' => e = .returned (.tuple #[]) ∧ OwnI w' B v (xs.mergeSort fun x y => decide (x ≤ y)) ∧ Below B w w' := by
  rcases h.2 with ⟨rfl, hn⟩ | ⟨g, cap, cur, rfl, gB, hg, hcl, hcm, hsz, htk⟩
  · obtain rfl : xs = [] := List.length_eq_zero_iff.1 hn
    refine (Try.slices_Sort_int_none _ _ _).mono ?_
    rintro e w' ⟨rfl, rfl⟩
    exact ⟨rfl, by simpa using h, Below.refl _ _⟩
  · have hgl : g < w.heap.size := (Array.getElem?_eq_some_iff.1 hg).1
    refine (Try.slices_Sort_int g 0 cap xs w (holds_of_blockI hg (by simpa using htk)) hgl (by omega)).mono ?_
    rintro e w' ⟨rfl, m, os, rfl⟩
    refine ⟨rfl, ?_, ?_⟩
    · have := ownsRow_sortedI (w := w) (n := m) (os := os) (ts := xs.mergeSort fun x y => decide (x ≤ y)) (List.length_mergeSort _) gB hg hcl hcm hsz
      unfold OwnI
      rw [List.length_mergeSort]
      exact this
    · refine Below.grown (Below.refl _ _) (grownBy_sortedI _) hB ?_
      intro j hj
      simp [Value.ownBlock] at hj
      omega
end Go.Proofs
