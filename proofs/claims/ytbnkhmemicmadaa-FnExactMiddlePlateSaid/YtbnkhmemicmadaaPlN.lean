/-
  Contracts of chapter 2: the next plate, how many between two.
-/
import Derived.Test.YtbnkhmemicmadaaPlB
namespace Go.Proofs
open Go.RowKit Pl
set_option linter.unusedVariables false
set_option linter.unusedSimpArgs false
def nx (n l : Int) : Int × Int := iof (rk (n, l) + 1)
def nxB (n l : Int) : Bool := isP n l && isP (nx n l).1 (nx n l).2
def nxV (n l : Int) : Int × Int := if nxB n l then nx n l else (0, 0)
theorem box3 {w W : World} {a b c d : Value} {t t2 : TypeId} (g : Gr ((w.alloc (.cells #[a, b] t)).alloc (.cells #[c, d] t2)) W) :
    W.cell? ⟨w.heap.size, 0, none⟩ = some a ∧ W.cell? ⟨w.heap.size, 1, none⟩ = some b ∧ W.cell? ⟨w.heap.size + 1, 0, none⟩ = some c ∧ W.cell? ⟨w.heap.size + 1, 1, none⟩ = some d := by
  obtain ⟨h0, h1, h2, h3⟩ := boxesG g
  have e : Go.Sort.grow (W.drewN 0) #[] = W := by rw [Go.Sort.grow_empty]; rfl
  have k0 := h0 0 #[]; have k1 := h1 0 #[]; have k2 := h2 0 #[]; have k3 := h3 0 #[]
  rw [e] at k0 k1 k2 k3
  exact ⟨k0, k1, k2, k3⟩
set_option maxHeartbeats 400000 in
theorem Try.iNextPlate (n l : Int) (w : World) :
    Calls Try.prog 37 #[.agg #[.int .i64 n, .int .i64 l]] w fun e w' => e = .returned (.tuple #[.agg #[.int .i64 (nxV n l).1, .int .i64 (nxV n l).2], .bool (nxB n l)]) ∧ Gr w w' := by
  cases h1 : isP n l
  · have e : nxB n l = false := by simp [nxB, h1]
    rw [show nxV n l = (0, 0) by simp [nxV, e], e]
    have H := Lib.hid h1
    clear h1 e
    go_enter Try.func37, Try.ntmps37
    go_wp2_with (go_at_call 33; refine (Try.iIsPlate _ _ _ H.out _).mono ?_; rintro e w1 ⟨rfl, hbW⟩; have hcW := (bcell hbW.below).1; have hfW := (bcell hbW.below).2; (try have hzW : w.heap.size < w1.heap.size := by have hq := hbW.below.size; (try simp at hq); omega); (try have hyW : w.heap.size + 1 < w1.heap.size := by have hq := hbW.below.size; (try simp at hq); omega); (try have hxW : w.heap.size + 2 < w1.heap.size := by have hq := hbW.below.size; (try simp at hq); omega))
    exact bodyPost_ret (v := .tuple #[.agg #[.int .i64 0, .int .i64 0], .bool false]) (by simp [results, Try.results37, go_sem, hcW, hzW]) rfl ⟨rfl, by repeat (first | exact Gr.refl _ | refine Gr.alloc ?_ _ | refine Gr.trans ?_ (by assumption) | refine Gr.drew ?_ | refine Gr.drewN ?_ _ | refine Gr.grow ?_ _ | refine Gr.setCell ?_ (by (try simp); (try omega)) _)⟩
  · obtain ⟨a1, a2, a3, a4⟩ := isP_t h1
    obtain ⟨r1, r2⟩ := rk_b h1
    have en : nx n l = ((rk (n, l) - 27 + 1) / 27 + 1, (rk (n, l) - 27 + 1) % 27) := by unfold nx iof; ext <;> simp only <;> omega
    cases h2 : isP (nx n l).1 (nx n l).2
    · have e : nxB n l = false := by simp [nxB, h2]
      rw [show nxV n l = (0, 0) by simp [nxV, e], e]
      rw [en] at h2
      have H := Lib.hid h1
      have H2 := Lib.hid h2
      clear h1 h2 e en
      go_enter Try.func37, Try.ntmps37
      go_wp2_with (first | (go_at_call_of 33 (Value.int .i64 n); refine (Try.iIsPlate _ _ _ H.out _).mono ?_; rintro e w1 ⟨rfl, hbW⟩; have hcW := (bcell hbW.below).1; have hfW := (bcell hbW.below).2; (try have hzW : w.heap.size < w1.heap.size := by have hq := hbW.below.size; (try simp at hq); omega); (try have hyW : w.heap.size + 1 < w1.heap.size := by have hq := hbW.below.size; (try simp at hq); omega); (try have hxW : w.heap.size + 2 < w1.heap.size := by have hq := hbW.below.size; (try simp at hq); omega)) | (go_at_call 82; refine (Try.rankOfPlate _ _ (by omega) (by omega) (by omega) (by omega) _).mono ?_; rintro e w1 ⟨rfl, hbW⟩; have hcW := (bcell hbW.below).1; have hfW := (bcell hbW.below).2; (try have hzW : w.heap.size < w1.heap.size := by have hq := hbW.below.size; (try simp at hq); omega); (try have hyW : w.heap.size + 1 < w1.heap.size := by have hq := hbW.below.size; (try simp at hq); omega); (try have hxW : w.heap.size + 2 < w1.heap.size := by have hq := hbW.below.size; (try simp at hq); omega)) | (go_at_call 81; refine (Try.plateWithRank _ (by omega) (by omega) _).mono ?_; rintro e w1 ⟨rfl, hbW⟩; have hcW := (bcell hbW.below).1; have hfW := (bcell hbW.below).2; (try have hzW : w.heap.size < w1.heap.size := by have hq := hbW.below.size; (try simp at hq); omega); (try have hyW : w.heap.size + 1 < w1.heap.size := by have hq := hbW.below.size; (try simp at hq); omega); (try have hxW : w.heap.size + 2 < w1.heap.size := by have hq := hbW.below.size; (try simp at hq); omega)) | (go_at_call 33; refine (Try.iIsPlate _ _ _ H2.out _).mono ?_; rintro e w1 ⟨rfl, hbW⟩; have hcW := (bcell hbW.below).1; have hfW := (bcell hbW.below).2; (try have hzW : w.heap.size < w1.heap.size := by have hq := hbW.below.size; (try simp at hq); omega); (try have hyW : w.heap.size + 1 < w1.heap.size := by have hq := hbW.below.size; (try simp at hq); omega); (try have hxW : w.heap.size + 2 < w1.heap.size := by have hq := hbW.below.size; (try simp at hq); omega)))
      exact bodyPost_ret (v := .tuple #[.agg #[.int .i64 0, .int .i64 0], .bool false]) (by simp [results, Try.results37, go_sem, *]) rfl ⟨rfl, by repeat (first | exact Gr.refl _ | refine Gr.alloc ?_ _ | refine Gr.trans ?_ (by assumption) | refine Gr.drew ?_ | refine Gr.drewN ?_ _ | refine Gr.grow ?_ _ | refine Gr.setCell ?_ (by (try simp); (try omega)) _)⟩
    · have e : nxB n l = true := by simp [nxB, h1, h2]
      rw [show nxV n l = ((rk (n, l) - 27 + 1) / 27 + 1, (rk (n, l) - 27 + 1) % 27) by simp [nxV, e, en], e]
      rw [en] at h2
      have H := Lib.hid h1
      have H2 := Lib.hid h2
      clear h1 h2 e en
      go_enter Try.func37, Try.ntmps37
      go_wp2_with (first | (go_at_call_of 33 (Value.int .i64 n); refine (Try.iIsPlate _ _ _ H.out _).mono ?_; rintro e w1 ⟨rfl, hbW⟩; have hcW := (bcell hbW.below).1; have hfW := (bcell hbW.below).2; (try have hzW : w.heap.size < w1.heap.size := by have hq := hbW.below.size; (try simp at hq); omega); (try have hyW : w.heap.size + 1 < w1.heap.size := by have hq := hbW.below.size; (try simp at hq); omega); (try have hxW : w.heap.size + 2 < w1.heap.size := by have hq := hbW.below.size; (try simp at hq); omega)) | (go_at_call 82; refine (Try.rankOfPlate _ _ (by omega) (by omega) (by omega) (by omega) _).mono ?_; rintro e w1 ⟨rfl, hbW⟩; have hcW := (bcell hbW.below).1; have hfW := (bcell hbW.below).2; (try have hzW : w.heap.size < w1.heap.size := by have hq := hbW.below.size; (try simp at hq); omega); (try have hyW : w.heap.size + 1 < w1.heap.size := by have hq := hbW.below.size; (try simp at hq); omega); (try have hxW : w.heap.size + 2 < w1.heap.size := by have hq := hbW.below.size; (try simp at hq); omega)) | (go_at_call 81; refine (Try.plateWithRank _ (by omega) (by omega) _).mono ?_; rintro e w1 ⟨rfl, hbW⟩; have hcW := (bcell hbW.below).1; have hfW := (bcell hbW.below).2; (try have hzW : w.heap.size < w1.heap.size := by have hq := hbW.below.size; (try simp at hq); omega); (try have hyW : w.heap.size + 1 < w1.heap.size := by have hq := hbW.below.size; (try simp at hq); omega); (try have hxW : w.heap.size + 2 < w1.heap.size := by have hq := hbW.below.size; (try simp at hq); omega)) | (go_at_call 33; refine (Try.iIsPlate _ _ _ H2.out _).mono ?_; rintro e w1 ⟨rfl, hbW⟩; have hcW := (bcell hbW.below).1; have hfW := (bcell hbW.below).2; (try have hzW : w.heap.size < w1.heap.size := by have hq := hbW.below.size; (try simp at hq); omega); (try have hyW : w.heap.size + 1 < w1.heap.size := by have hq := hbW.below.size; (try simp at hq); omega); (try have hxW : w.heap.size + 2 < w1.heap.size := by have hq := hbW.below.size; (try simp at hq); omega)))
      exact bodyPost_ret (v := .tuple #[.agg #[.int .i64 ((rk (n, l) - 27 + 1) / 27 + 1), .int .i64 ((rk (n, l) - 27 + 1) % 27)], .bool true]) (by simp [results, Try.results37, go_sem, *]) rfl ⟨rfl, by repeat (first | exact Gr.refl _ | refine Gr.alloc ?_ _ | refine Gr.trans ?_ (by assumption) | refine Gr.drew ?_ | refine Gr.drewN ?_ _ | refine Gr.grow ?_ _ | refine Gr.setCell ?_ (by (try simp); (try omega)) _)⟩
set_option maxHeartbeats 400000 in
theorem Try.sNextPlate (n l : Int) (w : World) :
    Calls Try.prog 36 #[.agg #[.int .i64 n, .int .i64 l]] w fun e w' => e = .returned (.tuple #[.agg #[.int .i64 (nxV n l).1, .int .i64 (nxV n l).2], .bool (nxB n l)]) ∧ Gr w w' := by
  cases h1 : isP n l
  · have e : nxB n l = false := by simp [nxB, h1]
    rw [show nxV n l = (0, 0) by simp [nxV, e], e]
    have H := Lib.hid h1
    clear h1 e
    go_enter Try.func36, Try.ntmps36
    go_wp2_with (go_at_call 76; refine (Try.isPlate _ _ _ H.out _).mono ?_; rintro e w1 ⟨rfl, hbW⟩; have hcW := (bcell hbW.below).1; have hfW := (bcell hbW.below).2; (try have hzW : w.heap.size < w1.heap.size := by have hq := hbW.below.size; (try simp at hq); omega); (try have hyW : w.heap.size + 1 < w1.heap.size := by have hq := hbW.below.size; (try simp at hq); omega); (try have hxW : w.heap.size + 2 < w1.heap.size := by have hq := hbW.below.size; (try simp at hq); omega))
    exact bodyPost_ret (v := .tuple #[.agg #[.int .i64 0, .int .i64 0], .bool false]) (by simp [results, Try.results36, go_sem, hcW, hzW]) rfl ⟨rfl, by repeat (first | exact Gr.refl _ | refine Gr.alloc ?_ _ | refine Gr.trans ?_ (by assumption) | refine Gr.drew ?_ | refine Gr.drewN ?_ _ | refine Gr.grow ?_ _ | refine Gr.setCell ?_ (by (try simp); (try omega)) _)⟩
  · obtain ⟨a1, a2, a3, a4⟩ := isP_t h1
    obtain ⟨r1, r2⟩ := rk_b h1
    cases h2 : isP (nx n l).1 (nx n l).2
    · have e : nxB n l = false := by simp [nxB, h2]
      rw [show nxV n l = (0, 0) by simp [nxV, e], e]
      unfold nx at h2
      have H := Lib.hid h1
      have H2 := Lib.hid h2
      clear h1 h2 e
      go_enter Try.func36, Try.ntmps36
      go_wp2_with (first | (go_at_call_of 76 (Value.int .i64 n); refine (Try.isPlate _ _ _ H.out _).mono ?_; rintro e w1 ⟨rfl, hbW⟩; have hcW := (bcell hbW.below).1; have hfW := (bcell hbW.below).2; (try have hzW : w.heap.size < w1.heap.size := by have hq := hbW.below.size; (try simp at hq); omega); (try have hyW : w.heap.size + 1 < w1.heap.size := by have hq := hbW.below.size; (try simp at hq); omega); (try have hxW : w.heap.size + 2 < w1.heap.size := by have hq := hbW.below.size; (try simp at hq); omega)) | (go_at_call 78; refine (Try.isRank _ _ (by omega) (by omega) (by omega) (by omega) _).mono ?_; rintro e w1 ⟨rfl, hbW⟩; have hcW := (bcell hbW.below).1; have hfW := (bcell hbW.below).2; (try have hzW : w.heap.size < w1.heap.size := by have hq := hbW.below.size; (try simp at hq); omega); (try have hyW : w.heap.size + 1 < w1.heap.size := by have hq := hbW.below.size; (try simp at hq); omega); (try have hxW : w.heap.size + 2 < w1.heap.size := by have hq := hbW.below.size; (try simp at hq); omega)) | (go_at_call 80; refine (Try.isOf _ (by omega) (by omega) _).mono ?_; rintro e w1 ⟨rfl, hbW⟩; have hcW := (bcell hbW.below).1; have hfW := (bcell hbW.below).2; (try have hzW : w.heap.size < w1.heap.size := by have hq := hbW.below.size; (try simp at hq); omega); (try have hyW : w.heap.size + 1 < w1.heap.size := by have hq := hbW.below.size; (try simp at hq); omega); (try have hxW : w.heap.size + 2 < w1.heap.size := by have hq := hbW.below.size; (try simp at hq); omega)) | (go_at_call 76; refine (Try.isPlate _ _ _ H2.out _).mono ?_; rintro e w1 ⟨rfl, hbW⟩; have hcW := (bcell hbW.below).1; have hfW := (bcell hbW.below).2; (try have hzW : w.heap.size < w1.heap.size := by have hq := hbW.below.size; (try simp at hq); omega); (try have hyW : w.heap.size + 1 < w1.heap.size := by have hq := hbW.below.size; (try simp at hq); omega); (try have hxW : w.heap.size + 2 < w1.heap.size := by have hq := hbW.below.size; (try simp at hq); omega)))
      exact bodyPost_ret (v := .tuple #[.agg #[.int .i64 0, .int .i64 0], .bool false]) (by simp [results, Try.results36, go_sem, *]) rfl ⟨rfl, by repeat (first | exact Gr.refl _ | refine Gr.alloc ?_ _ | refine Gr.trans ?_ (by assumption) | refine Gr.drew ?_ | refine Gr.drewN ?_ _ | refine Gr.grow ?_ _ | refine Gr.setCell ?_ (by (try simp); (try omega)) _)⟩
    · have e : nxB n l = true := by simp [nxB, h1, h2]
      rw [show nxV n l = iof (rk (n, l) + 1) by simp [nxV, e, nx], e]
      unfold nx at h2
      have H := Lib.hid h1
      have H2 := Lib.hid h2
      clear h1 h2 e
      go_enter Try.func36, Try.ntmps36
      go_wp2_with (first | (go_at_call_of 76 (Value.int .i64 n); refine (Try.isPlate _ _ _ H.out _).mono ?_; rintro e w1 ⟨rfl, hbW⟩; have hcW := (bcell hbW.below).1; have hfW := (bcell hbW.below).2; (try have hzW : w.heap.size < w1.heap.size := by have hq := hbW.below.size; (try simp at hq); omega); (try have hyW : w.heap.size + 1 < w1.heap.size := by have hq := hbW.below.size; (try simp at hq); omega); (try have hxW : w.heap.size + 2 < w1.heap.size := by have hq := hbW.below.size; (try simp at hq); omega)) | (go_at_call 78; refine (Try.isRank _ _ (by omega) (by omega) (by omega) (by omega) _).mono ?_; rintro e w1 ⟨rfl, hbW⟩; have hcW := (bcell hbW.below).1; have hfW := (bcell hbW.below).2; (try have hzW : w.heap.size < w1.heap.size := by have hq := hbW.below.size; (try simp at hq); omega); (try have hyW : w.heap.size + 1 < w1.heap.size := by have hq := hbW.below.size; (try simp at hq); omega); (try have hxW : w.heap.size + 2 < w1.heap.size := by have hq := hbW.below.size; (try simp at hq); omega)) | (go_at_call 80; refine (Try.isOf _ (by omega) (by omega) _).mono ?_; rintro e w1 ⟨rfl, hbW⟩; have hcW := (bcell hbW.below).1; have hfW := (bcell hbW.below).2; (try have hzW : w.heap.size < w1.heap.size := by have hq := hbW.below.size; (try simp at hq); omega); (try have hyW : w.heap.size + 1 < w1.heap.size := by have hq := hbW.below.size; (try simp at hq); omega); (try have hxW : w.heap.size + 2 < w1.heap.size := by have hq := hbW.below.size; (try simp at hq); omega)) | (go_at_call 76; refine (Try.isPlate _ _ _ H2.out _).mono ?_; rintro e w1 ⟨rfl, hbW⟩; have hcW := (bcell hbW.below).1; have hfW := (bcell hbW.below).2; (try have hzW : w.heap.size < w1.heap.size := by have hq := hbW.below.size; (try simp at hq); omega); (try have hyW : w.heap.size + 1 < w1.heap.size := by have hq := hbW.below.size; (try simp at hq); omega); (try have hxW : w.heap.size + 2 < w1.heap.size := by have hq := hbW.below.size; (try simp at hq); omega)))
      exact bodyPost_ret (v := .tuple #[.agg #[.int .i64 (iof (rk (n, l) + 1)).1, .int .i64 (iof (rk (n, l) + 1)).2], .bool true]) (by simp [results, Try.results36, go_sem, *]) rfl ⟨rfl, by repeat (first | exact Gr.refl _ | refine Gr.alloc ?_ _ | refine Gr.trans ?_ (by assumption) | refine Gr.drew ?_ | refine Gr.drewN ?_ _ | refine Gr.grow ?_ _ | refine Gr.setCell ?_ (by (try simp); (try omega)) _)⟩
def cbB (a b c d : Int) : Bool := ok2 a b c d && decide (rk (a, b) < rk (c, d))
def cbV (a b c d : Int) : Int := if cbB a b c d then rk (c, d) - rk (a, b) - 1 else 0
set_option maxHeartbeats 400000 in
theorem Try.iCountBetween (a b c d : Int) (w : World) :
    Calls Try.prog 40 #[.agg #[.int .i64 a, .int .i64 b], .agg #[.int .i64 c, .int .i64 d]] w fun e w' => e = .returned (.tuple #[.int .i64 (cbV a b c d), .bool (cbB a b c d)]) ∧ Gr w w' := by
  have hc := fun w => Try.iComparePlates a b c d w
  cases h0 : ok2 a b c d
  · have e : cbB a b c d = false := by simp [cbB, h0]
    rw [show cbV a b c d = 0 by simp [cbV, e], e]
    rw [h0, show cmV a b c d = 0 by simp [cmV, h0]] at hc
    have H := Lib.hid hc
    clear hc h0 e
    go_enter Try.func40, Try.ntmps40
    go_wp2_with (go_at_call 35; refine (H.out _).mono ?_; rintro e w1 ⟨rfl, hbW⟩; have hcW := (bcell hbW.below).1; have hfW := (bcell hbW.below).2; (try have hzW : w.heap.size < w1.heap.size := by have hq := hbW.below.size; (try simp at hq); omega); (try have hyW : w.heap.size + 1 < w1.heap.size := by have hq := hbW.below.size; (try simp at hq); omega); (try have hxW : w.heap.size + 2 < w1.heap.size := by have hq := hbW.below.size; (try simp at hq); omega))
    go_ret2
    exact ⟨rfl, by repeat (first | exact Gr.refl _ | refine Gr.alloc ?_ _ | refine Gr.trans ?_ (by assumption) | refine Gr.drew ?_ | refine Gr.drewN ?_ _ | refine Gr.grow ?_ _ | refine Gr.setCell ?_ (by (try simp); (try omega)) _)⟩
  · obtain ⟨h1, h2⟩ : isP a b = true ∧ isP c d = true := by simpa [ok2] using h0
    rw [h0, show cmV a b c d = cmpI (rk (a, b)) (rk (c, d)) by simp [cmV, h0]] at hc
    obtain ⟨a1, a2, a3, a4⟩ := isP_t h1
    obtain ⟨c1, c2, c3, c4⟩ := isP_t h2
    obtain ⟨r1, r2⟩ := rk_b h1
    obtain ⟨r3, r4⟩ := rk_b h2
    by_cases hl : rk (a, b) < rk (c, d)
    · have e : cbB a b c d = true := by simp [cbB, h0, hl]
      rw [show cbV a b c d = (rk (c, d) - 27) - (rk (a, b) - 27) - 1 by simp only [cbV, e, if_true]; omega, e]
      rw [cm_lt hl] at hc
      have H := Lib.hid hc
      clear hc h0 h1 h2 e
      have mixed : Try.prog.follows .mixedOrders = true := by kernel_rfl
      go_enter Try.func40, Try.ntmps40
      go_wp2_with (go_at_call 35; refine (H.out _).mono ?_; rintro e w1 ⟨rfl, hbW⟩; have hcW := (bcell hbW.below).1; have hfW := (bcell hbW.below).2; (try have hzW : w.heap.size < w1.heap.size := by have hq := hbW.below.size; (try simp at hq); omega); (try have hyW : w.heap.size + 1 < w1.heap.size := by have hq := hbW.below.size; (try simp at hq); omega); (try have hxW : w.heap.size + 2 < w1.heap.size := by have hq := hbW.below.size; (try simp at hq); omega))
      obtain ⟨b0, b1, b2, b3⟩ := boxesG (w := w) (W := w1) (a := .int .i64 a) (b := .int .i64 b) (c := .int .i64 c) (d := .int .i64 d) (t := 45) (t2 := 45) (by repeat (first | exact Gr.refl _ | refine Gr.alloc ?_ _ | refine Gr.trans ?_ (by assumption) | refine Gr.drew ?_ | refine Gr.drewN ?_ _ | refine Gr.grow ?_ _ | refine Gr.setCell ?_ (by (try simp); (try omega)) _))
      have q1 : IntKind.i64.wrap (rk (c, d) - 27 - (rk (a, b) - 27)) = rk (c, d) - 27 - (rk (a, b) - 27) := IntWalk.i64_in _ (by omega)
      have q2 : IntKind.i64.wrap (rk (c, d) - 27 - (rk (a, b) - 27) - 1) = rk (c, d) - 27 - (rk (a, b) - 27) - 1 := IntWalk.i64_in _ (by omega)
      (refine wp_region_quiet_grown mixed (by kernel_rfl) ?_; (repeat (first | go_big_quiet_step ((first | (go_at_call 82; exact Calls.grown_of (Try.rankOfPlate _ _ (by omega) (by omega) (by omega) (by omega) _)))) | quiet_step ((first | (go_at_call 82; exact Calls.grown_of (Try.rankOfPlate _ _ (by omega) (by omega) (by omega) (by omega) _)))))); refine wpQuiet_nil ?_; intro _ hw'; obtain ⟨⟨nq, osq⟩, hw''⟩ := hw'; subst hw'')
      go_wp2
      go_ret2
      exact ⟨rfl, by repeat (first | exact Gr.refl _ | refine Gr.alloc ?_ _ | refine Gr.trans ?_ (by assumption) | refine Gr.drew ?_ | refine Gr.drewN ?_ _ | refine Gr.grow ?_ _ | refine Gr.setCell ?_ (by (try simp); (try omega)) _)⟩
    · have e : cbB a b c d = false := by simp [cbB, hl]
      rw [show cbV a b c d = 0 by simp [cbV, e], e]
      have hv := cm_ge hl
      have hne : (cmpI (rk (a, b)) (rk (c, d)) != -1) = true := by rcases hv with q | q <;> rw [q] <;> rfl
      generalize cmpI (rk (a, b)) (rk (c, d)) = z at hc hne
      have H := Lib.hid hc
      clear hc h0 h1 h2 e hv hl
      go_enter Try.func40, Try.ntmps40
      go_wp2_with (go_at_call 35; refine (H.out _).mono ?_; rintro e w1 ⟨rfl, hbW⟩; have hcW := (bcell hbW.below).1; have hfW := (bcell hbW.below).2; (try have hzW : w.heap.size < w1.heap.size := by have hq := hbW.below.size; (try simp at hq); omega); (try have hyW : w.heap.size + 1 < w1.heap.size := by have hq := hbW.below.size; (try simp at hq); omega); (try have hxW : w.heap.size + 2 < w1.heap.size := by have hq := hbW.below.size; (try simp at hq); omega))
      go_ret2
      exact ⟨rfl, by repeat (first | exact Gr.refl _ | refine Gr.alloc ?_ _ | refine Gr.trans ?_ (by assumption) | refine Gr.drew ?_ | refine Gr.drewN ?_ _ | refine Gr.grow ?_ _ | refine Gr.setCell ?_ (by (try simp); (try omega)) _)⟩
set_option maxHeartbeats 800000 in
theorem Try.sCountBetween (a b c d : Int) (w : World) :
    Calls Try.prog 39 #[.agg #[.int .i64 a, .int .i64 b], .agg #[.int .i64 c, .int .i64 d]] w fun e w' => e = .returned (.tuple #[.int .i64 (cbV a b c d), .bool (cbB a b c d)]) ∧ Gr w w' := by
  have mixed : Try.prog.follows .mixedOrders = true := by kernel_rfl
  obtain ⟨b0, b1, b2, b3⟩ := boxes w (.int .i64 a) (.int .i64 b) (.int .i64 c) (.int .i64 d) 45 45
  cases h1 : isP a b
  · have e : cbB a b c d = false := by simp [cbB, ok2, h1]
    rw [show cbV a b c d = 0 by simp [cbV, e], e]
    have H := Lib.hid h1
    clear h1 e
    go_enter Try.func39, Try.ntmps39
    go_wp2
    (refine wp_region_quiet_grown mixed (by kernel_rfl) ?_; (repeat (first | go_big_quiet_step ((first | (go_at_call 76; exact Calls.grown_of (Try.isPlate _ _ _ H.out _)))) | quiet_step ((first | (go_at_call 76; exact Calls.grown_of (Try.isPlate _ _ _ H.out _)))))); refine wpQuiet_nil ?_; intro _ hw'; obtain ⟨⟨nq, osq⟩, hw''⟩ := hw'; subst hw'')
    go_wp2
    go_ret2
    exact ⟨rfl, by repeat (first | exact Gr.refl _ | refine Gr.alloc ?_ _ | refine Gr.trans ?_ (by assumption) | refine Gr.drew ?_ | refine Gr.drewN ?_ _ | refine Gr.grow ?_ _ | refine Gr.setCell ?_ (by (try simp); (try omega)) _)⟩
  · cases h2 : isP c d
    · have e : cbB a b c d = false := by simp [cbB, ok2, h2]
      rw [show cbV a b c d = 0 by simp [cbV, e], e]
      have H := Lib.hid h1
      have H2 := Lib.hid h2
      clear h1 h2 e
      go_enter Try.func39, Try.ntmps39
      go_wp2
      (refine wp_region_quiet_grown mixed (by kernel_rfl) ?_; (repeat (first | go_big_quiet_step ((first | (go_at_call_of 76 (Value.int .i64 a); exact Calls.grown_of (Try.isPlate _ _ _ H.out _)) | (go_at_call_of 76 (Value.int .i64 c); exact Calls.grown_of (Try.isPlate _ _ _ H2.out _)))) | quiet_step ((first | (go_at_call_of 76 (Value.int .i64 a); exact Calls.grown_of (Try.isPlate _ _ _ H.out _)) | (go_at_call_of 76 (Value.int .i64 c); exact Calls.grown_of (Try.isPlate _ _ _ H2.out _)))))); refine wpQuiet_nil ?_; intro _ hw'; obtain ⟨⟨nq, osq⟩, hw''⟩ := hw'; subst hw'')
      go_wp2
      go_ret2
      exact ⟨rfl, by repeat (first | exact Gr.refl _ | refine Gr.alloc ?_ _ | refine Gr.trans ?_ (by assumption) | refine Gr.drew ?_ | refine Gr.drewN ?_ _ | refine Gr.grow ?_ _ | refine Gr.setCell ?_ (by (try simp); (try omega)) _)⟩
    · obtain ⟨a1, a2, a3, a4⟩ := isP_t h1
      obtain ⟨c1, c2, c3, c4⟩ := isP_t h2
      obtain ⟨r1, r2⟩ := rk_b h1
      obtain ⟨r3, r4⟩ := rk_b h2
      by_cases hl : rk (a, b) < rk (c, d)
      · have e : cbB a b c d = true := by simp [cbB, ok2, h1, h2, hl]
        rw [show cbV a b c d = rk (c, d) - rk (a, b) - 1 by simp only [cbV, e, if_true], e]
        have H := Lib.hid h1
        have H2 := Lib.hid h2
        have hd : decide (rk (c, d) ≤ rk (a, b)) = false := by simp; omega
        clear h1 h2 e
        go_enter Try.func39, Try.ntmps39
        go_wp2
        (refine wp_region_quiet_grown mixed (by kernel_rfl) ?_; (repeat (first | go_big_quiet_step ((first | (go_at_call_of 76 (Value.int .i64 a); exact Calls.grown_of (Try.isPlate _ _ _ H.out _)) | (go_at_call_of 76 (Value.int .i64 c); exact Calls.grown_of (Try.isPlate _ _ _ H2.out _)) | (go_at_call 78; exact Calls.grown_of (Try.isRank _ _ (by omega) (by omega) (by omega) (by omega) _)))) | quiet_step ((first | (go_at_call_of 76 (Value.int .i64 a); exact Calls.grown_of (Try.isPlate _ _ _ H.out _)) | (go_at_call_of 76 (Value.int .i64 c); exact Calls.grown_of (Try.isPlate _ _ _ H2.out _)) | (go_at_call 78; exact Calls.grown_of (Try.isRank _ _ (by omega) (by omega) (by omega) (by omega) _)))))); refine wpQuiet_nil ?_; intro _ hw'; obtain ⟨⟨nq, osq⟩, hw''⟩ := hw'; subst hw'')
        go_wp2
        obtain ⟨b4, b5, b6, b7⟩ := boxesG (w := w) (W := Go.Sort.grow (((w.alloc (.cells #[.int .i64 a, .int .i64 b] 45)).alloc (.cells #[.int .i64 c, .int .i64 d] 45)).drewN nq) osq) (a := .int .i64 a) (b := .int .i64 b) (c := .int .i64 c) (d := .int .i64 d) (t := 45) (t2 := 45) (by repeat (first | exact Gr.refl _ | refine Gr.alloc ?_ _ | refine Gr.trans ?_ (by assumption) | refine Gr.drew ?_ | refine Gr.drewN ?_ _ | refine Gr.grow ?_ _ | refine Gr.setCell ?_ (by (try simp); (try omega)) _))
        have q1 : IntKind.i64.wrap (rk (c, d) - rk (a, b)) = rk (c, d) - rk (a, b) := IntWalk.i64_in _ (by omega)
        have q2 : IntKind.i64.wrap (rk (c, d) - rk (a, b) - 1) = rk (c, d) - rk (a, b) - 1 := IntWalk.i64_in _ (by omega)
        (refine wp_region_quiet_grown mixed (by kernel_rfl) ?_; (repeat (first | go_big_quiet_step ((first | (go_at_call 78; exact Calls.grown_of (Try.isRank _ _ (by omega) (by omega) (by omega) (by omega) _)))) | quiet_step ((first | (go_at_call 78; exact Calls.grown_of (Try.isRank _ _ (by omega) (by omega) (by omega) (by omega) _)))))); refine wpQuiet_nil ?_; intro _ hw'; obtain ⟨⟨nq, osq⟩, hw''⟩ := hw'; subst hw'')
        go_wp2
        go_ret2
        exact ⟨rfl, by repeat (first | exact Gr.refl _ | refine Gr.alloc ?_ _ | refine Gr.trans ?_ (by assumption) | refine Gr.drew ?_ | refine Gr.drewN ?_ _ | refine Gr.grow ?_ _ | refine Gr.setCell ?_ (by (try simp); (try omega)) _)⟩
      · have e : cbB a b c d = false := by simp [cbB, hl]
        rw [show cbV a b c d = 0 by simp [cbV, e], e]
        have H := Lib.hid h1
        have H2 := Lib.hid h2
        have hd : decide (rk (c, d) ≤ rk (a, b)) = true := by simp; omega
        clear h1 h2 e
        go_enter Try.func39, Try.ntmps39
        go_wp2
        (refine wp_region_quiet_grown mixed (by kernel_rfl) ?_; (repeat (first | go_big_quiet_step ((first | (go_at_call_of 76 (Value.int .i64 a); exact Calls.grown_of (Try.isPlate _ _ _ H.out _)) | (go_at_call_of 76 (Value.int .i64 c); exact Calls.grown_of (Try.isPlate _ _ _ H2.out _)) | (go_at_call 78; exact Calls.grown_of (Try.isRank _ _ (by omega) (by omega) (by omega) (by omega) _)))) | quiet_step ((first | (go_at_call_of 76 (Value.int .i64 a); exact Calls.grown_of (Try.isPlate _ _ _ H.out _)) | (go_at_call_of 76 (Value.int .i64 c); exact Calls.grown_of (Try.isPlate _ _ _ H2.out _)) | (go_at_call 78; exact Calls.grown_of (Try.isRank _ _ (by omega) (by omega) (by omega) (by omega) _)))))); refine wpQuiet_nil ?_; intro _ hw'; obtain ⟨⟨nq, osq⟩, hw''⟩ := hw'; subst hw'')
        go_wp2
        go_ret2
        exact ⟨rfl, by repeat (first | exact Gr.refl _ | refine Gr.alloc ?_ _ | refine Gr.trans ?_ (by assumption) | refine Gr.drew ?_ | refine Gr.drewN ?_ _ | refine Gr.grow ?_ _ | refine Gr.setCell ?_ (by (try simp); (try omega)) _)⟩
end Go.Proofs
