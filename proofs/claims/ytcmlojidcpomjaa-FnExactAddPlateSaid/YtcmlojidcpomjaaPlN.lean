/-
  Contracts of chapter 2: the next plate, how many between two.
-/
import Derived.Test.YtcmlojidcpomjaaPlB
namespace Go.Proofs
open Go.RowKit Pl
set_option linter.unusedVariables false
set_option linter.unusedSimpArgs false
def nx (n l : Int) : Int × Int := iof (rk (n, l) + 1)
def nxB (n l : Int) : Bool := isP n l && isP (nx n l).1 (nx n l).2
def nxV (n l : Int) : Int × Int := if nxB n l then nx n l else (0, 0)
theorem box3 {w W : World} {a b c d : Value} {t t2 : TypeId} (g : Gr ((w.alloc (.cells #[a, b] t)).alloc (.cells #[c, d] t2)) W) :
    W.cell? ⟨w.heap.size, 0, none⟩ = some a ∧ W.cell? ⟨w.heap.size, 1, none⟩ = some b ∧ W.cell? ⟨w.heap.size + 1, 0, none⟩ = some c ∧ W.cell? ⟨w.heap.size + 1, 1, none⟩ = some d := by
  obtain ⟨h0, h1, h2, h3⟩ := boxesG g
  have e : Go.Sort.grow (W.drewN 0) #[] = W := by rw [Go.Sort.grow_empty]; rfl
  have k0 := h0 0 #[]; have k1 := h1 0 #[]; have k2 := h2 0 #[]; have k3 := h3 0 #[]
  rw [e] at k0 k1 k2 k3
  exact ⟨k0, k1, k2, k3⟩
set_option maxHeartbeats 400000 in
theorem Try.iNextPlate (n l : Int) (w : World) :
    Calls Try.prog 67 #[.agg #[.int .i64 n, .int .i64 l]] w fun e w' => e = .returned (.tuple #[.agg #[.int .i64 (nxV n l).1, .int .i64 (nxV n l).2], .bool (nxB n l)]) ∧ Gr w w' := by
  cases h1 : isP n l
  · have e : nxB n l = false := by simp [nxB, h1]
    rw [show nxV n l = (0, 0) by simp [nxV, e], e]
    have H := Lib.hid h1
    clear h1 e
    go_enter Try.func67, Try.ntmps67
    go_wp2_with (go_at_call 58; refine (Try.iIsPlate _ _ _ H.out _).mono ?_; rintro e w1 ⟨rfl, hbW⟩; have hcW := (bcell hbW.below).1; have hfW := (bcell hbW.below).2; (try have hzW : w.heap.size < w1.heap.size := by have hq := hbW.below.size; (try simp at hq); omega); (try have hyW : w.heap.size + 1 < w1.heap.size := by have hq := hbW.below.size; (try simp at hq); omega); (try have hxW : w.heap.size + 2 < w1.heap.size := by have hq := hbW.below.size; (try simp at hq); omega))
    exact bodyPost_ret (v := .tuple #[.agg #[.int .i64 0, .int .i64 0], .bool false]) (by simp [results, Try.results67, go_sem, hcW, hzW]) rfl ⟨rfl, by repeat (first | exact Gr.refl _ | refine Gr.alloc ?_ _ | refine Gr.trans ?_ (by assumption) | refine Gr.drew ?_ | refine Gr.drewN ?_ _ | refine Gr.grow ?_ _ | refine Gr.setCell ?_ (by (try simp); (try omega)) _)⟩
  · obtain ⟨a1, a2, a3, a4⟩ := isP_t h1
    obtain ⟨r1, r2⟩ := rk_b h1
    have en : nx n l = ((rk (n, l) - 27 + 1) / 27 + 1, (rk (n, l) - 27 + 1) % 27) := by unfold nx iof; ext <;> simp only <;> omega
    cases h2 : isP (nx n l).1 (nx n l).2
    · have e : nxB n l = false := by simp [nxB, h2]
      rw [show nxV n l = (0, 0) by simp [nxV, e], e]
      rw [en] at h2
      have H := Lib.hid h1
      have H2 := Lib.hid h2
      clear h1 h2 e en
      go_enter Try.func67, Try.ntmps67
      go_wp2_with (first | (go_at_call_of 58 (Value.int .i64 n); refine (Try.iIsPlate _ _ _ H.out _).mono ?_; rintro e w1 ⟨rfl, hbW⟩; have hcW := (bcell hbW.below).1; have hfW := (bcell hbW.below).2; (try have hzW : w.heap.size < w1.heap.size := by have hq := hbW.below.size; (try simp at hq); omega); (try have hyW : w.heap.size + 1 < w1.heap.size := by have hq := hbW.below.size; (try simp at hq); omega); (try have hxW : w.heap.size + 2 < w1.heap.size := by have hq := hbW.below.size; (try simp at hq); omega)) | (go_at_call 86; refine (Try.rankOfPlate _ _ (by omega) (by omega) (by omega) (by omega) _).mono ?_; rintro e w1 ⟨rfl, hbW⟩; have hcW := (bcell hbW.below).1; have hfW := (bcell hbW.below).2; (try have hzW : w.heap.size < w1.heap.size := by have hq := hbW.below.size; (try simp at hq); omega); (try have hyW : w.heap.size + 1 < w1.heap.size := by have hq := hbW.below.size; (try simp at hq); omega); (try have hxW : w.heap.size + 2 < w1.heap.size := by have hq := hbW.below.size; (try simp at hq); omega)) | (go_at_call 85; refine (Try.plateWithRank _ (by omega) (by omega) _).mono ?_; rintro e w1 ⟨rfl, hbW⟩; have hcW := (bcell hbW.below).1; have hfW := (bcell hbW.below).2; (try have hzW : w.heap.size < w1.heap.size := by have hq := hbW.below.size; (try simp at hq); omega); (try have hyW : w.heap.size + 1 < w1.heap.size := by have hq := hbW.below.size; (try simp at hq); omega); (try have hxW : w.heap.size + 2 < w1.heap.size := by have hq := hbW.below.size; (try simp at hq); omega)) | (go_at_call 58; refine (Try.iIsPlate _ _ _ H2.out _).mono ?_; rintro e w1 ⟨rfl, hbW⟩; have hcW := (bcell hbW.below).1; have hfW := (bcell hbW.below).2; (try have hzW : w.heap.size < w1.heap.size := by have hq := hbW.below.size; (try simp at hq); omega); (try have hyW : w.heap.size + 1 < w1.heap.size := by have hq := hbW.below.size; (try simp at hq); omega); (try have hxW : w.heap.size + 2 < w1.heap.size := by have hq := hbW.below.size; (try simp at hq); omega)))
      exact bodyPost_ret (v := .tuple #[.agg #[.int .i64 0, .int .i64 0], .bool false]) (by simp [results, Try.results67, go_sem, *]) rfl ⟨rfl, by repeat (first | exact Gr.refl _ | refine Gr.alloc ?_ _ | refine Gr.trans ?_ (by assumption) | refine Gr.drew ?_ | refine Gr.drewN ?_ _ | refine Gr.grow ?_ _ | refine Gr.setCell ?_ (by (try simp); (try omega)) _)⟩
    · have e : nxB n l = true := by simp [nxB, h1, h2]
      rw [show nxV n l = ((rk (n, l) - 27 + 1) / 27 + 1, (rk (n, l) - 27 + 1) % 27) by simp [nxV, e, en], e]
      rw [en] at h2
      have H := Lib.hid h1
      have H2 := Lib.hid h2
      clear h1 h2 e en
      go_enter Try.func67, Try.ntmps67
      go_wp2_with (first | (go_at_call_of 58 (Value.int .i64 n); refine (Try.iIsPlate _ _ _ H.out _).mono ?_; rintro e w1 ⟨rfl, hbW⟩; have hcW := (bcell hbW.below).1; have hfW := (bcell hbW.below).2; (try have hzW : w.heap.size < w1.heap.size := by have hq := hbW.below.size; (try simp at hq); omega); (try have hyW : w.heap.size + 1 < w1.heap.size := by have hq := hbW.below.size; (try simp at hq); omega); (try have hxW : w.heap.size + 2 < w1.heap.size := by have hq := hbW.below.size; (try simp at hq); omega)) | (go_at_call 86; refine (Try.rankOfPlate _ _ (by omega) (by omega) (by omega) (by omega) _).mono ?_; rintro e w1 ⟨rfl, hbW⟩; have hcW := (bcell hbW.below).1; have hfW := (bcell hbW.below).2; (try have hzW : w.heap.size < w1.heap.size := by have hq := hbW.below.size; (try simp at hq); omega); (try have hyW : w.heap.size + 1 < w1.heap.size := by have hq := hbW.below.size; (try simp at hq); omega); (try have hxW : w.heap.size + 2 < w1.heap.size := by have hq := hbW.below.size; (try simp at hq); omega)) | (go_at_call 85; refine (Try.plateWithRank _ (by omega) (by omega) _).mono ?_; rintro e w1 ⟨rfl, hbW⟩; have hcW := (bcell hbW.below).1; have hfW := (bcell hbW.below).2; (try have hzW : w.heap.size < w1.heap.size := by have hq := hbW.below.size; (try simp at hq); omega); (try have hyW : w.heap.size + 1 < w1.heap.size := by have hq := hbW.below.size; (try simp at hq); omega); (try have hxW : w.heap.size + 2 < w1.heap.size := by have hq := hbW.below.size; (try simp at hq); omega)) | (go_at_call 58; refine (Try.iIsPlate _ _ _ H2.out _).mono ?_; rintro e w1 ⟨rfl, hbW⟩; have hcW := (bcell hbW.below).1; have hfW := (bcell hbW.below).2; (try have hzW : w.heap.size < w1.heap.size := by have hq := hbW.below.size; (try simp at hq); omega); (try have hyW : w.heap.size + 1 < w1.heap.size := by have hq := hbW.below.size; (try simp at hq); omega); (try have hxW : w.heap.size + 2 < w1.heap.size := by have hq := hbW.below.size; (try simp at hq); omega)))
      exact bodyPost_ret (v := .tuple #[.agg #[.int .i64 ((rk (n, l) - 27 + 1) / 27 + 1), .int .i64 ((rk (n, l) - 27 + 1) % 27)], .bool true]) (by simp [results, Try.results67, go_sem, *]) rfl ⟨rfl, by repeat (first | exact Gr.refl _ | refine Gr.alloc ?_ _ | refine Gr.trans ?_ (by assumption) | refine Gr.drew ?_ | refine Gr.drewN ?_ _ | refine Gr.grow ?_ _ | refine Gr.setCell ?_ (by (try simp); (try omega)) _)⟩
def cbB (a b c d : Int) : Bool := ok2 a b c d && decide (rk (a, b) < rk (c, d))
def cbV (a b c d : Int) : Int := if cbB a b c d then rk (c, d) - rk (a, b) - 1 else 0
end Go.Proofs
