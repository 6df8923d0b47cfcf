/-
  Contracts of chapter 2: two plates compared, the next one, how many between, the middle one.
-/
import Derived.Test.YtbnkhmemicmadaaPlC
namespace Go.Proofs
open Go.RowKit Pl
set_option linter.unusedVariables false
set_option linter.unusedSimpArgs false
set_option maxHeartbeats 400000 in
theorem Try.sIsPlate (n l : Int) (v : Bool) (h : isP n l = v) (w : World) :
    Calls Try.prog 31 #[.agg #[.int .i64 n, .int .i64 l]] w fun e w' => e = .returned (.bool v) ∧ Gr w w' := by
  have H := Lib.hid h
  clear h
  go_enter Try.func31, Try.ntmps31
  go_wp2_with (go_at_call 76; refine (Try.isPlate _ _ _ H.out _).mono ?_; rintro e w1 ⟨rfl, hbW⟩; have hcW := (bcell hbW.below).1; have hfW := (bcell hbW.below).2; (try have hzW : w.heap.size < w1.heap.size := by have hq := hbW.below.size; (try simp at hq); omega); (try have hyW : w.heap.size + 1 < w1.heap.size := by have hq := hbW.below.size; (try simp at hq); omega); (try have hxW : w.heap.size + 2 < w1.heap.size := by have hq := hbW.below.size; (try simp at hq); omega))
  go_ret
  exact ⟨rfl, by repeat (first | exact Gr.refl _ | refine Gr.alloc ?_ _ | refine Gr.trans ?_ (by assumption) | refine Gr.drew ?_ | refine Gr.drewN ?_ _ | refine Gr.grow ?_ _ | refine Gr.setCell ?_ (by (try simp); (try omega)) _)⟩
def iof (r : Int) : Int × Int := (r / 27, r % 27)
set_option maxHeartbeats 400000 in
theorem Try.isOf (r : Int) (h1 : 0 ≤ r) (h2 : r ≤ 1000000) (w : World) :
    Calls Try.prog 80 #[.int .i64 r] w fun e w' => e = .returned (.agg #[.int .i64 (iof r).1, .int .i64 (iof r).2]) ∧ Gr w w' := by
  go_enter Try.func80, Try.ntmps80
  go_wp2
  exact bodyPost_ret (v := .agg #[.int .i64 (iof r).1, .int .i64 (iof r).2]) (by simp [results, Try.results80, go_sem]; exact ⟨rfl, rfl⟩) rfl ⟨rfl, by repeat (first | exact Gr.refl _ | refine Gr.alloc ?_ _ | refine Gr.trans ?_ (by assumption) | refine Gr.drew ?_ | refine Gr.drewN ?_ _ | refine Gr.grow ?_ _ | refine Gr.setCell ?_ (by (try simp); (try omega)) _)⟩
set_option maxHeartbeats 400000 in
theorem Try.plateWithRank (r : Int) (h1 : 0 ≤ r) (h2 : r ≤ 1000000) (w : World) :
    Calls Try.prog 81 #[.int .i64 r] w fun e w' => e = .returned (.agg #[.int .i64 (r / 27 + 1), .int .i64 (r % 27)]) ∧ Gr w w' := by
  go_enter Try.func81, Try.ntmps81
  go_wp2
  exact bodyPost_ret (v := .agg #[.int .i64 (r / 27 + 1), .int .i64 (r % 27)]) (by simp [results, Try.results81, go_sem]) rfl ⟨rfl, by repeat (first | exact Gr.refl _ | refine Gr.alloc ?_ _ | refine Gr.trans ?_ (by assumption) | refine Gr.drew ?_ | refine Gr.drewN ?_ _ | refine Gr.grow ?_ _ | refine Gr.setCell ?_ (by (try simp); (try omega)) _)⟩
set_option maxHeartbeats 400000 in
theorem Try.l1Sign (n v : Int) (h : cmpI n 0 = v) (w : World) :
    Calls Try.prog 77 #[.int .i64 n] w fun e w' => e = .returned (.int .i64 v) ∧ w = w' := by
  subst h
  go_enter Try.func77, Try.ntmps77
  go_wp2
  all_goals
    go_ret
    exact ⟨ri (by (try simp only [beq_iff_eq, beq_eq_false_iff_ne, bne_iff_ne, ne_eq, decide_eq_true_eq, decide_eq_false_iff_not] at *); (try unfold cmpI); omega), rfl⟩
def ok2 (a b c d : Int) : Bool := isP a b && isP c d
def cmV (a b c d : Int) : Int := if ok2 a b c d then cmpI (rk (a, b)) (rk (c, d)) else 0
theorem Try.iComparePlates (a b c d : Int) (w : World) :
    Calls Try.prog 35 #[.agg #[.int .i64 a, .int .i64 b], .agg #[.int .i64 c, .int .i64 d]] w fun e w' => e = .returned (.tuple #[.int .i64 (cmV a b c d), .bool (ok2 a b c d)]) ∧ Gr w w' := by
  cases h1 : isP a b
  · have e : ok2 a b c d = false := by simp [ok2, h1]
    rw [show cmV a b c d = 0 by simp [cmV, e], e]
    have H := Lib.hid h1
    clear h1 e
    go_enter Try.func35, Try.ntmps35
    go_wp2_with (go_at_call 33; refine (Try.iIsPlate _ _ _ H.out _).mono ?_; rintro e w1 ⟨rfl, hbW⟩; have hcW := (bcell hbW.below).1; have hfW := (bcell hbW.below).2; (try have hzW : w.heap.size < w1.heap.size := by have hq := hbW.below.size; (try simp at hq); omega); (try have hyW : w.heap.size + 1 < w1.heap.size := by have hq := hbW.below.size; (try simp at hq); omega); (try have hxW : w.heap.size + 2 < w1.heap.size := by have hq := hbW.below.size; (try simp at hq); omega))
    go_ret2
    exact ⟨rfl, by repeat (first | exact Gr.refl _ | refine Gr.alloc ?_ _ | refine Gr.trans ?_ (by assumption) | refine Gr.drew ?_ | refine Gr.drewN ?_ _ | refine Gr.grow ?_ _ | refine Gr.setCell ?_ (by (try simp); (try omega)) _)⟩
  · cases h2 : isP c d
    · have e : ok2 a b c d = false := by simp [ok2, h2]
      rw [show cmV a b c d = 0 by simp [cmV, e], e]
      have H := Lib.hid h1
      have H2 := Lib.hid h2
      clear h1 h2 e
      go_enter Try.func35, Try.ntmps35
      go_wp2_with (first | (go_at_call_of 33 (Value.int .i64 a); refine (Try.iIsPlate _ _ _ H.out _).mono ?_; rintro e w1 ⟨rfl, hbW⟩; have hcW := (bcell hbW.below).1; have hfW := (bcell hbW.below).2; (try have hzW : w.heap.size < w1.heap.size := by have hq := hbW.below.size; (try simp at hq); omega); (try have hyW : w.heap.size + 1 < w1.heap.size := by have hq := hbW.below.size; (try simp at hq); omega); (try have hxW : w.heap.size + 2 < w1.heap.size := by have hq := hbW.below.size; (try simp at hq); omega)) | (go_at_call_of 33 (Value.int .i64 c); refine (Try.iIsPlate _ _ _ H2.out _).mono ?_; rintro e w1 ⟨rfl, hbW⟩; have hcW := (bcell hbW.below).1; have hfW := (bcell hbW.below).2; (try have hzW : w.heap.size < w1.heap.size := by have hq := hbW.below.size; (try simp at hq); omega); (try have hyW : w.heap.size + 1 < w1.heap.size := by have hq := hbW.below.size; (try simp at hq); omega); (try have hxW : w.heap.size + 2 < w1.heap.size := by have hq := hbW.below.size; (try simp at hq); omega)))
      go_ret2
      exact ⟨rfl, by repeat (first | exact Gr.refl _ | refine Gr.alloc ?_ _ | refine Gr.trans ?_ (by assumption) | refine Gr.drew ?_ | refine Gr.drewN ?_ _ | refine Gr.grow ?_ _ | refine Gr.setCell ?_ (by (try simp); (try omega)) _)⟩
    · have e : ok2 a b c d = true := by simp [ok2, h1, h2]
      rw [show cmV a b c d = cmpI (rk (a, b)) (rk (c, d)) by simp [cmV, e], e]
      have H := Lib.hid h1
      have H2 := Lib.hid h2
      clear h1 h2 e
      go_enter Try.func35, Try.ntmps35
      go_wp2_with (first | (go_at_call_of 33 (Value.int .i64 a); refine (Try.iIsPlate _ _ _ H.out _).mono ?_; rintro e w1 ⟨rfl, hbW⟩; have hcW := (bcell hbW.below).1; have hfW := (bcell hbW.below).2; (try have hzW : w.heap.size < w1.heap.size := by have hq := hbW.below.size; (try simp at hq); omega); (try have hyW : w.heap.size + 1 < w1.heap.size := by have hq := hbW.below.size; (try simp at hq); omega); (try have hxW : w.heap.size + 2 < w1.heap.size := by have hq := hbW.below.size; (try simp at hq); omega)) | (go_at_call_of 33 (Value.int .i64 c); refine (Try.iIsPlate _ _ _ H2.out _).mono ?_; rintro e w1 ⟨rfl, hbW⟩; have hcW := (bcell hbW.below).1; have hfW := (bcell hbW.below).2; (try have hzW : w.heap.size < w1.heap.size := by have hq := hbW.below.size; (try simp at hq); omega); (try have hyW : w.heap.size + 1 < w1.heap.size := by have hq := hbW.below.size; (try simp at hq); omega); (try have hxW : w.heap.size + 2 < w1.heap.size := by have hq := hbW.below.size; (try simp at hq); omega)) | (go_at_call 79; refine (Try.comparePlates _ _ _ _ _ H.out H2.out rfl _).mono ?_; rintro e w1 ⟨rfl, hbW⟩; have hcW := (bcell hbW.below).1; have hfW := (bcell hbW.below).2; (try have hzW : w.heap.size < w1.heap.size := by have hq := hbW.below.size; (try simp at hq); omega); (try have hyW : w.heap.size + 1 < w1.heap.size := by have hq := hbW.below.size; (try simp at hq); omega); (try have hxW : w.heap.size + 2 < w1.heap.size := by have hq := hbW.below.size; (try simp at hq); omega)))
      go_ret2
      exact ⟨rfl, by repeat (first | exact Gr.refl _ | refine Gr.alloc ?_ _ | refine Gr.trans ?_ (by assumption) | refine Gr.drew ?_ | refine Gr.drewN ?_ _ | refine Gr.grow ?_ _ | refine Gr.setCell ?_ (by (try simp); (try omega)) _)⟩
theorem Try.sComparePlates (a b c d : Int) (w : World) :
    Calls Try.prog 34 #[.agg #[.int .i64 a, .int .i64 b], .agg #[.int .i64 c, .int .i64 d]] w fun e w' => e = .returned (.tuple #[.int .i64 (cmV a b c d), .bool (ok2 a b c d)]) ∧ Gr w w' := by
  cases h1 : isP a b
  · have e : ok2 a b c d = false := by simp [ok2, h1]
    rw [show cmV a b c d = 0 by simp [cmV, e], e]
    have H := Lib.hid h1
    clear h1 e
    go_enter Try.func34, Try.ntmps34
    go_wp2_with (go_at_call 76; refine (Try.isPlate _ _ _ H.out _).mono ?_; rintro e w1 ⟨rfl, hbW⟩; have hcW := (bcell hbW.below).1; have hfW := (bcell hbW.below).2; (try have hzW : w.heap.size < w1.heap.size := by have hq := hbW.below.size; (try simp at hq); omega); (try have hyW : w.heap.size + 1 < w1.heap.size := by have hq := hbW.below.size; (try simp at hq); omega); (try have hxW : w.heap.size + 2 < w1.heap.size := by have hq := hbW.below.size; (try simp at hq); omega))
    go_ret2
    exact ⟨rfl, by repeat (first | exact Gr.refl _ | refine Gr.alloc ?_ _ | refine Gr.trans ?_ (by assumption) | refine Gr.drew ?_ | refine Gr.drewN ?_ _ | refine Gr.grow ?_ _ | refine Gr.setCell ?_ (by (try simp); (try omega)) _)⟩
  · cases h2 : isP c d
    · have e : ok2 a b c d = false := by simp [ok2, h2]
      rw [show cmV a b c d = 0 by simp [cmV, e], e]
      have H := Lib.hid h1
      have H2 := Lib.hid h2
      clear h1 h2 e
      go_enter Try.func34, Try.ntmps34
      go_wp2_with (first | (go_at_call_of 76 (Value.int .i64 a); refine (Try.isPlate _ _ _ H.out _).mono ?_; rintro e w1 ⟨rfl, hbW⟩; have hcW := (bcell hbW.below).1; have hfW := (bcell hbW.below).2; (try have hzW : w.heap.size < w1.heap.size := by have hq := hbW.below.size; (try simp at hq); omega); (try have hyW : w.heap.size + 1 < w1.heap.size := by have hq := hbW.below.size; (try simp at hq); omega); (try have hxW : w.heap.size + 2 < w1.heap.size := by have hq := hbW.below.size; (try simp at hq); omega)) | (go_at_call_of 76 (Value.int .i64 c); refine (Try.isPlate _ _ _ H2.out _).mono ?_; rintro e w1 ⟨rfl, hbW⟩; have hcW := (bcell hbW.below).1; have hfW := (bcell hbW.below).2; (try have hzW : w.heap.size < w1.heap.size := by have hq := hbW.below.size; (try simp at hq); omega); (try have hyW : w.heap.size + 1 < w1.heap.size := by have hq := hbW.below.size; (try simp at hq); omega); (try have hxW : w.heap.size + 2 < w1.heap.size := by have hq := hbW.below.size; (try simp at hq); omega)))
      go_ret2
      exact ⟨rfl, by repeat (first | exact Gr.refl _ | refine Gr.alloc ?_ _ | refine Gr.trans ?_ (by assumption) | refine Gr.drew ?_ | refine Gr.drewN ?_ _ | refine Gr.grow ?_ _ | refine Gr.setCell ?_ (by (try simp); (try omega)) _)⟩
    · have e : ok2 a b c d = true := by simp [ok2, h1, h2]
      obtain ⟨a1, a2, a3, a4⟩ := isP_t h1
      obtain ⟨c1, c2, c3, c4⟩ := isP_t h2
      obtain ⟨r1, r2⟩ := rk_b h1
      obtain ⟨r3, r4⟩ := rk_b h2
      rw [show cmV a b c d = cmpI (rk (a, b) - rk (c, d)) 0 by simp only [cmV, e, if_true]; unfold cmpI; split <;> split <;> (try split) <;> omega, e]
      have H := Lib.hid h1
      have H2 := Lib.hid h2
      clear h1 h2 e
      have mixed : Try.prog.follows .mixedOrders = true := by kernel_rfl
      go_enter Try.func34, Try.ntmps34
      go_wp2_with (first | (go_at_call_of 76 (Value.int .i64 a); refine (Try.isPlate _ _ _ H.out _).mono ?_; rintro e w1 ⟨rfl, hbW⟩; have hcW := (bcell hbW.below).1; have hfW := (bcell hbW.below).2; (try have hzW : w.heap.size < w1.heap.size := by have hq := hbW.below.size; (try simp at hq); omega); (try have hyW : w.heap.size + 1 < w1.heap.size := by have hq := hbW.below.size; (try simp at hq); omega); (try have hxW : w.heap.size + 2 < w1.heap.size := by have hq := hbW.below.size; (try simp at hq); omega)) | (go_at_call_of 76 (Value.int .i64 c); refine (Try.isPlate _ _ _ H2.out _).mono ?_; rintro e w1 ⟨rfl, hbW⟩; have hcW := (bcell hbW.below).1; have hfW := (bcell hbW.below).2; (try have hzW : w.heap.size < w1.heap.size := by have hq := hbW.below.size; (try simp at hq); omega); (try have hyW : w.heap.size + 1 < w1.heap.size := by have hq := hbW.below.size; (try simp at hq); omega); (try have hxW : w.heap.size + 2 < w1.heap.size := by have hq := hbW.below.size; (try simp at hq); omega)))
      obtain ⟨b0, b1, b2, b3⟩ := boxesG (w := w) (W := w1) (a := .int .i64 a) (b := .int .i64 b) (c := .int .i64 c) (d := .int .i64 d) (t := 45) (t2 := 45) (by repeat (first | exact Gr.refl _ | refine Gr.alloc ?_ _ | refine Gr.trans ?_ (by assumption) | refine Gr.drew ?_ | refine Gr.drewN ?_ _ | refine Gr.grow ?_ _ | refine Gr.setCell ?_ (by (try simp); (try omega)) _))
      have q1 : IntKind.i64.wrap (rk (a, b) - rk (c, d)) = rk (a, b) - rk (c, d) := IntWalk.i64_in _ (by omega)
      (refine wp_region_quiet_grown mixed (by kernel_rfl) ?_; (repeat (first | go_big_quiet_step ((first | (go_at_call 78; exact Calls.grown_of (Try.isRank _ _ (by omega) (by omega) (by omega) (by omega) _)) | (go_at_call 77; exact Calls.grown_of (same_gr (Try.l1Sign _ _ rfl _))))) | quiet_step ((first | (go_at_call 78; exact Calls.grown_of (Try.isRank _ _ (by omega) (by omega) (by omega) (by omega) _)) | (go_at_call 77; exact Calls.grown_of (same_gr (Try.l1Sign _ _ rfl _))))))); refine wpQuiet_nil ?_; intro _ hw'; obtain ⟨⟨nq, osq⟩, hw''⟩ := hw'; subst hw'')
      go_wp2
      go_ret2
      exact ⟨rfl, by repeat (first | exact Gr.refl _ | refine Gr.alloc ?_ _ | refine Gr.trans ?_ (by assumption) | refine Gr.drew ?_ | refine Gr.drewN ?_ _ | refine Gr.grow ?_ _ | refine Gr.setCell ?_ (by (try simp); (try omega)) _)⟩
end Go.Proofs
