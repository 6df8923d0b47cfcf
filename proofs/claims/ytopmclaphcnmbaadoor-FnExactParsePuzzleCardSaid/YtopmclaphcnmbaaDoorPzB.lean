/-
  Chapter 9: what clues are, both sides (spec.pzStreet, pzClue, IsClue; impl.canHide, spansOf, mustBeClue, which panics with what is none).
-/
import Derived.Test.YtopmclaphcnmbaaDoorPzA
namespace Go.Proofs
open Go.RowKit
set_option linter.unusedVariables false
set_option linter.unusedSimpArgs false
set_option maxHeartbeats 400000 in
theorem Tryd.pzStreet (k p : Int) (v : Bool) (h : pst k p = v) (w : World) :
    Calls Tryd.prog 36 #[.agg #[.int .i64 k, .int .i64 p]] w fun e w' => e = .returned (.bool v) ∧ Gr w w' := by
  subst h
  rw [pst_gd]
  cases hg : gd k p
  all_goals
    have H := Lib.hid hg
    clear hg
    go_enter Tryd.func36, Tryd.ntmps36
    go_wp2_with (go_at_call 35; refine (Tryd.nuGood _ _ _ H.out _).mono ?_; rintro e w1 ⟨rfl, hbW⟩; have hcW := (bcell hbW.below).1; have hfW := (bcell hbW.below).2; (try have hzW : w.heap.size < w1.heap.size := by have hq := hbW.below.size; (try simp at hq); omega); (try have hyW : w.heap.size + 1 < w1.heap.size := by have hq := hbW.below.size; (try simp at hq); omega); (try have hxW : w.heap.size + 2 < w1.heap.size := by have hq := hbW.below.size; (try simp at hq); omega))
    go_ret
    exact ⟨by simp, by repeat (first | exact Gr.refl _ | refine Gr.alloc ?_ _ | refine Gr.trans ?_ (by assumption) | refine Gr.drew ?_ | refine Gr.drewN ?_ _ | refine Gr.grow ?_ _ | refine Gr.setCell ?_ (by (try simp); (try omega)) _)⟩
set_option maxHeartbeats 400000 in
theorem Tryd.canHide (k p : Int) (v : Bool) (h : pst k p = v) (w : World) :
    Calls Tryd.prog 48 #[.agg #[.int .i64 k, .int .i64 p]] w fun e w' => e = .returned (.bool v) ∧ Gr w w' := by
  subst h
  rw [pst_gd]
  cases hg : gd k p
  all_goals
    have H := Lib.hid hg
    clear hg
    go_enter Tryd.func48, Tryd.ntmps48
    go_wp2_with (go_at_call 44; refine (Tryd.iIsStreet _ _ _ H.out _).mono ?_; rintro e w1 ⟨rfl, hbW⟩; have hcW := (bcell hbW.below).1; have hfW := (bcell hbW.below).2; (try have hzW : w.heap.size < w1.heap.size := by have hq := hbW.below.size; (try simp at hq); omega); (try have hyW : w.heap.size + 1 < w1.heap.size := by have hq := hbW.below.size; (try simp at hq); omega); (try have hxW : w.heap.size + 2 < w1.heap.size := by have hq := hbW.below.size; (try simp at hq); omega))
    go_ret
    exact ⟨by simp, by repeat (first | exact Gr.refl _ | refine Gr.alloc ?_ _ | refine Gr.trans ?_ (by assumption) | refine Gr.drew ?_ | refine Gr.drewN ?_ _ | refine Gr.grow ?_ _ | refine Gr.setCell ?_ (by (try simp); (try omega)) _)⟩
set_option maxHeartbeats 800000 in
theorem Tryd.pzClue (x y z : Int) (v : Bool) (h : cok (x, y, z) = v) (w : World) :
    Calls Tryd.prog 37 #[.agg #[.int .i64 x, .int .i64 y, .int .i64 z]] w fun e w' => e = .returned (.bool v) ∧ Gr w w' := by
  subst h
  have key : ∀ q : Bool, q = cok (x, y, z) → (Ending.returned (.bool q) = .returned (.bool (cok (x, y, z)))) := fun q e => by rw [e]
  have KEY := Lib.hid key
  clear key
  go_enter Tryd.func37, Tryd.ntmps37
  go_wp2_with (first | (go_at_call 34; refine (Tryd.l1In _ _ _ _).mono ?_; rintro e w1 ⟨rfl, rfl⟩))
  all_goals go_ret
  all_goals refine ⟨KEY.out _ ?_, by repeat (first | exact Gr.refl _ | refine Gr.alloc ?_ _ | refine Gr.trans ?_ (by assumption) | refine Gr.drew ?_ | refine Gr.drewN ?_ _ | refine Gr.grow ?_ _ | refine Gr.setCell ?_ (by (try simp); (try omega)) _)⟩
  all_goals clear KEY
  all_goals
    simp only [inn, beq_iff_eq, beq_eq_false_iff_ne, ne_eq, decide_eq_true_eq] at *
    unfold cok
    simp only
    (repeat (first | rw [if_pos (by omega)] | rw [if_neg (by omega)]))
    (try first | rfl | exact decide_eq_decide.2 (by omega) | exact (decide_eq_false (by omega)).symm)
set_option maxHeartbeats 400000 in
theorem Tryd.spanHas (a b n : Int) (v : Bool) (h : inn n a b = v) (w : World) :
    Calls Tryd.prog 74 #[.agg #[.int .i64 a, .int .i64 b], .int .i64 n] w fun e w' => e = .returned (.bool v) ∧ Gr w w' := by
  have H := Lib.hid h
  clear h
  go_enter Tryd.func74, Tryd.ntmps74
  go_wp2_with (go_at_call 83; refine (Tryd.within_b _ _ _ _ H.out _).mono ?_; rintro e w1 ⟨rfl, rfl⟩)
  go_ret
  exact ⟨rfl, by repeat (first | exact Gr.refl _ | refine Gr.alloc ?_ _ | refine Gr.trans ?_ (by assumption) | refine Gr.drew ?_ | refine Gr.drewN ?_ _ | refine Gr.grow ?_ _ | refine Gr.setCell ?_ (by (try simp); (try omega)) _)⟩
/-- the spans of a clue's numbers -/
def spA (x : Int) : Int × Int := if x = 2 then (2, 9) else if x = 4 then (1, 40) else (0, 0)
def spB (x : Int) : Int × Int := if x = 0 then (0, 1) else if x = 1 then (0, 20) else if x = 2 then (0, 1) else if x = 3 then (1, 13) else if x = 4 then (0, 1) else (0, 40)
theorem cok_spans {x y z : Int} (h0 : 0 ≤ x) (h5 : x ≤ 5) : cok (x, y, z) = (inn y (spA x).1 (spA x).2 && inn z (spB x).1 (spB x).2) := by
  rw [Bool.eq_iff_iff, Bool.and_eq_true]
  unfold cok spA spB inn
  simp only
  rcases (show x = 0 ∨ x = 1 ∨ x = 2 ∨ x = 3 ∨ x = 4 ∨ x = 5 by omega) with rfl | rfl | rfl | rfl | rfl | rfl
  all_goals
    simp only [decide_eq_true_eq, if_true, if_false, Int.reduceEq]
    omega
theorem cok_kinds {x y z : Int} (h : ¬ (0 ≤ x ∧ x ≤ 5)) : cok (x, y, z) = false := by
  cases q : cok (x, y, z)
  · rfl
  · exact absurd (cok_kind q) h
def spV (p : Int × Int) : Value := .agg #[.int .i64 p.1, .int .i64 p.2]
set_option maxHeartbeats 800000 in
theorem Tryd.spansOf (x y z : Int) (h0 : 0 ≤ x) (h5 : x ≤ 5) (w : World) :
    Calls Tryd.prog 73 #[.agg #[.int .i64 x, .int .i64 y, .int .i64 z]] w fun e w' => e = .returned (.tuple #[spV (spA x), spV (spB x)]) ∧ Gr w w' := by
  rcases (show x = 0 ∨ x = 1 ∨ x = 2 ∨ x = 3 ∨ x = 4 ∨ x = 5 by omega) with rfl | rfl | rfl | rfl | rfl | rfl
  all_goals
    go_enter Tryd.func73, Tryd.ntmps73
    go_wp2
    (try (go_region; go_wp2))
    exact bodyPost_ret (v := .tuple #[spV (spA _), spV (spB _)]) (by simp [results, Tryd.results73, go_sem, spV, spA, spB]) rfl ⟨rfl, by repeat (first | exact Gr.refl _ | refine Gr.alloc ?_ _ | refine Gr.trans ?_ (by assumption) | refine Gr.drew ?_ | refine Gr.drewN ?_ _ | refine Gr.grow ?_ _ | refine Gr.setCell ?_ (by (try simp); (try omega)) _)⟩
def noC (x y z : Int) : PanicEntry := { v := .iface 87 (.agg #[.int .i64 x, .int .i64 y, .int .i64 z]), recovered := false }
set_option maxHeartbeats 800000 in
theorem Tryd.spansOfNo (x y z : Int) (h : ¬ (0 ≤ x ∧ x ≤ 5)) (w : World) :
    Calls Tryd.prog 73 #[.agg #[.int .i64 x, .int .i64 y, .int .i64 z]] w fun e w' => e = .panicked [noC x y z] ∧ Gr w w' := by
  have e0 : (x == 0) = false := by simp; omega
  have e1 : (x == 1) = false := by simp; omega
  have e2 : (x == 2) = false := by simp; omega
  have e3 : (x == 3) = false := by simp; omega
  have e4 : (x == 4) = false := by simp; omega
  have e5 : (x == 5) = false := by simp; omega
  clear h
  go_enter Tryd.func73, Tryd.ntmps73
  go_wp2
  exact ⟨rfl, rfl, by repeat (first | exact Gr.refl _ | refine Gr.alloc ?_ _ | refine Gr.trans ?_ (by assumption) | refine Gr.drew ?_ | refine Gr.drewN ?_ _ | refine Gr.grow ?_ _ | refine Gr.setCell ?_ (by (try simp); (try omega)) _)⟩
set_option maxHeartbeats 800000 in
theorem Tryd.mustBe (x y z : Int) (h : cok (x, y, z) = true) (w : World) :
    Calls Tryd.prog 65 #[.agg #[.int .i64 x, .int .i64 y, .int .i64 z]] w fun e w' => e = .returned (.tuple #[]) ∧ Gr w w' := by
  obtain ⟨h0, h5⟩ := cok_kind h
  rw [cok_spans h0 h5, Bool.and_eq_true] at h
  have H := Lib.hid h.1
  have H2 := Lib.hid h.2
  have SP := Lib.hid (fun (w : World) => Tryd.spansOf x y z h0 h5 w)
  unfold spV at SP
  generalize (spA x).1 = a1 at *
  generalize (spA x).2 = a2 at *
  generalize (spB x).1 = b1 at *
  generalize (spB x).2 = b2 at *
  clear h h0 h5
  go_enter Tryd.func65, Tryd.ntmps65
  go_wp2_with (first | (go_at_call 73; refine (SP.out _).mono ?_; rintro e w1 ⟨rfl, hbW⟩; have hcW := (bcell hbW.below).1; have hfW := (bcell hbW.below).2; (try have hzW : w.heap.size < w1.heap.size := by have hq := hbW.below.size; (try simp at hq); omega); (try have hyW : w.heap.size + 1 < w1.heap.size := by have hq := hbW.below.size; (try simp at hq); omega); (try have hxW : w.heap.size + 2 < w1.heap.size := by have hq := hbW.below.size; (try simp at hq); omega)) | (go_at_call_of 74 (Value.agg #[Value.int .i64 a1, Value.int .i64 a2]); refine (Tryd.spanHas _ _ _ _ H.out _).mono ?_; rintro e w2 ⟨rfl, hbW2⟩; have hcW2 := (bcell hbW2.below).1; have hzW2 : w.heap.size < w1.heap.size + 1 + 1 := (by omega)) | (go_at_call_of 74 (Value.agg #[Value.int .i64 b1, Value.int .i64 b2]); refine (Tryd.spanHas _ _ _ _ H2.out _).mono ?_; rintro e w3 ⟨rfl, hbW3⟩; have hcW3 := (bcell hbW3.below).1))
  refine bodyPost_end (results_none rfl _ _ _) rfl ?_
  exact ⟨rfl, by repeat (first | exact Gr.refl _ | refine Gr.alloc ?_ _ | refine Gr.trans ?_ (by assumption) | refine Gr.drew ?_ | refine Gr.drewN ?_ _ | refine Gr.grow ?_ _ | refine Gr.setCell ?_ (by (try simp); (try omega)) _)⟩
set_option maxHeartbeats 800000 in
theorem Tryd.mustBeNo (x y z : Int) (h : cok (x, y, z) = false) (w : World) :
    Calls Tryd.prog 65 #[.agg #[.int .i64 x, .int .i64 y, .int .i64 z]] w fun e w' => e = .panicked [noC x y z] ∧ Gr w w' := by
  by_cases hk : 0 ≤ x ∧ x ≤ 5
  · obtain ⟨h0, h5⟩ := hk
    rw [cok_spans h0 h5] at h
    have SP := Lib.hid (fun (w : World) => Tryd.spansOf x y z h0 h5 w)
    unfold spV at SP
    generalize (spA x).1 = a1 at *
    generalize (spA x).2 = a2 at *
    generalize (spB x).1 = b1 at *
    generalize (spB x).2 = b2 at *
    cases h1 : inn y a1 a2
    · have H := Lib.hid h1
      clear h h0 h5 h1
      go_enter Tryd.func65, Tryd.ntmps65
      go_wp2_with (first | (go_at_call 73; refine (SP.out _).mono ?_; rintro e w1 ⟨rfl, hbW⟩; have hcW := (bcell hbW.below).1; have hfW := (bcell hbW.below).2; (try have hzW : w.heap.size < w1.heap.size := by have hq := hbW.below.size; (try simp at hq); omega); (try have hyW : w.heap.size + 1 < w1.heap.size := by have hq := hbW.below.size; (try simp at hq); omega); (try have hxW : w.heap.size + 2 < w1.heap.size := by have hq := hbW.below.size; (try simp at hq); omega)) | (go_at_call_of 74 (Value.agg #[Value.int .i64 a1, Value.int .i64 a2]); refine (Tryd.spanHas _ _ _ _ H.out _).mono ?_; rintro e w2 ⟨rfl, hbW2⟩; have hcW2 := (bcell hbW2.below).1; have hzW2 : w.heap.size < w1.heap.size + 1 + 1 := (by omega)))
      exact ⟨rfl, rfl, by repeat (first | exact Gr.refl _ | refine Gr.alloc ?_ _ | refine Gr.trans ?_ (by assumption) | refine Gr.drew ?_ | refine Gr.drewN ?_ _ | refine Gr.grow ?_ _ | refine Gr.setCell ?_ (by (try simp); (try omega)) _)⟩
    · have H := Lib.hid h1
      have H2 := Lib.hid (show inn z b1 b2 = false by simpa [h1] using h)
      clear h h0 h5 h1
      go_enter Tryd.func65, Tryd.ntmps65
      go_wp2_with (first | (go_at_call 73; refine (SP.out _).mono ?_; rintro e w1 ⟨rfl, hbW⟩; have hcW := (bcell hbW.below).1; have hfW := (bcell hbW.below).2; (try have hzW : w.heap.size < w1.heap.size := by have hq := hbW.below.size; (try simp at hq); omega); (try have hyW : w.heap.size + 1 < w1.heap.size := by have hq := hbW.below.size; (try simp at hq); omega); (try have hxW : w.heap.size + 2 < w1.heap.size := by have hq := hbW.below.size; (try simp at hq); omega)) | (go_at_call_of 74 (Value.agg #[Value.int .i64 a1, Value.int .i64 a2]); refine (Tryd.spanHas _ _ _ _ H.out _).mono ?_; rintro e w2 ⟨rfl, hbW2⟩; have hcW2 := (bcell hbW2.below).1; have hzW2 : w.heap.size < w1.heap.size + 1 + 1 := (by omega)) | (go_at_call_of 74 (Value.agg #[Value.int .i64 b1, Value.int .i64 b2]); refine (Tryd.spanHas _ _ _ _ H2.out _).mono ?_; rintro e w3 ⟨rfl, hbW3⟩; have hcW3 := (bcell hbW3.below).1; have hzW3 : w.heap.size < w2.heap.size := (by have hq := hbW2.below.size; (try simp at hq); omega)))
      exact ⟨rfl, rfl, by repeat (first | exact Gr.refl _ | refine Gr.alloc ?_ _ | refine Gr.trans ?_ (by assumption) | refine Gr.drew ?_ | refine Gr.drewN ?_ _ | refine Gr.grow ?_ _ | refine Gr.setCell ?_ (by (try simp); (try omega)) _)⟩
  · clear h
    go_enter Tryd.func65, Tryd.ntmps65
    go_wp2_with (go_at_call 73; refine (Tryd.spansOfNo _ _ _ hk _).mono ?_; rintro e w1 ⟨rfl, hbW⟩)
    exact ⟨rfl, rfl, by repeat (first | exact Gr.refl _ | refine Gr.alloc ?_ _ | refine Gr.trans ?_ (by assumption) | refine Gr.drew ?_ | refine Gr.drewN ?_ _ | refine Gr.grow ?_ _ | refine Gr.setCell ?_ (by (try simp); (try omega)) _)⟩
end Go.Proofs
