/-
  Chapter 9: what a clue tells of a house, both sides (spec.pzValue, pzFits; impl.clueOf, doesFit).
-/
import Derived.Test.YtokfnhbdncebmabPzD
import Derived.Test.YtokfnhbdncebmabNuC
namespace Go.Proofs
open Go.RowKit
set_option linter.unusedVariables false
set_option linter.unusedSimpArgs false
def oneI (b : Bool) : Int := if b then 1 else 0
set_option maxHeartbeats 400000 in
theorem Try.pzIf (b : Bool) (w : World) :
    Calls Try.prog 49 #[.bool b] w fun e w' => e = .returned (.int .i64 (oneI b)) ∧ w = w' := by
  cases b
  all_goals
    go_enter Try.func49, Try.ntmps49
    go_wp2
    go_ret
    exact ⟨rfl, rfl⟩
set_option maxHeartbeats 400000 in
theorem Try.oneIf (b : Bool) (w : World) :
    Calls Try.prog 43 #[.bool b] w fun e w' => e = .returned (.int .i64 (oneI b)) ∧ w = w' := by
  cases b
  all_goals
    go_enter Try.func43, Try.ntmps43
    go_wp2
    go_ret
    exact ⟨rfl, rfl⟩
/-- what is asked of a house and a clue's kind and number -/
def KindOk (x y : Int) : Prop := 0 ≤ x ∧ x ≤ 5 ∧ (x = 2 → 2 ≤ y ∧ y ≤ 9)
theorem oneI_eq (p : Prop) [Decidable p] : oneI (decide p) = if p then 1 else 0 := by unfold oneI; simp
set_option maxRecDepth 100000 in
set_option maxHeartbeats 1600000 in
theorem Try.pzValue (k p x y n : Int) (w : World) (h0 : 0 ≤ k) (h1 : k ≤ 2) (h2 : 1 ≤ p) (h3 : p ≤ 1000) (h4 : 1 ≤ n) (h5 : n ≤ hs k p) (hk : KindOk x y) :
    Calls Try.prog 39 #[.agg #[.int .i64 k, .int .i64 p], .int .i64 x, .int .i64 y, .int .i64 n] w fun e w' => e = .returned (.int .i64 (pval k p x y n)) ∧ Gr w w' := by
  obtain ⟨q0, q5, q2⟩ := hk
  have hn : n ≤ 2000 := by unfold hs at h5; omega
  have s1 := sdo_bd k p n h4
  have p1 := plo_bd k p n h2 h4 h5
  have NP := Lib.hid (fun (w : World) => Try.nuPlot k p n w h0 h1 h2 h3 h4 h5)
  have NN := Lib.hid (fun (w : World) => Try.nuNumber k p (1 - sdo k p n) (plo k p n) w h0 h1 h2 h3 (by omega) (by omega) p1.1 p1.2)
  obtain ⟨s, hs'⟩ : ∃ s, s = sdo k p n := ⟨_, rfl⟩
  obtain ⟨t, ht'⟩ : ∃ t, t = plo k p n := ⟨_, rfl⟩
  have ev : pval k p x y n = if x = 0 then s else if x = 1 then t else if x = 2 then (if n % y = 0 then 1 else 0) else if x = 3 then n / 10 + n % 10
      else if x = 4 then (if y < n then 1 else 0) else if k = 0 then 0 else num k p (1 - s) t := by rw [hs', ht']; rfl
  rw [ev]
  rw [← hs'] at s1
  rw [← hs', ← ht'] at NP NN
  clear ev hs' ht' p1 h5
  rcases (show x = 0 ∨ x = 1 ∨ x = 2 ∨ x = 3 ∨ x = 4 ∨ x = 5 by omega) with rfl | rfl | rfl | rfl | rfl | rfl
  · clear NN q2
    go_enter Try.func39, Try.ntmps39
    go_wp2_with (first | (go_at_call 48; refine (NP.out _).mono ?_; rintro e w1 ⟨rfl, hbW⟩; have hcW := (bcell hbW.below).1; have hfW := (bcell hbW.below).2; (try have hzW : w.heap.size < w1.heap.size := by have hq := hbW.below.size; (try simp at hq); omega); (try have hyW : w.heap.size + 1 < w1.heap.size := by have hq := hbW.below.size; (try simp at hq); omega); (try have hxW : w.heap.size + 2 < w1.heap.size := by have hq := hbW.below.size; (try simp at hq); omega)))
    go_ret
    exact ⟨rfl, by repeat (first | exact Gr.refl _ | refine Gr.alloc ?_ _ | refine Gr.trans ?_ (by assumption) | refine Gr.drew ?_ | refine Gr.drewN ?_ _ | refine Gr.grow ?_ _ | refine Gr.setCell ?_ (by (try simp); (try omega)) _)⟩
  · clear NN q2
    go_enter Try.func39, Try.ntmps39
    go_wp2_with (first | (go_at_call 48; refine (NP.out _).mono ?_; rintro e w1 ⟨rfl, hbW⟩; have hcW := (bcell hbW.below).1; have hfW := (bcell hbW.below).2; (try have hzW : w.heap.size < w1.heap.size := by have hq := hbW.below.size; (try simp at hq); omega); (try have hyW : w.heap.size + 1 < w1.heap.size := by have hq := hbW.below.size; (try simp at hq); omega); (try have hxW : w.heap.size + 2 < w1.heap.size := by have hq := hbW.below.size; (try simp at hq); omega)))
    go_ret
    exact ⟨rfl, by repeat (first | exact Gr.refl _ | refine Gr.alloc ?_ _ | refine Gr.trans ?_ (by assumption) | refine Gr.drew ?_ | refine Gr.drewN ?_ _ | refine Gr.grow ?_ _ | refine Gr.setCell ?_ (by (try simp); (try omega)) _)⟩
  · obtain ⟨q3, q4⟩ := q2 rfl
    have em : n.tmod y = n % y := Int.tmod_eq_emod_of_nonneg (by omega)
    have ny : ¬ y = 0 := by omega
    have m0 : 0 ≤ n % y := Int.emod_nonneg _ ny
    have m1 : n % y ≤ 2000 := by have := Int.emod_lt_of_pos n (show 0 < y by omega); omega
    have ew : IntKind.i64.wrap (n % y) = n % y := wr64 _ (by omega) (by omega)
    clear NN q2
    go_enter Try.func39, Try.ntmps39
    go_wp2_with (first | (go_at_call 48; refine (NP.out _).mono ?_; rintro e w1 ⟨rfl, hbW⟩; have hcW := (bcell hbW.below).1; have hfW := (bcell hbW.below).2; (try have hzW : w.heap.size < w1.heap.size := by have hq := hbW.below.size; (try simp at hq); omega); (try have hyW : w.heap.size + 1 < w1.heap.size := by have hq := hbW.below.size; (try simp at hq); omega); (try have hxW : w.heap.size + 2 < w1.heap.size := by have hq := hbW.below.size; (try simp at hq); omega)) | (go_at_call 49; refine (Try.pzIf _ _).mono ?_; rintro e w1 ⟨rfl, rfl⟩))
    all_goals
      go_ret
      refine ⟨ri ?_, by repeat (first | exact Gr.refl _ | refine Gr.alloc ?_ _ | refine Gr.trans ?_ (by assumption) | refine Gr.drew ?_ | refine Gr.drewN ?_ _ | refine Gr.grow ?_ _ | refine Gr.setCell ?_ (by (try simp); (try omega)) _)⟩
      clear NP
      (try clear NN)
      first | rfl | (simp [oneI]; done) | (simp [oneI, *]; done) | omega | (simp only [beq_iff_eq, beq_eq_false_iff_ne, ne_eq] at *; omega)
  · clear NN q2
    go_enter Try.func39, Try.ntmps39
    go_wp2_with (first | (go_at_call 48; refine (NP.out _).mono ?_; rintro e w1 ⟨rfl, hbW⟩; have hcW := (bcell hbW.below).1; have hfW := (bcell hbW.below).2; (try have hzW : w.heap.size < w1.heap.size := by have hq := hbW.below.size; (try simp at hq); omega); (try have hyW : w.heap.size + 1 < w1.heap.size := by have hq := hbW.below.size; (try simp at hq); omega); (try have hxW : w.heap.size + 2 < w1.heap.size := by have hq := hbW.below.size; (try simp at hq); omega)))
    all_goals
      go_ret
      refine ⟨ri ?_, by repeat (first | exact Gr.refl _ | refine Gr.alloc ?_ _ | refine Gr.trans ?_ (by assumption) | refine Gr.drew ?_ | refine Gr.drewN ?_ _ | refine Gr.grow ?_ _ | refine Gr.setCell ?_ (by (try simp); (try omega)) _)⟩
      clear NP
      (try clear NN)
      first | rfl | (simp [oneI]; done) | (simp [oneI, *]; done) | omega | (simp only [beq_iff_eq, beq_eq_false_iff_ne, ne_eq] at *; omega)
  · clear NN q2
    go_enter Try.func39, Try.ntmps39
    go_wp2_with (first | (go_at_call 48; refine (NP.out _).mono ?_; rintro e w1 ⟨rfl, hbW⟩; have hcW := (bcell hbW.below).1; have hfW := (bcell hbW.below).2; (try have hzW : w.heap.size < w1.heap.size := by have hq := hbW.below.size; (try simp at hq); omega); (try have hyW : w.heap.size + 1 < w1.heap.size := by have hq := hbW.below.size; (try simp at hq); omega); (try have hxW : w.heap.size + 2 < w1.heap.size := by have hq := hbW.below.size; (try simp at hq); omega)) | (go_at_call 49; refine (Try.pzIf _ _).mono ?_; rintro e w1 ⟨rfl, rfl⟩))
    all_goals
      go_ret
      refine ⟨ri ?_, by repeat (first | exact Gr.refl _ | refine Gr.alloc ?_ _ | refine Gr.trans ?_ (by assumption) | refine Gr.drew ?_ | refine Gr.drewN ?_ _ | refine Gr.grow ?_ _ | refine Gr.setCell ?_ (by (try simp); (try omega)) _)⟩
      clear NP
      (try clear NN)
      first | rfl | (simp [oneI]; done) | (simp [oneI, *]; done) | omega | (simp only [beq_iff_eq, beq_eq_false_iff_ne, ne_eq] at *; omega)
  · clear q2
    go_enter Try.func39, Try.ntmps39
    go_wp2_with (first | (go_at_call 48; refine (NP.out _).mono ?_; rintro e w1 ⟨rfl, hbW⟩; have hcW := (bcell hbW.below).1; have hfW := (bcell hbW.below).2; (try have hzW : w.heap.size < w1.heap.size := by have hq := hbW.below.size; (try simp at hq); omega); (try have hyW : w.heap.size + 1 < w1.heap.size := by have hq := hbW.below.size; (try simp at hq); omega); (try have hxW : w.heap.size + 2 < w1.heap.size := by have hq := hbW.below.size; (try simp at hq); omega)) | (go_at_call 50; refine (NN.out _).mono ?_; rintro e w1 ⟨rfl, hbW⟩; have hcW := (bcell hbW.below).1; have hfW := (bcell hbW.below).2; (try have hzW : w.heap.size < w1.heap.size := by have hq := hbW.below.size; (try simp at hq); omega); (try have hyW : w.heap.size + 1 < w1.heap.size := by have hq := hbW.below.size; (try simp at hq); omega); (try have hxW : w.heap.size + 2 < w1.heap.size := by have hq := hbW.below.size; (try simp at hq); omega)))
    all_goals
      go_ret
      refine ⟨ri ?_, by repeat (first | exact Gr.refl _ | refine Gr.alloc ?_ _ | refine Gr.trans ?_ (by assumption) | refine Gr.drew ?_ | refine Gr.drewN ?_ _ | refine Gr.grow ?_ _ | refine Gr.setCell ?_ (by (try simp); (try omega)) _)⟩
      clear NP
      (try clear NN)
      first | rfl | (simp [oneI]; done) | (simp [oneI, *]; done) | omega | (simp only [beq_iff_eq, beq_eq_false_iff_ne, ne_eq] at *; omega)
set_option maxRecDepth 100000 in
set_option maxHeartbeats 1600000 in
theorem Try.clueOf (k p n x y : Int) (w : World) (h0 : 0 ≤ k) (h1 : k ≤ 2) (h2 : 1 ≤ p) (h3 : p ≤ 1000) (h4 : 1 ≤ n) (h5 : n ≤ hs k p) (hk : KindOk x y) :
    Calls Try.prog 25 #[.agg #[.int .i64 k, .int .i64 p], .int .i64 n, .int .i64 x, .int .i64 y] w fun e w' => e = .returned (.agg #[.int .i64 x, .int .i64 y, .int .i64 (pval k p x y n)]) ∧ Gr w w' := by
  obtain ⟨q0, q5, q2⟩ := hk
  have hn : n ≤ 2000 := by unfold hs at h5; omega
  have ha : asB k p n = true := decide_eq_true (p := Asked k p n) ⟨⟨h0, h1, h2, h3⟩, h4, h5⟩
  have PO := Lib.hid (fun (w : World) => Try.placeOf k p n w h0 h1 h2 h3 h4 h5)
  have OO := Lib.hid (fun (w : World) => Try.iOppositeOf k p n w)
  have eo : opV k p n = if k = 0 then 0 else num k p (1 - sdo k p n) (plo k p n) := by
    unfold opV opB
    rw [ha]
    by_cases hk : k = 0 <;> simp [hk]
  rw [eo] at OO
  have hfd0 : ∀ (w : World) (c d : Int), (Instr.field 68 (.agg #[.int .i64 c, .int .i64 d]) 0).run Try.prog w = .ok (.int .i64 c) w := fun _ _ _ => by kernel_rfl
  have hfd1 : ∀ (w : World) (c d : Int), (Instr.field 68 (.agg #[.int .i64 c, .int .i64 d]) 1).run Try.prog w = .ok (.int .i64 d) w := fun _ _ _ => by kernel_rfl
  obtain ⟨s, hs'⟩ : ∃ s, s = sdo k p n := ⟨_, rfl⟩
  obtain ⟨t, ht'⟩ : ∃ t, t = plo k p n := ⟨_, rfl⟩
  have ev : pval k p x y n = if x = 0 then s else if x = 1 then t else if x = 2 then (if n % y = 0 then 1 else 0) else if x = 3 then n / 10 + n % 10
      else if x = 4 then (if y < n then 1 else 0) else if k = 0 then 0 else num k p (1 - s) t := by rw [hs', ht']; rfl
  have R : ∀ (V : Int) (u : Value) , V = pval k p x y n → u = .int .i64 V → Ending.returned (.agg #[.int .i64 x, .int .i64 y, u]) = .returned (.agg #[.int .i64 x, .int .i64 y, .int .i64 (pval k p x y n)]) := fun V u e e2 => by rw [e2, e]
  rw [← hs', ← ht'] at OO
  rw [← hs', ← ht'] at PO
  generalize (if k = 0 then 0 else num k p (1 - s) t) = ov at *
  generalize opB k p n = ob at OO
  generalize pval k p x y n = pv at *
  have EV := Lib.hid ev
  clear ev hs' ht' h5 eo ha R
  rcases (show x = 0 ∨ x = 1 ∨ x = 2 ∨ x = 3 ∨ x = 4 ∨ x = 5 by omega) with rfl | rfl | rfl | rfl | rfl | rfl
  · clear OO q2
    go_enter Try.func25, Try.ntmps25
    go_wp2_with (first | (go_at_call 42; refine (PO.out _).mono ?_; rintro e w1 ⟨rfl, hbW⟩; have hcW := (bcell hbW.below).1; have hfW := (bcell hbW.below).2; (try have hzW : w.heap.size < w1.heap.size := by have hq := hbW.below.size; (try simp at hq); omega); (try have hyW : w.heap.size + 1 < w1.heap.size := by have hq := hbW.below.size; (try simp at hq); omega); (try have hxW : w.heap.size + 2 < w1.heap.size := by have hq := hbW.below.size; (try simp at hq); omega)))
    have ev := EV.out
    simp at ev
    subst ev
    refine bodyPost_ret (v := .agg #[.int .i64 0, .int .i64 y, .int .i64 _]) ?_ rfl ⟨rfl, ?_⟩
    · simp [results, Try.results25, go_sem, hcW, hfW]
    · exact (by repeat (first | exact Gr.refl _ | refine Gr.alloc ?_ _ | refine Gr.trans ?_ (by assumption) | refine Gr.drew ?_ | refine Gr.drewN ?_ _ | refine Gr.grow ?_ _ | refine Gr.setCell ?_ (by (try simp); (try omega)) _))
  · clear OO q2
    go_enter Try.func25, Try.ntmps25
    go_wp2_with (first | (go_at_call 42; refine (PO.out _).mono ?_; rintro e w1 ⟨rfl, hbW⟩; have hcW := (bcell hbW.below).1; have hfW := (bcell hbW.below).2; (try have hzW : w.heap.size < w1.heap.size := by have hq := hbW.below.size; (try simp at hq); omega); (try have hyW : w.heap.size + 1 < w1.heap.size := by have hq := hbW.below.size; (try simp at hq); omega); (try have hxW : w.heap.size + 2 < w1.heap.size := by have hq := hbW.below.size; (try simp at hq); omega)))
    have ev := EV.out
    simp at ev
    subst ev
    refine bodyPost_ret (v := .agg #[.int .i64 1, .int .i64 y, .int .i64 _]) ?_ rfl ⟨rfl, ?_⟩
    · simp [results, Try.results25, go_sem, hcW, hfW]
    · exact (by repeat (first | exact Gr.refl _ | refine Gr.alloc ?_ _ | refine Gr.trans ?_ (by assumption) | refine Gr.drew ?_ | refine Gr.drewN ?_ _ | refine Gr.grow ?_ _ | refine Gr.setCell ?_ (by (try simp); (try omega)) _))
  · obtain ⟨q3, q4⟩ := q2 rfl
    have em : n.tmod y = n % y := Int.tmod_eq_emod_of_nonneg (by omega)
    have ny : ¬ y = 0 := by omega
    have m0 : 0 ≤ n % y := Int.emod_nonneg _ ny
    have m1 : n % y ≤ 2000 := by have := Int.emod_lt_of_pos n (show 0 < y by omega); omega
    have ew : IntKind.i64.wrap (n % y) = n % y := wr64 _ (by omega) (by omega)
    have hv : pv = oneI (n % y == 0) := by
      have ev := EV.out
      simp at ev
      rw [ev]
      by_cases hm : n % y = 0
      · simp [oneI, hm]
      · have : (n % y == 0) = false := by simp [hm]
        rw [if_neg hm, this]; rfl
    clear OO PO EV q2
    subst hv
    go_enter Try.func25, Try.ntmps25
    go_wp2_with (first | (go_at_call 43; refine (Try.oneIf _ _).mono ?_; rintro e w1 ⟨rfl, rfl⟩))
    refine bodyPost_ret (v := .agg #[.int .i64 2, .int .i64 y, .int .i64 _]) ?_ rfl ⟨rfl, ?_⟩
    · simp [results, Try.results25, go_sem]
    · exact (by repeat (first | exact Gr.refl _ | refine Gr.alloc ?_ _ | refine Gr.trans ?_ (by assumption) | refine Gr.drew ?_ | refine Gr.drewN ?_ _ | refine Gr.grow ?_ _ | refine Gr.setCell ?_ (by (try simp); (try omega)) _))
  · have ev := EV.out
    simp at ev
    subst ev
    have d1 : n.tdiv 10 = n / 10 := Int.tdiv_eq_ediv_of_nonneg (by omega)
    have d2 : n.tmod 10 = n % 10 := Int.tmod_eq_emod_of_nonneg (by omega)
    clear OO PO q2 EV
    go_enter Try.func25, Try.ntmps25
    go_wp2
    refine bodyPost_ret (v := .agg #[.int .i64 3, .int .i64 y, .int .i64 _]) ?_ rfl ⟨rfl, ?_⟩
    · simp [results, Try.results25, go_sem]
    · exact (by repeat (first | exact Gr.refl _ | refine Gr.alloc ?_ _ | refine Gr.trans ?_ (by assumption) | refine Gr.drew ?_ | refine Gr.drewN ?_ _ | refine Gr.grow ?_ _ | refine Gr.setCell ?_ (by (try simp); (try omega)) _))
  · have hv : pv = oneI (decide (y < n)) := by
      have ev := EV.out
      simp at ev
      rw [ev, oneI_eq]
    clear OO PO EV q2
    subst hv
    go_enter Try.func25, Try.ntmps25
    go_wp2_with (first | (go_at_call 43; refine (Try.oneIf _ _).mono ?_; rintro e w1 ⟨rfl, rfl⟩))
    refine bodyPost_ret (v := .agg #[.int .i64 4, .int .i64 y, .int .i64 _]) ?_ rfl ⟨rfl, ?_⟩
    · simp [results, Try.results25, go_sem]
    · exact (by repeat (first | exact Gr.refl _ | refine Gr.alloc ?_ _ | refine Gr.trans ?_ (by assumption) | refine Gr.drew ?_ | refine Gr.drewN ?_ _ | refine Gr.grow ?_ _ | refine Gr.setCell ?_ (by (try simp); (try omega)) _))
  · have ev := EV.out
    simp at ev
    subst ev
    clear q2 PO EV
    go_enter Try.func25, Try.ntmps25
    go_wp2_with (first | (go_at_call 44; refine (OO.out _).mono ?_; rintro e w1 ⟨rfl, hbW⟩; have hcW := (bcell hbW.below).1; have hfW := (bcell hbW.below).2; (try have hzW : w.heap.size < w1.heap.size := by have hq := hbW.below.size; (try simp at hq); omega); (try have hyW : w.heap.size + 1 < w1.heap.size := by have hq := hbW.below.size; (try simp at hq); omega); (try have hxW : w.heap.size + 2 < w1.heap.size := by have hq := hbW.below.size; (try simp at hq); omega)))
    refine bodyPost_ret (v := .agg #[.int .i64 5, .int .i64 y, .int .i64 _]) ?_ rfl ⟨rfl, ?_⟩
    · simp [results, Try.results25, go_sem, hcW, hfW]
    · exact (by repeat (first | exact Gr.refl _ | refine Gr.alloc ?_ _ | refine Gr.trans ?_ (by assumption) | refine Gr.drew ?_ | refine Gr.drewN ?_ _ | refine Gr.grow ?_ _ | refine Gr.setCell ?_ (by (try simp); (try omega)) _))
end Go.Proofs
