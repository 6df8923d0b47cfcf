/-
  Contracts of chapter 6: a corner of ways that a list tells, both sides.
-/
import Derived.Test.YtkhjjafeoijaaabDoorOwK
import Derived.Test.YtkhjjafeoijaaabDoorAvLc
namespace Go.Proofs
open Go.RowKit Av
set_option linter.unusedVariables false
set_option linter.unusedSimpArgs false
set_option maxRecDepth 100000 in
set_option maxHeartbeats 1600000 in
theorem Tryd.owCorner (w : World) (s a : ByteArray) (hs : 2 ≤ s.size ∧ s.size ≤ 8) (ha : 2 ≤ a.size ∧ a.size ≤ 8) (Bl : Nat) (la : Value) (xs : List Int) (v : Bool) (hv : isC a.size s.size xs = v) (hla : OwnI w Bl la xs) :
    Calls Tryd.prog 22 #[.agg #[.string s, .string a], la] w fun e w' => e = .returned (.bool v) ∧ Gr w w' := by
  have mixed : Tryd.prog.follows .mixedOrders = true := by kernel_rfl
  have q0 := gr_all (Gr.refl (w.alloc (.cells #[.string s, .string a] 28))) (a := ⟨w.heap.size, 0, none⟩) (v := .string s) (by simp [go_sem])
  have q1 := gr_all (Gr.refl (w.alloc (.cells #[.string s, .string a] 28))) (a := ⟨w.heap.size, 1, none⟩) (v := .string a) (by simp [go_sem])
  have zs : (s.size : Int) ≤ 8 := by omega
  have za : (a.size : Int) ≤ 8 := by omega
  have zs2 : (2 : Int) ≤ (s.size : Int) := by omega
  have za2 : (2 : Int) ≤ (a.size : Int) := by omega
  by_cases hl : xs.length = 2
  · obtain ⟨x, y, rfl⟩ := len_two hl
    rcases hla.view with ⟨hx, _⟩ | ⟨_, gl, cl, rfl, _, gl2, _, _, _⟩
    · cases hx
    obtain ⟨l0, _⟩ := hla.at rfl 0 (by simp)
    obtain ⟨l1, _⟩ := hla.at rfl 1 (by simp)
    simp only [List.getD_cons_zero, List.getD_cons_succ, List.length_cons, List.length_nil, Nat.zero_add, Nat.reduceAdd] at l0 l1 ⊢
    have r0 := gr_all (Gr.alloc (Gr.refl _) (.cells #[.string s, .string a] 28)) l0
    have r1 := gr_all (Gr.alloc (Gr.refl _) (.cells #[.string s, .string a] 28)) l1
    rw [isC_two, onB_inn] at hv
    subst hv
    clear hla l0 l1 hl
    cases h1 : inn x 0 (a.size - 1)
    · have H1 := Lib.hid h1
      clear h1
      go_enter Tryd.func22, Tryd.ntmps22
      go_wp2
      (refine wp_region_quiet_grown mixed (by kernel_rfl) ?_; (repeat (first | go_big_quiet_step ((first | (go_at_call 43; exact Calls.grown_of (same_gr (Tryd.l1In _ _ _ _ H1.out _))))) | quiet_step ((first | (go_at_call 43; exact Calls.grown_of (same_gr (Tryd.l1In _ _ _ _ H1.out _))))))); refine wpQuiet_nil ?_; intro _ hw'; obtain ⟨⟨nq, osq⟩, hw''⟩ := hw'; subst hw'')
      go_wp2
      go_ret
      exact ⟨rfl, by repeat (first | exact Gr.refl _ | refine Gr.alloc ?_ _ | refine Gr.trans ?_ (by assumption) | refine Gr.drew ?_ | refine Gr.drewN ?_ _ | refine Gr.grow ?_ _ | refine Gr.setCell ?_ (by (try simp); (try omega)) _)⟩
    · cases h2 : inn y 0 (s.size - 1)
      all_goals
        have H1 := Lib.hid h1
        have H2 := Lib.hid h2
        clear h1 h2
        go_enter Tryd.func22, Tryd.ntmps22
        go_wp2
        (refine wp_region_quiet_grown mixed (by kernel_rfl) ?_; (repeat (first | go_big_quiet_step ((first | (go_at_call_of 43 (Value.int .i64 x); exact Calls.grown_of (same_gr (Tryd.l1In _ _ _ _ H1.out _))) | (go_at_call_of 43 (Value.int .i64 y); exact Calls.grown_of (same_gr (Tryd.l1In _ _ _ _ H2.out _))))) | quiet_step ((first | (go_at_call_of 43 (Value.int .i64 x); exact Calls.grown_of (same_gr (Tryd.l1In _ _ _ _ H1.out _))) | (go_at_call_of 43 (Value.int .i64 y); exact Calls.grown_of (same_gr (Tryd.l1In _ _ _ _ H2.out _))))))); refine wpQuiet_nil ?_; intro _ hw'; obtain ⟨⟨nq, osq⟩, hw''⟩ := hw'; subst hw'')
        go_wp2
        go_ret
        exact ⟨rfl, by repeat (first | exact Gr.refl _ | refine Gr.alloc ?_ _ | refine Gr.trans ?_ (by assumption) | refine Gr.drew ?_ | refine Gr.drewN ?_ _ | refine Gr.grow ?_ _ | refine Gr.setCell ?_ (by (try simp); (try omega)) _)⟩
  · rw [isC_len hl] at hv
    subst hv
    obtain ⟨A1, c1, rfl⟩ := hla.form
    have z : ¬ (xs.length : Int) = 2 := by omega
    clear hla
    go_enter Tryd.func22, Tryd.ntmps22
    go_wp2
    (refine wp_region_quiet_grown mixed (by kernel_rfl) ?_; (repeat (first | go_big_quiet_step ((fail)) | quiet_step ((fail)))); refine wpQuiet_nil ?_; intro _ hw'; obtain ⟨⟨nq, osq⟩, hw''⟩ := hw'; subst hw'')
    go_wp2
    go_ret
    exact ⟨rfl, by repeat (first | exact Gr.refl _ | refine Gr.alloc ?_ _ | refine Gr.trans ?_ (by assumption) | refine Gr.drew ?_ | refine Gr.drewN ?_ _ | refine Gr.grow ?_ _ | refine Gr.setCell ?_ (by (try simp); (try omega)) _)⟩
set_option maxRecDepth 100000 in
set_option maxHeartbeats 1600000 in
theorem Tryd.cornerOfWays (w : World) (s a : ByteArray) (hs : s.size ≤ maxLen) (ha : a.size ≤ maxLen) (Ba : Nat) (la : Value) (xs : List Int) (b1 b2 : Bool) (h1 : okW s a = b1) (h2 : isC a.size s.size xs = b2) (hla : OwnI w Ba la xs) :
    Calls Tryd.prog 25 #[.agg #[.string s, .string a], la] w fun e w' => e = .returned (.tuple #[coV (b1 && b2) xs, .bool (b1 && b2)]) ∧ Gr w w' := by
  have HA := Lib.hid (fun (X : World) => Tryd.iAreWays X s a hs ha b1 h1)
  have HY := Lib.hid (fun (W : World) => Tryd.city W s a)
  cases b1
  · clear hla h1 h2 hs ha
    simp only [Bool.false_and]
    go_enter Tryd.func25, Tryd.ntmps25
    go_wp2_with (first | (go_at_call 44; refine (HA.out _).mono ?_; rintro e w1 ⟨rfl, hbW⟩; have hcW := (bcell hbW.below).1; have hfW := (bcell hbW.below).2; (try have hzW : w.heap.size < w1.heap.size := by have hq := hbW.below.size; (try simp at hq); omega); (try have hyW : w.heap.size + 1 < w1.heap.size := by have hq := hbW.below.size; (try simp at hq); omega); (try have hxW : w.heap.size + 2 < w1.heap.size := by have hq := hbW.below.size; (try simp at hq); omega)))
    obtain ⟨q0, q1⟩ := resSet (w := w) hbW (.int .i64 0) (.int .i64 0)
    refine bodyPost_ret (v := .tuple #[coV false xs, .bool false]) ?_ rfl ⟨rfl, ?_⟩
    · simp [results, Tryd.results25, go_sem, q0, q1, coV, coX, coY]
    · exact by repeat (first | exact Gr.refl _ | refine Gr.alloc ?_ _ | refine Gr.trans ?_ (by assumption) | refine Gr.drew ?_ | refine Gr.drewN ?_ _ | refine Gr.grow ?_ _ | refine Gr.setCell ?_ (by (try simp); (try omega)) _)
  · have l1 := okT_len (okW_and h1).1
    have l2 := okT_len (okW_and h1).2
    have hok : okB a.size s.size [] = true := by unfold okB; exact decide_eq_true ⟨by omega, by omega, by omega, by omega, by simp, by simp, List.Pairwise.nil⟩
    have HC := Lib.hid (fun (X : World) (g : Gr w X) => Tryd.cornerOf X a.size s.size 0 (.slice none 0 0) [] Ba la xs true b2 hok h2 (by decide) (OwnE.nil _ _ _ _ _) (hla.gr g))
    simp only [Bool.true_and] at HC ⊢
    unfold coV at HC ⊢
    generalize coX b2 xs = x1 at *
    generalize coY b2 xs = y1 at *
    clear hla h1 h2 hs ha l1 l2 hok
    go_enter Tryd.func25, Tryd.ntmps25
    go_wp2_with (first | (go_at_call 44; refine (HA.out _).mono ?_; rintro e w1 ⟨rfl, hbW⟩; have hcW := (bcell hbW.below).1; have hfW := (bcell hbW.below).2; (try have hzW : w.heap.size < w1.heap.size := by have hq := hbW.below.size; (try simp at hq); omega); (try have hyW : w.heap.size + 1 < w1.heap.size := by have hq := hbW.below.size; (try simp at hq); omega); (try have hxW : w.heap.size + 2 < w1.heap.size := by have hq := hbW.below.size; (try simp at hq); omega)) | (go_at_call 38; refine (HY.out _).mono ?_; rintro e w1 ⟨rfl, hbW⟩; have hcW := (bcell hbW.below).1; have hfW := (bcell hbW.below).2; (try have hzW : w.heap.size < w1.heap.size := by have hq := hbW.below.size; (try simp at hq); omega); (try have hyW : w.heap.size + 1 < w1.heap.size := by have hq := hbW.below.size; (try simp at hq); omega); (try have hxW : w.heap.size + 2 < w1.heap.size := by have hq := hbW.below.size; (try simp at hq); omega)) | (go_at_call 45; refine (HC.out _ (by repeat (first | exact Gr.refl _ | refine Gr.alloc ?_ _ | refine Gr.trans ?_ (by assumption) | refine Gr.drew ?_ | refine Gr.drewN ?_ _ | refine Gr.grow ?_ _ | refine Gr.setCell ?_ (by (try simp); (try omega)) _))).mono ?_; rintro e w1 ⟨rfl, hbW⟩; have hcW := (bcell hbW.below).1; have hfW := (bcell hbW.below).2; (try have hzW : w.heap.size < w1.heap.size := by have hq := hbW.below.size; (try simp at hq); omega); (try have hyW : w.heap.size + 1 < w1.heap.size := by have hq := hbW.below.size; (try simp at hq); omega); (try have hxW : w.heap.size + 2 < w1.heap.size := by have hq := hbW.below.size; (try simp at hq); omega)))
    have g2 : Gr ((w.alloc (.cells #[.string s, .string a] 28)).alloc (.cells #[.int .i64 0, .int .i64 0] 48)) w1 := by repeat (first | assumption | exact Gr.refl _ | refine Gr.trans ?_ (by assumption))
    obtain ⟨q0, q1⟩ := resSet g2 (.int .i64 x1) (.int .i64 y1)
    refine bodyPost_ret (v := .tuple #[.agg #[.int .i64 x1, .int .i64 y1], .bool b2]) ?_ rfl ⟨rfl, ?_⟩
    · simp [results, Tryd.results25, go_sem, q0, q1]
    · exact by repeat (first | exact Gr.refl _ | refine Gr.alloc ?_ _ | refine Gr.trans ?_ (by assumption) | refine Gr.drew ?_ | refine Gr.drewN ?_ _ | refine Gr.grow ?_ _ | refine Gr.setCell ?_ (by (try simp); (try omega)) _)
end Go.Proofs
