/-
  Chapter 6: contracts of what ways are, both functions; the laws' small words of ways; the city of ways.
-/
import Derived.Test.YtfdiiichjopncaaDoorOwB
namespace Go.Proofs
open Go.RowKit
set_option linter.unusedVariables false
set_option linter.unusedSimpArgs false
set_option maxHeartbeats 800000 in
theorem Tryd.owGood (w : World) (s a : ByteArray) (hs : s.size ≤ maxLen) (ha : a.size ≤ maxLen) (b : Bool) (hb : okW s a = b) :
    Calls Tryd.prog 14 #[.agg #[.string s, .string a]] w fun e w' => e = .returned (.bool b) ∧ Gr w w' := by
  unfold okW at hb
  cases h1 : okT 101 119 s
  · rw [h1] at hb
    simp only [Bool.false_and] at hb
    subst hb
    have H1 := Lib.hid (fun (W : World) => Tryd.owText W s 101 119 101 119 rfl rfl hs _ h1)
    clear h1 hs ha
    go_enter Tryd.func14, Tryd.ntmps14
    go_wp2_with (first | (go_at_call 20; refine (H1.out _).mono ?_; rintro e w1 ⟨rfl, rfl⟩))
    go_ret
    exact ⟨rfl, by repeat (first | exact Gr.refl _ | refine Gr.alloc ?_ _ | refine Gr.trans ?_ (by assumption) | refine Gr.drew ?_ | refine Gr.drewN ?_ _ | refine Gr.grow ?_ _ | refine Gr.setCell ?_ (by (try simp); (try omega)) _)⟩
  · rw [h1, Bool.true_and] at hb
    have H1 := Lib.hid (fun (W : World) => Tryd.owText W s 101 119 101 119 rfl rfl hs _ h1)
    have H2 := Lib.hid (fun (W : World) => Tryd.owText W a 110 115 110 115 rfl rfl ha _ hb)
    clear h1 hb hs ha
    go_enter Tryd.func14, Tryd.ntmps14
    go_wp2_with (first | (go_at_call_of 20 (Value.string s); refine (H1.out _).mono ?_; rintro e w1 ⟨rfl, rfl⟩))
    all_goals (go_wp2_with (first | (go_at_call 20; refine (H2.out _).mono ?_; rintro e w1 ⟨rfl, rfl⟩)))
    all_goals
      go_ret
      exact ⟨rfl, by repeat (first | exact Gr.refl _ | refine Gr.alloc ?_ _ | refine Gr.trans ?_ (by assumption) | refine Gr.drew ?_ | refine Gr.drewN ?_ _ | refine Gr.grow ?_ _ | refine Gr.setCell ?_ (by (try simp); (try omega)) _)⟩
set_option maxHeartbeats 800000 in
theorem Tryd.iAreWays (w : World) (s a : ByteArray) (hs : s.size ≤ maxLen) (ha : a.size ≤ maxLen) (b : Bool) (hb : okW s a = b) :
    Calls Tryd.prog 22 #[.agg #[.string s, .string a]] w fun e w' => e = .returned (.bool b) ∧ Gr w w' := by
  unfold okW at hb
  cases h1 : okT 101 119 s
  · rw [h1] at hb
    simp only [Bool.false_and] at hb
    subst hb
    have H1 := Lib.hid (fun (W : World) => Tryd.areSigns W s 101 119 (by decide) (by decide) hs _ h1)
    clear h1 hs ha
    go_enter Tryd.func22, Tryd.ntmps22
    go_wp2_with (first | (go_at_call 28; refine (H1.out _).mono ?_; rintro e w1 ⟨rfl, hbW⟩; have hcW := (bcell hbW.below).1; have hfW := (bcell hbW.below).2; (try have hzW : w.heap.size < w1.heap.size := by have hq := hbW.below.size; (try simp at hq); omega); (try have hyW : w.heap.size + 1 < w1.heap.size := by have hq := hbW.below.size; (try simp at hq); omega); (try have hxW : w.heap.size + 2 < w1.heap.size := by have hq := hbW.below.size; (try simp at hq); omega)))
    go_ret
    exact ⟨rfl, by repeat (first | exact Gr.refl _ | refine Gr.alloc ?_ _ | refine Gr.trans ?_ (by assumption) | refine Gr.drew ?_ | refine Gr.drewN ?_ _ | refine Gr.grow ?_ _ | refine Gr.setCell ?_ (by (try simp); (try omega)) _)⟩
  · rw [h1, Bool.true_and] at hb
    have H1 := Lib.hid (fun (W : World) => Tryd.areSigns W s 101 119 (by decide) (by decide) hs _ h1)
    have H2 := Lib.hid (fun (W : World) => Tryd.areSigns W a 110 115 (by decide) (by decide) ha _ hb)
    clear h1 hb hs ha
    go_enter Tryd.func22, Tryd.ntmps22
    go_wp2_with (first | (go_at_call_of 28 (Value.string s); refine (H1.out _).mono ?_; rintro e w1 ⟨rfl, hbW⟩; have hcW := (bcell hbW.below).1; have hfW := (bcell hbW.below).2; (try have hzW : w.heap.size < w1.heap.size := by have hq := hbW.below.size; (try simp at hq); omega); (try have hyW : w.heap.size + 1 < w1.heap.size := by have hq := hbW.below.size; (try simp at hq); omega); (try have hxW : w.heap.size + 2 < w1.heap.size := by have hq := hbW.below.size; (try simp at hq); omega)))
    all_goals (go_wp2_with (first | (go_at_call 28; refine (H2.out _).mono ?_; rintro e w2 ⟨rfl, hbX⟩)))
    all_goals
      go_ret
      exact ⟨rfl, by repeat (first | exact Gr.refl _ | refine Gr.alloc ?_ _ | refine Gr.trans ?_ (by assumption) | refine Gr.drew ?_ | refine Gr.drewN ?_ _ | refine Gr.grow ?_ _ | refine Gr.setCell ?_ (by (try simp); (try omega)) _)⟩
set_option maxHeartbeats 800000 in
theorem Tryd.toWays (w : World) (s a : ByteArray) :
    Calls Tryd.prog 6 #[.agg #[.string s, .string a]] w fun e w' => e = .returned (.agg #[.string s, .string a]) ∧ Gr w w' := by
  go_enter Tryd.func6, Tryd.ntmps6
  go_wp2
  refine bodyPost_ret (v := .agg #[.string s, .string a]) ?_ rfl ⟨rfl, ?_⟩
  · simp [results, Tryd.results6, go_sem]
  · exact by repeat (first | exact Gr.refl _ | refine Gr.alloc ?_ _ | refine Gr.trans ?_ (by assumption) | refine Gr.drew ?_ | refine Gr.drewN ?_ _ | refine Gr.grow ?_ _ | refine Gr.setCell ?_ (by (try simp); (try omega)) _)
set_option maxHeartbeats 800000 in
theorem Tryd.szWays (w : World) (s a : ByteArray) (hs : s.size ≤ maxLen) (ha : a.size ≤ maxLen) (r : Int) (hr : (if s.size + a.size ≤ 1048576 then 1048576 - (s.size : Int) - (a.size : Int) else -1) = r) :
    Calls Tryd.prog 4 #[.agg #[.string s, .string a], .int .i64 1048576] w fun e w' => e = .returned (.int .i64 r) ∧ Gr w w' := by
  unfold maxLen at hs ha
  by_cases h1 : s.size ≤ 1048576
  · have z1 : ¬ (1048576 : Int) - (s.size : Int) < 0 := by omega
    by_cases h2 : s.size + a.size ≤ 1048576
    · rw [if_pos h2] at hr
      have z2 : ¬ (1048576 : Int) - (s.size : Int) - (a.size : Int) < 0 := by omega
      have HR := Lib.hid hr
      clear hr
      go_enter Tryd.func4, Tryd.ntmps4
      go_wp2
      go_ret
      exact ⟨ri HR.out, by repeat (first | exact Gr.refl _ | refine Gr.alloc ?_ _ | refine Gr.trans ?_ (by assumption) | refine Gr.drew ?_ | refine Gr.drewN ?_ _ | refine Gr.grow ?_ _ | refine Gr.setCell ?_ (by (try simp); (try omega)) _)⟩
    · rw [if_neg h2] at hr
      subst hr
      have z2 : (1048576 : Int) - (s.size : Int) - (a.size : Int) < 0 := by omega
      go_enter Tryd.func4, Tryd.ntmps4
      go_wp2
      go_ret
      exact ⟨rfl, by repeat (first | exact Gr.refl _ | refine Gr.alloc ?_ _ | refine Gr.trans ?_ (by assumption) | refine Gr.drew ?_ | refine Gr.drewN ?_ _ | refine Gr.grow ?_ _ | refine Gr.setCell ?_ (by (try simp); (try omega)) _)⟩
  · rw [if_neg (by omega)] at hr
    subst hr
    have z1 : (1048576 : Int) - (s.size : Int) < 0 := by omega
    go_enter Tryd.func4, Tryd.ntmps4
    go_wp2
    go_ret
    exact ⟨rfl, by repeat (first | exact Gr.refl _ | refine Gr.alloc ?_ _ | refine Gr.trans ?_ (by assumption) | refine Gr.drew ?_ | refine Gr.drewN ?_ _ | refine Gr.grow ?_ _ | refine Gr.setCell ?_ (by (try simp); (try omega)) _)⟩
set_option maxHeartbeats 800000 in
theorem Tryd.city (w : World) (s a : ByteArray) :
    Calls Tryd.prog 24 #[.agg #[.string s, .string a]] w fun e w' => e = .returned (.agg #[.int .i64 a.size, .int .i64 s.size, .slice none 0 0]) ∧ Gr w w' := by
  go_enter Tryd.func24, Tryd.ntmps24
  go_wp2
  refine bodyPost_ret (v := .agg #[.int .i64 a.size, .int .i64 s.size, .slice none 0 0]) ?_ rfl ⟨rfl, ?_⟩
  · simp [results, Tryd.results24, go_sem]
  · exact by repeat (first | exact Gr.refl _ | refine Gr.alloc ?_ _ | refine Gr.trans ?_ (by assumption) | refine Gr.drew ?_ | refine Gr.drewN ?_ _ | refine Gr.grow ?_ _ | refine Gr.setCell ?_ (by (try simp); (try omega)) _)
end Go.Proofs
