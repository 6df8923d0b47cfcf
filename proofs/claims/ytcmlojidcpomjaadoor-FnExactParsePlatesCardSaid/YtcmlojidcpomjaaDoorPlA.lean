/-
  Contracts of chapter 2: one plate, two plates, their ranks.
-/
import Derived.Test.YtcmlojidcpomjaaDoorInn
import Derived.Test.YtcmlojidcpomjaaDoorPlMath
namespace Go.Proofs
open Go.RowKit Pl
set_option linter.unusedVariables false
set_option linter.unusedSimpArgs false
def isP (n l : Int) : Bool := decide (IsP (n, l))
theorem isP_inn (n l : Int) : isP n l = (inn n 1 9999 && inn l 0 26) := by
  unfold isP; rw [Bool.eq_iff_iff]; unfold inn; rw [decide_eq_true_iff]; unfold IsP; simp only [Bool.and_eq_true, decide_eq_true_eq]; omega
theorem isP_t {n l : Int} (h : isP n l = true) : 1 ≤ n ∧ n ≤ 9999 ∧ 0 ≤ l ∧ l ≤ 26 := of_decide_eq_true (p := IsP (n, l)) h
theorem isP_f {n l : Int} (h : isP n l = false) : ¬ IsP (n, l) := of_decide_eq_false (p := IsP (n, l)) h
set_option maxHeartbeats 400000 in
theorem Tryd.eqPlate (n l : Int) (w : World) :
    Calls Tryd.prog 15 #[.agg #[.int .i64 n, .int .i64 l], .agg #[.int .i64 n, .int .i64 l]] w fun e w' => e = .returned (.bool true) ∧ Gr w w' := by
  obtain ⟨b0, b1, b2, b3⟩ := boxes w (.int .i64 n) (.int .i64 l) (.int .i64 n) (.int .i64 l) 31 31
  go_enter Tryd.func15, Tryd.ntmps15
  go_wp2
  (try (go_quiet (fail); go_wp2))
  (try (go_quiet (fail); go_wp2))
  go_ret
  exact ⟨rfl, by repeat (first | exact Gr.refl _ | refine Gr.alloc ?_ _ | refine Gr.trans ?_ (by assumption) | refine Gr.drew ?_ | refine Gr.drewN ?_ _ | refine Gr.grow ?_ _ | refine Gr.setCell ?_ (by (try simp); (try omega)) _)⟩
set_option maxHeartbeats 400000 in
theorem Tryd.isPlate (n l : Int) (v : Bool) (h : isP n l = v) (w : World) :
    Calls Tryd.prog 18 #[.agg #[.int .i64 n, .int .i64 l]] w fun e w' => e = .returned (.bool v) ∧ Gr w w' := by
  subst h
  rw [isP_inn]
  cases hn : inn n 1 9999
  all_goals
    have H := Lib.hid hn
    clear hn
    go_enter Tryd.func18, Tryd.ntmps18
    go_wp2_with (first | (go_at_call_of 16 (Value.int .i64 n); refine (Tryd.l1In _ _ _ _ H.out _).mono ?_; rintro e w1 ⟨rfl, rfl⟩) | (go_at_call_of 16 (Value.int .i64 l); refine (Tryd.l1In _ _ _ _ rfl _).mono ?_; rintro e w1 ⟨rfl, rfl⟩))
    go_ret
    exact ⟨rfl, by repeat (first | exact Gr.refl _ | refine Gr.alloc ?_ _ | refine Gr.trans ?_ (by assumption) | refine Gr.drew ?_ | refine Gr.drewN ?_ _ | refine Gr.grow ?_ _ | refine Gr.setCell ?_ (by (try simp); (try omega)) _)⟩
set_option maxHeartbeats 400000 in
theorem Tryd.iIsPlate (n l : Int) (v : Bool) (h : isP n l = v) (w : World) :
    Calls Tryd.prog 26 #[.agg #[.int .i64 n, .int .i64 l]] w fun e w' => e = .returned (.bool v) ∧ Gr w w' := by
  subst h
  rw [isP_inn]
  cases hn : inn n 1 9999
  all_goals
    have H := Lib.hid hn
    clear hn
    go_enter Tryd.func26, Tryd.ntmps26
    go_wp2_with (first | (go_at_call_of 25 (Value.int .i64 n); refine (Tryd.within _ _ _ _ H.out _).mono ?_; rintro e w1 ⟨rfl, rfl⟩) | (go_at_call_of 25 (Value.int .i64 l); refine (Tryd.within _ _ _ _ rfl _).mono ?_; rintro e w1 ⟨rfl, rfl⟩))
    go_ret
    exact ⟨rfl, by repeat (first | exact Gr.refl _ | refine Gr.alloc ?_ _ | refine Gr.trans ?_ (by assumption) | refine Gr.drew ?_ | refine Gr.drewN ?_ _ | refine Gr.grow ?_ _ | refine Gr.setCell ?_ (by (try simp); (try omega)) _)⟩
set_option maxHeartbeats 400000 in
theorem Tryd.isRank (n l : Int) (h1 : 1 ≤ n) (h2 : n ≤ 10000) (h3 : 0 ≤ l) (h4 : l ≤ 27) (w : World) :
    Calls Tryd.prog 20 #[.agg #[.int .i64 n, .int .i64 l]] w fun e w' => e = .returned (.int .i64 (rk (n, l))) ∧ Gr w w' := by
  go_enter Tryd.func20, Tryd.ntmps20
  go_wp2
  (try (obtain ⟨hb0, hb1⟩ := box2 w (.int .i64 n) (.int .i64 l) 31; go_quiet (fail); go_wp2))
  go_ret
  exact ⟨ri (by (try simp only [beq_iff_eq, beq_eq_false_iff_ne, bne_iff_ne, ne_eq, decide_eq_true_eq, decide_eq_false_iff_not] at *); (try unfold rk); omega), by repeat (first | exact Gr.refl _ | refine Gr.alloc ?_ _ | refine Gr.trans ?_ (by assumption) | refine Gr.drew ?_ | refine Gr.drewN ?_ _ | refine Gr.grow ?_ _ | refine Gr.setCell ?_ (by (try simp); (try omega)) _)⟩
set_option maxHeartbeats 400000 in
theorem Tryd.rankOfPlate (n l : Int) (h1 : 1 ≤ n) (h2 : n ≤ 10000) (h3 : 0 ≤ l) (h4 : l ≤ 27) (w : World) :
    Calls Tryd.prog 38 #[.agg #[.int .i64 n, .int .i64 l]] w fun e w' => e = .returned (.int .i64 (rk (n, l) - 27)) ∧ Gr w w' := by
  go_enter Tryd.func38, Tryd.ntmps38
  go_wp2
  (try (obtain ⟨hb0, hb1⟩ := box2 w (.int .i64 n) (.int .i64 l) 31; go_quiet (fail); go_wp2))
  go_ret
  exact ⟨ri (by (try simp only [beq_iff_eq, beq_eq_false_iff_ne, bne_iff_ne, ne_eq, decide_eq_true_eq, decide_eq_false_iff_not] at *); (try unfold rk); omega), by repeat (first | exact Gr.refl _ | refine Gr.alloc ?_ _ | refine Gr.trans ?_ (by assumption) | refine Gr.drew ?_ | refine Gr.drewN ?_ _ | refine Gr.grow ?_ _ | refine Gr.setCell ?_ (by (try simp); (try omega)) _)⟩
def cmpI (a b : Int) : Int := if a < b then -1 else if b < a then 1 else 0
set_option maxHeartbeats 400000 in
theorem Tryd.isNaNI (a : Int) (w : World) :
    Calls Tryd.prog 48 #[.int .i64 a] w fun e w' => e = .returned (.bool false) ∧ w = w' := by
  go_enter Tryd.func48, Tryd.ntmps48
  go_wp2
  go_ret
  exact ⟨by simp, rfl⟩
set_option maxHeartbeats 400000 in
theorem Tryd.cmpInt (a b v : Int) (h : cmpI a b = v) (w : World) :
    Calls Tryd.prog 37 #[.int .i64 a, .int .i64 b] w fun e w' => e = .returned (.int .i64 v) ∧ w = w' := by
  subst h
  go_enter Tryd.func37, Tryd.ntmps37
  go_wp2_with (first | (go_at_call 48; refine (Tryd.isNaNI _ _).mono ?_; rintro e w1 ⟨rfl, rfl⟩))
  all_goals
    go_ret
    exact ⟨ri (by (try simp only [beq_iff_eq, beq_eq_false_iff_ne, bne_iff_ne, ne_eq, decide_eq_true_eq, decide_eq_false_iff_not] at *); (try unfold cmpI); omega), rfl⟩
theorem rk_b {n l : Int} (h : isP n l = true) : 27 ≤ rk (n, l) ∧ rk (n, l) ≤ 269999 := rk_bd (p := (n, l)) (of_decide_eq_true h)
theorem rk_is {n l : Int} (h : isP n l = true) : rk (n, l) / 27 = n ∧ rk (n, l) % 27 = l := by
  obtain ⟨a, b, c, d⟩ := isP_t h
  unfold rk; simp only; omega
end Go.Proofs
