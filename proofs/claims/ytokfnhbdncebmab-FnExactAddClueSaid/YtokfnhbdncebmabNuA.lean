/-
  Contracts of chapter 1: streets, houses, plots.
-/
import Derived.Test.YtokfnhbdncebmabBase
namespace Go.Proofs
open Go.RowKit
set_option linter.unusedVariables false
set_option linter.unusedSimpArgs false
def Gd (k p : Int) : Prop := 0 ≤ k ∧ k ≤ 2 ∧ 1 ≤ p ∧ p ≤ 1000
instance (k p : Int) : Decidable (Gd k p) := by unfold Gd; infer_instance
def hs (k p : Int) : Int := if k = 0 then p else 2 * p
theorem hs_bd (k p : Int) (h0 : 0 ≤ k) (h2 : 1 ≤ p) (h3 : p ≤ 1000) : 1 ≤ hs k p ∧ hs k p ≤ 2000 := by unfold hs; omega
def Asked (k p n : Int) : Prop := Gd k p ∧ 1 ≤ n ∧ n ≤ hs k p
instance (k p n : Int) : Decidable (Asked k p n) := by unfold Asked; infer_instance
def sdo (k p n : Int) : Int := if k = 1 then (n - 1) % 2 else if p < n then 1 else 0
def plo (k p n : Int) : Int := if k = 1 then (n - 1) / 2 else if p < n then 2 * p - n else n - 1
def num (k p sd pl : Int) : Int := if k = 1 then 2 * pl + 1 + sd else if sd = 1 then 2 * p - pl else pl + 1
def HasAt (k p sd pl : Int) : Prop := Gd k p ∧ (sd = 0 ∨ sd = 1 ∧ 0 < k) ∧ 0 ≤ pl ∧ pl ≤ p - 1
instance (k p sd pl : Int) : Decidable (HasAt k p sd pl) := by unfold HasAt; infer_instance
def gd (k p : Int) : Bool := decide (Gd k p)
def inn (n lo hi : Int) : Bool := decide (lo ≤ n ∧ n ≤ hi)
set_option maxHeartbeats 400000 in
theorem Try.toStreet (k p : Int) (w : World) :
    Calls Try.prog 6 #[.agg #[.int .i64 k, .int .i64 p]] w fun e w' => e = .returned (.agg #[.int .i64 k, .int .i64 p]) ∧ Gr w w' := by
  go_enter Try.func6, Try.ntmps6
  go_wp2
  exact bodyPost_ret (v := .agg #[.int .i64 k, .int .i64 p]) (by simp [results, Try.results6, go_sem]) rfl ⟨rfl, by repeat (first | exact Gr.refl _ | refine Gr.alloc ?_ _ | refine Gr.trans ?_ (by assumption) | refine Gr.drew ?_ | refine Gr.drewN ?_ _ | refine Gr.grow ?_ _ | refine Gr.setCell ?_ (by (try simp); (try omega)) _)⟩
set_option maxHeartbeats 400000 in
theorem Try.l1In (n a b : Int) (w : World) :
    Calls Try.prog 17 #[.int .i64 n, .int .i64 a, .int .i64 b] w fun e w' => e = .returned (.bool (inn n a b)) ∧ w = w' := by
  go_enter Try.func17, Try.ntmps17
  go_wp2
  all_goals
    go_ret
    exact ⟨by first | exact rbf (by omega) | exact rbt (by omega) | exact rbd (by omega), rfl⟩
set_option maxHeartbeats 400000 in
theorem Try.within (n a b : Int) (w : World) :
    Calls Try.prog 22 #[.int .i64 n, .int .i64 a, .int .i64 b] w fun e w' => e = .returned (.bool (inn n a b)) ∧ w = w' := by
  go_enter Try.func22, Try.ntmps22
  go_wp2
  all_goals
    go_ret
    exact ⟨by first | exact rbf (by omega) | exact rbt (by omega) | exact rbd (by omega), rfl⟩
theorem inn_t {n a b : Int} (h1 : a ≤ n) (h2 : n ≤ b) : inn n a b = true := by simp [inn, h1, h2]
theorem inn_f {n a b : Int} (h : n < a ∨ b < n) : inn n a b = false := by simp [inn]; omega
theorem Try.l1In_b (n a b : Int) (v : Bool) (h : inn n a b = v) (w : World) :
    Calls Try.prog 17 #[.int .i64 n, .int .i64 a, .int .i64 b] w fun e w' => e = .returned (.bool v) ∧ w = w' := by subst h; exact Try.l1In n a b w
theorem Try.within_b (n a b : Int) (v : Bool) (h : inn n a b = v) (w : World) :
    Calls Try.prog 22 #[.int .i64 n, .int .i64 a, .int .i64 b] w fun e w' => e = .returned (.bool v) ∧ w = w' := by subst h; exact Try.within n a b w
set_option maxHeartbeats 400000 in
theorem Try.iIsStreet (k p : Int) (v : Bool) (h : gd k p = v) (w : World) :
    Calls Try.prog 40 #[.agg #[.int .i64 k, .int .i64 p]] w fun e w' => e = .returned (.bool v) ∧ Gr w w' := by
  subst h
  go_enter Try.func40, Try.ntmps40
  go_wp2
  all_goals
    go_ret
    exact ⟨by first | exact rbf (by unfold Gd; omega) | exact rbt (by unfold Gd; omega), by repeat (first | exact Gr.refl _ | refine Gr.alloc ?_ _ | refine Gr.trans ?_ (by assumption) | refine Gr.drew ?_ | refine Gr.drewN ?_ _ | refine Gr.grow ?_ _ | refine Gr.setCell ?_ (by (try simp); (try omega)) _)⟩
set_option maxHeartbeats 400000 in
theorem Try.nuGood (k p : Int) (v : Bool) (h : gd k p = v) (w : World) :
    Calls Try.prog 47 #[.agg #[.int .i64 k, .int .i64 p]] w fun e w' => e = .returned (.bool v) ∧ Gr w w' := by
  subst h
  go_enter Try.func47, Try.ntmps47
  go_wp2
  all_goals
    go_ret
    exact ⟨by first | exact rbf (by unfold Gd; omega) | exact rbt (by unfold Gd; omega) | exact rbd (by unfold Gd; omega), by repeat (first | exact Gr.refl _ | refine Gr.alloc ?_ _ | refine Gr.trans ?_ (by assumption) | refine Gr.drew ?_ | refine Gr.drewN ?_ _ | refine Gr.grow ?_ _ | refine Gr.setCell ?_ (by (try simp); (try omega)) _)⟩
theorem gd_t {k p : Int} (h : gd k p = true) : 0 ≤ k ∧ k ≤ 2 ∧ 1 ≤ p ∧ p ≤ 1000 := of_decide_eq_true (p := Gd k p) h
theorem gd_f {k p : Int} (h : gd k p = false) : ¬ Gd k p := of_decide_eq_false (p := Gd k p) h
set_option maxHeartbeats 400000 in
theorem Try.nuHouses (k p : Int) (w : World) (h0 : 0 ≤ k) (h1 : k ≤ 2) (h2 : 1 ≤ p) (h3 : p ≤ 1000) :
    Calls Try.prog 38 #[.agg #[.int .i64 k, .int .i64 p]] w fun e w' => e = .returned (.int .i64 (hs k p)) ∧ Gr w w' := by
  go_enter Try.func38, Try.ntmps38
  go_wp2
  all_goals
    go_ret
    exact ⟨ri (by (try simp only [beq_iff_eq, beq_eq_false_iff_ne, bne_iff_ne, ne_eq, decide_eq_true_eq, decide_eq_false_iff_not] at *); (try unfold hs); omega), by repeat (first | exact Gr.refl _ | refine Gr.alloc ?_ _ | refine Gr.trans ?_ (by assumption) | refine Gr.drew ?_ | refine Gr.drewN ?_ _ | refine Gr.grow ?_ _ | refine Gr.setCell ?_ (by (try simp); (try omega)) _)⟩
def nsd (k : Int) : Int := if k = 0 then 1 else 2
set_option maxHeartbeats 400000 in
theorem Try.sides (k p : Int) (v : Int) (h : nsd k = v) (w : World) :
    Calls Try.prog 51 #[.agg #[.int .i64 k, .int .i64 p]] w fun e w' => e = .returned (.int .i64 v) ∧ Gr w w' := by
  subst h
  go_enter Try.func51, Try.ntmps51
  go_wp2
  all_goals
    go_ret
    exact ⟨ri (by (try simp only [beq_iff_eq, beq_eq_false_iff_ne, bne_iff_ne, ne_eq, decide_eq_true_eq, decide_eq_false_iff_not] at *); (try unfold nsd); omega), by repeat (first | exact Gr.refl _ | refine Gr.alloc ?_ _ | refine Gr.trans ?_ (by assumption) | refine Gr.drew ?_ | refine Gr.drewN ?_ _ | refine Gr.grow ?_ _ | refine Gr.setCell ?_ (by (try simp); (try omega)) _)⟩
set_option maxHeartbeats 400000 in
theorem Try.houses (k p : Int) (w : World) (h0 : 0 ≤ k) (h1 : k ≤ 2) (h2 : 1 ≤ p) (h3 : p ≤ 1000) :
    Calls Try.prog 41 #[.agg #[.int .i64 k, .int .i64 p]] w fun e w' => e = .returned (.int .i64 (hs k p)) ∧ Gr w w' := by
  have e1 : hs k p = nsd k * p := by unfold hs nsd; split <;> omega
  rw [e1]
  rcases (show nsd k = 1 ∨ nsd k = 2 by unfold nsd; omega) with hv | hv
  all_goals
    rw [hv]
    have H := Lib.hid hv
    clear hv e1
    go_enter Try.func41, Try.ntmps41
    go_wp2
    obtain ⟨hb0, hb1⟩ := box2 w (.int .i64 k) (.int .i64 p) 24
    have w1 : IntKind.i64.wrap p = p := IntWalk.i64_in _ (by omega)
    have w2 : IntKind.i64.wrap (2 * p) = 2 * p := IntWalk.i64_in _ (by omega)
    have mixed : Try.prog.follows .mixedOrders = true := by kernel_rfl
    go_quiet_grown (first | (go_at_call 51; exact Calls.grown_of (Try.sides _ _ _ H.out _)))
    go_wp2
    go_ret
    exact ⟨ri (by first | exact IntWalk.i64_in _ (by omega) | omega), by repeat (first | exact Gr.refl _ | refine Gr.alloc ?_ _ | refine Gr.trans ?_ (by assumption) | refine Gr.drew ?_ | refine Gr.drewN ?_ _ | refine Gr.grow ?_ _ | refine Gr.setCell ?_ (by (try simp); (try omega)) _)⟩

def hoV (k p : Int) : Int := if gd k p then hs k p else 0
set_option maxHeartbeats 400000 in
theorem Try.hasHouse (k p n : Int) (v : Bool) (h : decide (Asked k p n) = v) (w : World) :
    Calls Try.prog 21 #[.agg #[.int .i64 k, .int .i64 p], .int .i64 n] w fun e w' => e = .returned (.bool v) ∧ Gr w w' := by
  subst h
  unfold Asked
  cases hg : gd k p
  · have e : decide (Gd k p ∧ 1 ≤ n ∧ n ≤ hs k p) = false := by simp [gd_f hg]
    rw [e]
    have H := Lib.hid hg
    clear hg e
    go_enter Try.func21, Try.ntmps21
    go_wp2_with (first | (go_at_call 40; refine (Try.iIsStreet _ _ _ H.out _).mono ?_; rintro e w1 ⟨rfl, hbW⟩; have hcW := (bcell hbW.below).1; have hfW := (bcell hbW.below).2; (try have hzW : w.heap.size < w1.heap.size := by have hq := hbW.below.size; (try simp at hq); omega); (try have hyW : w.heap.size + 1 < w1.heap.size := by have hq := hbW.below.size; (try simp at hq); omega); (try have hxW : w.heap.size + 2 < w1.heap.size := by have hq := hbW.below.size; (try simp at hq); omega)))
    go_ret
    exact ⟨rfl, by repeat (first | exact Gr.refl _ | refine Gr.alloc ?_ _ | refine Gr.trans ?_ (by assumption) | refine Gr.drew ?_ | refine Gr.drewN ?_ _ | refine Gr.grow ?_ _ | refine Gr.setCell ?_ (by (try simp); (try omega)) _)⟩
  · obtain ⟨h0, h1, h2, h3⟩ := gd_t hg
    have e : decide (Gd k p ∧ 1 ≤ n ∧ n ≤ hs k p) = inn n 1 (hs k p) := by simp [inn, of_decide_eq_true (p := Gd k p) hg]
    rw [e]
    have H := Lib.hid hg
    clear hg e
    go_enter Try.func21, Try.ntmps21
    go_wp2_with (first | (go_at_call 40; refine (Try.iIsStreet _ _ _ H.out _).mono ?_; rintro e w1 ⟨rfl, hbW⟩; have hcW := (bcell hbW.below).1; have hfW := (bcell hbW.below).2; (try have hzW : w.heap.size < w1.heap.size := by have hq := hbW.below.size; (try simp at hq); omega); (try have hyW : w.heap.size + 1 < w1.heap.size := by have hq := hbW.below.size; (try simp at hq); omega); (try have hxW : w.heap.size + 2 < w1.heap.size := by have hq := hbW.below.size; (try simp at hq); omega)) | (go_at_call 41; refine (Try.houses _ _ _ h0 h1 h2 h3).mono ?_; rintro e w1 ⟨rfl, hbW⟩; have hcW := (bcell hbW.below).1; have hfW := (bcell hbW.below).2; (try have hzW : w.heap.size < w1.heap.size := by have hq := hbW.below.size; (try simp at hq); omega); (try have hyW : w.heap.size + 1 < w1.heap.size := by have hq := hbW.below.size; (try simp at hq); omega); (try have hxW : w.heap.size + 2 < w1.heap.size := by have hq := hbW.below.size; (try simp at hq); omega)) | (go_at_call 22; refine (Try.within _ _ _ _).mono ?_; rintro e w1 ⟨rfl, rfl⟩))
    go_ret
    exact ⟨rfl, by repeat (first | exact Gr.refl _ | refine Gr.alloc ?_ _ | refine Gr.trans ?_ (by assumption) | refine Gr.drew ?_ | refine Gr.drewN ?_ _ | refine Gr.grow ?_ _ | refine Gr.setCell ?_ (by (try simp); (try omega)) _)⟩
set_option maxHeartbeats 400000 in
theorem Try.nuPlot (k p n : Int) (w : World) (h0 : 0 ≤ k) (h1 : k ≤ 2) (h2 : 1 ≤ p) (h3 : p ≤ 1000) (h4 : 1 ≤ n) (h5 : n ≤ hs k p) :
    Calls Try.prog 48 #[.agg #[.int .i64 k, .int .i64 p], .int .i64 n] w fun e w' => e = .returned (.tuple #[.int .i64 (sdo k p n), .int .i64 (plo k p n)]) ∧ Gr w w' := by
  have h6 : n ≤ 2000 := by unfold hs at h5; omega
  have H := Lib.hid h5
  clear h5
  go_enter Try.func48, Try.ntmps48
  go_wp2
  all_goals try (go_quiet (fail); go_wp2)
  all_goals
    go_ret2
    have h5 := H.out
    exact ⟨ri2 (by (try simp only [beq_iff_eq, beq_eq_false_iff_ne, bne_iff_ne, ne_eq, decide_eq_true_eq, decide_eq_false_iff_not] at *); (try unfold sdo); omega) (by (try simp only [beq_iff_eq, beq_eq_false_iff_ne, bne_iff_ne, ne_eq, decide_eq_true_eq, decide_eq_false_iff_not] at *); (try unfold plo); omega), by repeat (first | exact Gr.refl _ | refine Gr.alloc ?_ _ | refine Gr.trans ?_ (by assumption) | refine Gr.drew ?_ | refine Gr.drewN ?_ _ | refine Gr.grow ?_ _ | refine Gr.setCell ?_ (by (try simp); (try omega)) _)⟩
def hsd (k sd : Int) : Bool := decide (sd = 0 ∨ sd = 1 ∧ 0 < k)
theorem hsd_inn {k : Int} (sd : Int) (h0 : 0 ≤ k) : inn sd 0 (nsd k - 1) = hsd k sd := by
  unfold inn hsd nsd; exact decide_eq_decide.2 (by omega)
set_option maxHeartbeats 400000 in
theorem Try.nuNumber (k p sd pl : Int) (w : World) (h0 : 0 ≤ k) (h1 : k ≤ 2) (h2 : 1 ≤ p) (h3 : p ≤ 1000) (h4 : 0 ≤ sd) (h5 : sd ≤ 1) (h6 : 0 ≤ pl) (h7 : pl ≤ p - 1) :
    Calls Try.prog 50 #[.agg #[.int .i64 k, .int .i64 p], .int .i64 sd, .int .i64 pl] w fun e w' => e = .returned (.int .i64 (num k p sd pl)) ∧ Gr w w' := by
  go_enter Try.func50, Try.ntmps50
  go_wp2
  all_goals
    go_ret
    exact ⟨ri (by (try simp only [beq_iff_eq, beq_eq_false_iff_ne, bne_iff_ne, ne_eq, decide_eq_true_eq, decide_eq_false_iff_not] at *); (try unfold num); omega), by repeat (first | exact Gr.refl _ | refine Gr.alloc ?_ _ | refine Gr.trans ?_ (by assumption) | refine Gr.drew ?_ | refine Gr.drewN ?_ _ | refine Gr.grow ?_ _ | refine Gr.setCell ?_ (by (try simp); (try omega)) _)⟩
def naB (k p sd pl : Int) : Bool := gd k p && hsd k sd && inn pl 0 (p - 1)
def naV (k p sd pl : Int) : Int := if naB k p sd pl then num k p sd pl else 0
theorem hsd_t {k sd : Int} (h : hsd k sd = true) : 0 ≤ sd ∧ sd ≤ 1 := by have := of_decide_eq_true (p := sd = 0 ∨ sd = 1 ∧ 0 < k) h; omega
theorem inn_e {n a b : Int} (h : inn n a b = true) : a ≤ n ∧ n ≤ b := of_decide_eq_true (p := a ≤ n ∧ n ≤ b) h
set_option maxHeartbeats 400000 in
theorem Try.hasPlace (k p sd pl : Int) (v : Bool) (h : (gd k p && hsd k sd && inn pl 0 (p - 1)) = v) (w : World) :
    Calls Try.prog 56 #[.agg #[.int .i64 k, .int .i64 p], .agg #[.int .i64 sd, .int .i64 pl]] w fun e w' => e = .returned (.bool v) ∧ Gr w w' := by
  subst h
  have mixed : Try.prog.follows .mixedOrders = true := by kernel_rfl
  obtain ⟨b0, b1, b2, b3⟩ := boxes w (.int .i64 k) (.int .i64 p) (.int .i64 sd) (.int .i64 pl) 24 68
  cases hg : gd k p
  · have H := Lib.hid hg
    clear hg
    go_enter Try.func56, Try.ntmps56
    go_wp2
    (refine wp_region_quiet_grown mixed (by kernel_rfl) ?_; (repeat (first | go_big_quiet_step ((first | (go_at_call 40; exact Calls.grown_of (Try.iIsStreet _ _ _ H.out _)))) | quiet_step ((first | (go_at_call 40; exact Calls.grown_of (Try.iIsStreet _ _ _ H.out _)))))); refine wpQuiet_nil ?_; intro _ hw'; obtain ⟨⟨nq, osq⟩, hw''⟩ := hw'; subst hw'')
    go_wp2
    go_ret
    exact ⟨rfl, by repeat (first | exact Gr.refl _ | refine Gr.alloc ?_ _ | refine Gr.trans ?_ (by assumption) | refine Gr.drew ?_ | refine Gr.drewN ?_ _ | refine Gr.grow ?_ _ | refine Gr.setCell ?_ (by (try simp); (try omega)) _)⟩
  · obtain ⟨h0, h1, h2, h3⟩ := gd_t hg
    have H := Lib.hid hg
    clear hg
    rw [← hsd_inn sd h0]
    rcases (show (nsd k = 1 ∧ nsd k - 1 = 0) ∨ (nsd k = 2 ∧ nsd k - 1 = 1) by unfold nsd; omega) with ⟨hv, hu⟩ | ⟨hv, hu⟩
    all_goals
      rw [hu]
      have H3 := Lib.hid hv
      clear hv hu
    · cases hh : inn sd 0 0
      all_goals
        have H2 := Lib.hid hh
        clear hh
        go_enter Try.func56, Try.ntmps56
        go_wp2
        (refine wp_region_quiet_grown mixed (by kernel_rfl) ?_; (repeat (first | go_big_quiet_step ((first | (go_at_call 40; exact Calls.grown_of (Try.iIsStreet _ _ _ H.out _)) | (go_at_call 51; exact Calls.grown_of (Try.sides _ _ _ H3.out _)) | (go_at_call_of 22 (Value.int .i64 sd); exact Calls.grown_of (same_gr (Try.within_b _ _ _ _ H2.out _))) | (go_at_call_of 22 (Value.int .i64 pl); exact Calls.grown_of (same_gr (Try.within _ _ _ _))))) | quiet_step ((first | (go_at_call 40; exact Calls.grown_of (Try.iIsStreet _ _ _ H.out _)) | (go_at_call 51; exact Calls.grown_of (Try.sides _ _ _ H3.out _)) | (go_at_call_of 22 (Value.int .i64 sd); exact Calls.grown_of (same_gr (Try.within_b _ _ _ _ H2.out _))) | (go_at_call_of 22 (Value.int .i64 pl); exact Calls.grown_of (same_gr (Try.within _ _ _ _))))))); refine wpQuiet_nil ?_; intro _ hw'; obtain ⟨⟨nq, osq⟩, hw''⟩ := hw'; subst hw'')
        go_wp2
        go_ret
        exact ⟨rfl, by repeat (first | exact Gr.refl _ | refine Gr.alloc ?_ _ | refine Gr.trans ?_ (by assumption) | refine Gr.drew ?_ | refine Gr.drewN ?_ _ | refine Gr.grow ?_ _ | refine Gr.setCell ?_ (by (try simp); (try omega)) _)⟩
    · cases hh : inn sd 0 1
      all_goals
        have H2 := Lib.hid hh
        clear hh
        go_enter Try.func56, Try.ntmps56
        go_wp2
        (refine wp_region_quiet_grown mixed (by kernel_rfl) ?_; (repeat (first | go_big_quiet_step ((first | (go_at_call 40; exact Calls.grown_of (Try.iIsStreet _ _ _ H.out _)) | (go_at_call 51; exact Calls.grown_of (Try.sides _ _ _ H3.out _)) | (go_at_call_of 22 (Value.int .i64 sd); exact Calls.grown_of (same_gr (Try.within_b _ _ _ _ H2.out _))) | (go_at_call_of 22 (Value.int .i64 pl); exact Calls.grown_of (same_gr (Try.within _ _ _ _))))) | quiet_step ((first | (go_at_call 40; exact Calls.grown_of (Try.iIsStreet _ _ _ H.out _)) | (go_at_call 51; exact Calls.grown_of (Try.sides _ _ _ H3.out _)) | (go_at_call_of 22 (Value.int .i64 sd); exact Calls.grown_of (same_gr (Try.within_b _ _ _ _ H2.out _))) | (go_at_call_of 22 (Value.int .i64 pl); exact Calls.grown_of (same_gr (Try.within _ _ _ _))))))); refine wpQuiet_nil ?_; intro _ hw'; obtain ⟨⟨nq, osq⟩, hw''⟩ := hw'; subst hw'')
        go_wp2
        go_ret
        exact ⟨rfl, by repeat (first | exact Gr.refl _ | refine Gr.alloc ?_ _ | refine Gr.trans ?_ (by assumption) | refine Gr.drew ?_ | refine Gr.drewN ?_ _ | refine Gr.grow ?_ _ | refine Gr.setCell ?_ (by (try simp); (try omega)) _)⟩
end Go.Proofs
