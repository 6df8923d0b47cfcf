/-
  Contracts of chapter 2: is a list one of plates?
-/
import Derived.Test.YtcmlojidcpomjaaDoorPlC
import Derived.Test.YtcmlojidcpomjaaDoorArgsP
import Derived.Test.YtcmlojidcpomjaaDoorQTail
namespace Go.Proofs
open Go.RowKit Pl
set_option linter.unusedVariables false
set_option linter.unusedSimpArgs false
def GRel (ps : List Pi2) (w : World) (i : Value) (wr : World) : Prop := Gr w wr ∧ ∃ k : Nat, k ≤ ps.length ∧ i = .int .i64 k ∧ ∀ j, j < k → stepOk ps j
theorem ok_false {ps : List Pi2} {b : Bool} {k : Nat} (hb : b = true ↔ Ok ps) (hk : k < ps.length) (h : ¬ stepOk ps k) : b = false := by
  cases b
  · rfl
  · exact absurd (((ok_iff ps).1 (hb.1 rfl)).2.2 k hk) h
theorem step_snoc {ps : List Pi2} {k : Nat} (ha : ∀ j, j < k → stepOk ps j) (h : stepOk ps k) : ∀ j, j < k + 1 → stepOk ps j := fun j hj => by
  rcases Nat.lt_or_eq_of_le (Nat.le_of_lt_succ hj) with c | c
  · exact ha j c
  · rw [c]; exact h
set_option maxRecDepth 100000 in
set_option maxHeartbeats 1600000 in
theorem Tryd.isGood (w : World) (B : Nat) (v : Value) (ps : List Pi2) (b : Bool) (hb : b = true ↔ Ok ps) (hl : ps.length ≤ 1048576) (h : OwnP 31 w B v ps) :
    Calls Tryd.prog 11 #[v] w fun e w' => e = .returned (.bool b) ∧ Gr w w' := by
  have mixed : Tryd.prog.follows .mixedOrders = true := by kernel_rfl
  rcases h.view with ⟨rfl, A, c, rfl⟩ | ⟨hpos, g, c, rfl, _, _, _, _, hc, _⟩
  · obtain rfl : b = false := by
      cases b
      · rfl
      · have := (hb.1 rfl).1; simp at this
    have H := Lib.hid (show inn ((0 : Nat) : Int) 1 60 = false by decide)
    clear h hb
    go_enter Tryd.func11, Tryd.ntmps11
    go_wp2_with (first | (go_at_call 16; refine (Tryd.l1In _ _ _ _ H.out _).mono ?_; rintro e w1 ⟨rfl, rfl⟩))
    go_ret
    exact ⟨rfl, by repeat (first | exact Gr.refl _ | refine Gr.alloc ?_ _ | refine Gr.trans ?_ (by assumption) | refine Gr.drew ?_ | refine Gr.drewN ?_ _ | refine Gr.grow ?_ _ | refine Gr.setCell ?_ (by (try simp); (try omega)) _)⟩
  · by_cases h60 : ps.length ≤ 60
    · have H := Lib.hid (show inn (ps.length : Int) 1 60 = true from inn_t (by omega) (by omega))
      have HC := Lib.hid hc
      have HB := Lib.hid hb
      clear h hc hb
      go_enter Tryd.func11, Tryd.ntmps11
      go_wp2_with (first | (go_at_call 16; refine (Tryd.l1In _ _ _ _ H.out _).mono ?_; rintro e w1 ⟨rfl, rfl⟩))
      go_loopw [3, 4, 11] (fun _ _ i wr => GRel ps w i wr) (fun _ _ i _ => (ps.length - intOf i).toNat)
      case atStart => exact ⟨Gr.refl _, 0, Nat.zero_le _, rfl, fun j hj => absurd hj (Nat.not_lt_zero _)⟩
      case round =>
        obtain ⟨gr, k, hk, rfl, hall⟩ := hrel
        by_cases hlt : k < ps.length
        · rcases hp : ps.getD k (0, 0) with ⟨p0, p1⟩
          have e0 := gr.keep0 (HC.out k hlt).1
          have e1 := gr.keep0 (HC.out k hlt).2
          rw [hp] at e0 e1
          simp only at e0 e1
          have z0 : (0 : Int) ≤ (k : Int) := by omega
          have z1 : (k : Int) < (ps.length : Int) := by omega
          obtain ⟨b0, b1⟩ := box2 wr (.int .i64 p0) (.int .i64 p1) 31
          have GR := Lib.hid gr
          have HA := Lib.hid hall
          have HP := Lib.hid hp
          clear gr hall hp
          cases hip : isP p0 p1
          · have HF := Lib.hid (ok_false HB.out hlt (fun s => isP_f hip (by have := s.1; rw [HP.out] at this; exact this)))
            have H2 := Lib.hid hip
            clear hip
            go_wp2
            (refine wp_region_quiet_grown mixed (by kernel_rfl) ?_; (repeat (first | go_big_quiet_step ((first | (go_at_call 18; exact Calls.grown_of (Tryd.isPlate _ _ _ H2.out _)))) | quiet_step ((first | (go_at_call 18; exact Calls.grown_of (Tryd.isPlate _ _ _ H2.out _)))))); refine wpQuiet_nil ?_; intro _ hw'; obtain ⟨⟨nq, osq⟩, hw''⟩ := hw'; subst hw'')
            go_wp2
            go_ret
            exact ⟨by rw [HF.out]; rfl, Gr.grow (Gr.drewN (Gr.alloc GR.out _) _) _⟩
          · obtain ⟨a1, a2, a3, a4⟩ := isP_t hip
            rcases Nat.eq_zero_or_pos k with k0 | kpos
            · have HN := Lib.hid (step_snoc HA.out (show stepOk ps k from ⟨by rw [HP.out]; exact of_decide_eq_true (p := IsP (p0, p1)) hip, fun q => by omega⟩))
              have H2 := Lib.hid hip
              have d0 : decide ((0 : Int) < (k : Int)) = false := by simp; omega
              have d9 : decide (0 < k) = false := by simp; omega
              clear hip k0
              go_wp2
              (refine wp_region_quiet_grown mixed (by kernel_rfl) ?_; (repeat (first | go_big_quiet_step ((first | (go_at_call 18; exact Calls.grown_of (Tryd.isPlate _ _ _ H2.out _)))) | quiet_step ((first | (go_at_call 18; exact Calls.grown_of (Tryd.isPlate _ _ _ H2.out _)))))); refine wpQuiet_nil ?_; intro _ hw'; obtain ⟨⟨nq, osq⟩, hw''⟩ := hw'; subst hw'')
              go_wp2
              go_roundw
              case rel => exact ⟨Gr.grow (Gr.drewN (Gr.alloc GR.out _) _) _, k + 1, by omega, by go_num, HN.out⟩
              case measure => simp [intOf]; omega
            · obtain ⟨m, hm⟩ : ∃ m, k = m + 1 := ⟨k - 1, by omega⟩
              rcases hq : ps.getD m (0, 0) with ⟨q0, q1⟩
              have hmlt : m < ps.length := by omega
              obtain ⟨c1, c2, c3, c4⟩ : 1 ≤ q0 ∧ q0 ≤ 9999 ∧ 0 ≤ q1 ∧ q1 ≤ 26 := by
                have := (HA.out m (by omega)).1
                rw [hq] at this
                exact this
              obtain ⟨ec0, ec1⟩ := HC.out m hmlt
              rw [hq] at ec0 ec1
              have f0 := gr_all (Gr.alloc GR.out (.cells #[.int .i64 p0, .int .i64 p1] 31)) ec0
              have f1 := gr_all (Gr.alloc GR.out (.cells #[.int .i64 p0, .int .i64 p1] 31)) ec1
              simp only at f0 f1
              have wi : IntKind.i64.wrap ((k : Int) - 1) = (m : Int) := by rw [show (k : Int) - 1 = (m : Int) by omega]; exact IntWalk.i64_in _ (by omega)
              have z2 : (0 : Int) ≤ (m : Int) := by omega
              have z3 : (m : Int) < (ps.length : Int) := by omega
              have d0 : decide ((0 : Int) < (k : Int)) = true := by simp; omega
              have d9 : decide (0 < k) = true := by simp; omega
              have HQ := Lib.hid hq
              have HM := Lib.hid hm
              clear ec0 ec1 hq hm
              by_cases hr : rk (q0, q1) < rk (p0, p1)
              · have HN := Lib.hid (step_snoc HA.out (show stepOk ps k from ⟨by rw [HP.out]; exact of_decide_eq_true (p := IsP (p0, p1)) hip, fun q => by rw [show k - 1 = m by have := HM.out; omega, HP.out, HQ.out]; exact hr⟩))
                have H2 := Lib.hid hip
                have d1 : decide (rk (p0, p1) ≤ rk (q0, q1)) = false := by simp; omega
                clear hip hr
                go_wp2
                (refine wp_region_quiet_grown mixed (by kernel_rfl) ?_; (repeat (first | go_big_quiet_step ((first | (go_at_call 18; exact Calls.grown_of (Tryd.isPlate _ _ _ H2.out _)) | (go_at_call 20; exact Calls.grown_of (Tryd.isRank _ _ (by omega) (by omega) (by omega) (by omega) _)))) | quiet_step ((first | (go_at_call 18; exact Calls.grown_of (Tryd.isPlate _ _ _ H2.out _)) | (go_at_call 20; exact Calls.grown_of (Tryd.isRank _ _ (by omega) (by omega) (by omega) (by omega) _)))))); refine wpQuiet_nil ?_; intro _ hw'; obtain ⟨⟨nq, osq⟩, hw''⟩ := hw'; subst hw'')
                go_wp2
                go_roundw
                case rel => exact ⟨Gr.grow (Gr.drewN (Gr.alloc GR.out _) _) _, k + 1, by omega, by go_num, HN.out⟩
                case measure => simp [intOf]; omega
              · have HF := Lib.hid (ok_false HB.out hlt (fun s => hr (by have := s.2 kpos; rw [show k - 1 = m by have := HM.out; omega, HP.out, HQ.out] at this; exact this)))
                have H2 := Lib.hid hip
                have d1 : decide (rk (p0, p1) ≤ rk (q0, q1)) = true := by simp; omega
                clear hip hr
                go_wp2
                (refine wp_region_quiet_grown mixed (by kernel_rfl) ?_; (repeat (first | go_big_quiet_step ((first | (go_at_call 18; exact Calls.grown_of (Tryd.isPlate _ _ _ H2.out _)) | (go_at_call 20; exact Calls.grown_of (Tryd.isRank _ _ (by omega) (by omega) (by omega) (by omega) _)))) | quiet_step ((first | (go_at_call 18; exact Calls.grown_of (Tryd.isPlate _ _ _ H2.out _)) | (go_at_call 20; exact Calls.grown_of (Tryd.isRank _ _ (by omega) (by omega) (by omega) (by omega) _)))))); refine wpQuiet_nil ?_; intro _ hw'; obtain ⟨⟨nq, osq⟩, hw''⟩ := hw'; subst hw'')
                go_wp2
                go_ret
                exact ⟨by rw [HF.out]; rfl, Gr.grow (Gr.drewN (Gr.alloc GR.out _) _) _⟩
        · obtain rfl : k = ps.length := by omega
          have HF := Lib.hid (show b = true from HB.out.2 ((ok_iff ps).2 ⟨by omega, h60, hall⟩))
          have GR := Lib.hid gr
          clear gr hall
          go_wp2
          go_ret
          exact ⟨by rw [HF.out]; rfl, GR.out⟩
    · have H := Lib.hid (show inn (ps.length : Int) 1 60 = false from inn_f (by omega))
      have HF := Lib.hid (show b = false by
        cases b
        · rfl
        · exact absurd (hb.1 rfl).2.1 h60)
      clear h hb hc
      go_enter Tryd.func11, Tryd.ntmps11
      go_wp2_with (first | (go_at_call 16; refine (Tryd.l1In _ _ _ _ H.out _).mono ?_; rintro e w1 ⟨rfl, rfl⟩))
      go_ret
      exact ⟨by rw [HF.out]; rfl, by repeat (first | exact Gr.refl _ | refine Gr.alloc ?_ _ | refine Gr.trans ?_ (by assumption) | refine Gr.drew ?_ | refine Gr.drewN ?_ _ | refine Gr.grow ?_ _ | refine Gr.setCell ?_ (by (try simp); (try omega)) _)⟩
set_option maxRecDepth 100000 in
set_option maxHeartbeats 1600000 in
theorem Tryd.iArePlates (w : World) (B : Nat) (v : Value) (ps : List Pi2) (b : Bool) (hb : b = true ↔ Ok ps) (hl : ps.length ≤ 1048576) (h : OwnP 31 w B v ps) :
    Calls Tryd.prog 14 #[v] w fun e w' => e = .returned (.bool b) ∧ Gr w w' := by
  have mixed : Tryd.prog.follows .mixedOrders = true := by kernel_rfl
  rcases h.view with ⟨rfl, A, c, rfl⟩ | ⟨hpos, g, c, rfl, _, _, _, _, hc, _⟩
  · obtain rfl : b = false := by
      cases b
      · rfl
      · have := (hb.1 rfl).1; simp at this
    have H := Lib.hid (show inn ((0 : Nat) : Int) 1 60 = false by decide)
    clear h hb
    go_enter Tryd.func14, Tryd.ntmps14
    go_wp2_with (first | (go_at_call 25; refine (Tryd.within _ _ _ _ H.out _).mono ?_; rintro e w1 ⟨rfl, rfl⟩))
    go_ret
    exact ⟨rfl, by repeat (first | exact Gr.refl _ | refine Gr.alloc ?_ _ | refine Gr.trans ?_ (by assumption) | refine Gr.drew ?_ | refine Gr.drewN ?_ _ | refine Gr.grow ?_ _ | refine Gr.setCell ?_ (by (try simp); (try omega)) _)⟩
  · by_cases h60 : ps.length ≤ 60
    · have H := Lib.hid (show inn (ps.length : Int) 1 60 = true from inn_t (by omega) (by omega))
      have HC := Lib.hid hc
      have HB := Lib.hid hb
      clear h hc hb
      go_enter Tryd.func14, Tryd.ntmps14
      go_wp2_with (first | (go_at_call 25; refine (Tryd.within _ _ _ _ H.out _).mono ?_; rintro e w1 ⟨rfl, rfl⟩))
      go_loopw [3, 4, 11] (fun _ _ i wr => GRel ps w i wr) (fun _ _ i _ => (ps.length - intOf i).toNat)
      case atStart => exact ⟨Gr.refl _, 0, Nat.zero_le _, rfl, fun j hj => absurd hj (Nat.not_lt_zero _)⟩
      case round =>
        obtain ⟨gr, k, hk, rfl, hall⟩ := hrel
        by_cases hlt : k < ps.length
        · rcases hp : ps.getD k (0, 0) with ⟨p0, p1⟩
          have e0 := gr.keep0 (HC.out k hlt).1
          have e1 := gr.keep0 (HC.out k hlt).2
          rw [hp] at e0 e1
          simp only at e0 e1
          have z0 : (0 : Int) ≤ (k : Int) := by omega
          have z1 : (k : Int) < (ps.length : Int) := by omega
          obtain ⟨b0, b1⟩ := box2 wr (.int .i64 p0) (.int .i64 p1) 31
          have GR := Lib.hid gr
          have HA := Lib.hid hall
          have HP := Lib.hid hp
          clear gr hall hp
          cases hip : isP p0 p1
          · have HF := Lib.hid (ok_false HB.out hlt (fun s => isP_f hip (by have := s.1; rw [HP.out] at this; exact this)))
            have H2 := Lib.hid hip
            clear hip
            go_wp2
            (refine wp_region_quiet_grown mixed (by kernel_rfl) ?_; (repeat (first | go_big_quiet_step ((first | (go_at_call 26; exact Calls.grown_of (Tryd.iIsPlate _ _ _ H2.out _)))) | quiet_step ((first | (go_at_call 26; exact Calls.grown_of (Tryd.iIsPlate _ _ _ H2.out _)))))); refine wpQuiet_nil ?_; intro _ hw'; obtain ⟨⟨nq, osq⟩, hw''⟩ := hw'; subst hw'')
            go_wp2
            go_ret
            exact ⟨by rw [HF.out]; rfl, Gr.grow (Gr.drewN (Gr.alloc GR.out _) _) _⟩
          · obtain ⟨a1, a2, a3, a4⟩ := isP_t hip
            rcases Nat.eq_zero_or_pos k with k0 | kpos
            · have HN := Lib.hid (step_snoc HA.out (show stepOk ps k from ⟨by rw [HP.out]; exact of_decide_eq_true (p := IsP (p0, p1)) hip, fun q => by omega⟩))
              have H2 := Lib.hid hip
              have d0 : decide ((0 : Int) < (k : Int)) = false := by simp; omega
              have d9 : decide (0 < k) = false := by simp; omega
              clear hip k0
              go_wp2
              (refine wp_region_quiet_grown mixed (by kernel_rfl) ?_; (repeat (first | go_big_quiet_step ((first | (go_at_call 26; exact Calls.grown_of (Tryd.iIsPlate _ _ _ H2.out _)))) | quiet_step ((first | (go_at_call 26; exact Calls.grown_of (Tryd.iIsPlate _ _ _ H2.out _)))))); refine wpQuiet_nil ?_; intro _ hw'; obtain ⟨⟨nq, osq⟩, hw''⟩ := hw'; subst hw'')
              go_wp2
              go_roundw
              case rel => exact ⟨Gr.grow (Gr.drewN (Gr.alloc GR.out _) _) _, k + 1, by omega, by go_num, HN.out⟩
              case measure => simp [intOf]; omega
            · obtain ⟨m, hm⟩ : ∃ m, k = m + 1 := ⟨k - 1, by omega⟩
              rcases hq : ps.getD m (0, 0) with ⟨q0, q1⟩
              have hmlt : m < ps.length := by omega
              obtain ⟨c1, c2, c3, c4⟩ : 1 ≤ q0 ∧ q0 ≤ 9999 ∧ 0 ≤ q1 ∧ q1 ≤ 26 := by
                have := (HA.out m (by omega)).1
                rw [hq] at this
                exact this
              obtain ⟨ec0, ec1⟩ := HC.out m hmlt
              rw [hq] at ec0 ec1
              have f0 := gr_all (Gr.alloc GR.out (.cells #[.int .i64 p0, .int .i64 p1] 31)) ec0
              have f1 := gr_all (Gr.alloc GR.out (.cells #[.int .i64 p0, .int .i64 p1] 31)) ec1
              simp only at f0 f1
              have wi : IntKind.i64.wrap ((k : Int) - 1) = (m : Int) := by rw [show (k : Int) - 1 = (m : Int) by omega]; exact IntWalk.i64_in _ (by omega)
              have z2 : (0 : Int) ≤ (m : Int) := by omega
              have z3 : (m : Int) < (ps.length : Int) := by omega
              have d0 : decide ((0 : Int) < (k : Int)) = true := by simp; omega
              have d9 : decide (0 < k) = true := by simp; omega
              have HQ := Lib.hid hq
              have HM := Lib.hid hm
              clear ec0 ec1 hq hm
              by_cases hr : rk (q0, q1) < rk (p0, p1)
              · have HN := Lib.hid (step_snoc HA.out (show stepOk ps k from ⟨by rw [HP.out]; exact of_decide_eq_true (p := IsP (p0, p1)) hip, fun q => by rw [show k - 1 = m by have := HM.out; omega, HP.out, HQ.out]; exact hr⟩))
                have H2 := Lib.hid hip
                have HV := Lib.hid (cm_lt hr)
                have HQ1 := Lib.hid (show isP q0 q1 = true from decide_eq_true (show IsP (q0, q1) from ⟨c1, c2, c3, c4⟩))
                clear hip hr
                go_wp2
                (refine wp_region_quiet_grown mixed (by kernel_rfl) ?_; (repeat (first | go_big_quiet_step ((first | (go_at_call 26; exact Calls.grown_of (Tryd.iIsPlate _ _ _ H2.out _)) | (go_at_call 27; exact Calls.grown_of (Tryd.comparePlates _ _ _ _ _ HQ1.out H2.out HV.out _)))) | quiet_step ((first | (go_at_call 26; exact Calls.grown_of (Tryd.iIsPlate _ _ _ H2.out _)) | (go_at_call 27; exact Calls.grown_of (Tryd.comparePlates _ _ _ _ _ HQ1.out H2.out HV.out _)))))); refine wpQuiet_nil ?_; intro _ hw'; obtain ⟨⟨nq, osq⟩, hw''⟩ := hw'; subst hw'')
                go_wp2
                go_roundw
                case rel => exact ⟨Gr.grow (Gr.drewN (Gr.alloc GR.out _) _) _, k + 1, by omega, by go_num, HN.out⟩
                case measure => simp [intOf]; omega
              · have HF := Lib.hid (ok_false HB.out hlt (fun s => hr (by have := s.2 kpos; rw [show k - 1 = m by have := HM.out; omega, HP.out, HQ.out] at this; exact this)))
                have H2 := Lib.hid hip
                have HQ1 := Lib.hid (show isP q0 q1 = true from decide_eq_true (show IsP (q0, q1) from ⟨c1, c2, c3, c4⟩))
                obtain ⟨z, HV, hz⟩ : ∃ z, Hid (cmpI (rk (q0, q1)) (rk (p0, p1)) = z) ∧ (z != -1) = true := ⟨_, Lib.hid rfl, by rcases cm_ge hr with q | q <;> rw [q] <;> rfl⟩
                clear hip hr
                go_wp2
                (refine wp_region_quiet_grown mixed (by kernel_rfl) ?_; (repeat (first | go_big_quiet_step ((first | (go_at_call 26; exact Calls.grown_of (Tryd.iIsPlate _ _ _ H2.out _)) | (go_at_call 27; exact Calls.grown_of (Tryd.comparePlates _ _ _ _ _ HQ1.out H2.out HV.out _)))) | quiet_step ((first | (go_at_call 26; exact Calls.grown_of (Tryd.iIsPlate _ _ _ H2.out _)) | (go_at_call 27; exact Calls.grown_of (Tryd.comparePlates _ _ _ _ _ HQ1.out H2.out HV.out _)))))); refine wpQuiet_nil ?_; intro _ hw'; obtain ⟨⟨nq, osq⟩, hw''⟩ := hw'; subst hw'')
                go_wp2
                go_ret
                exact ⟨by rw [HF.out]; rfl, Gr.grow (Gr.drewN (Gr.alloc GR.out _) _) _⟩
        · obtain rfl : k = ps.length := by omega
          have HF := Lib.hid (show b = true from HB.out.2 ((ok_iff ps).2 ⟨by omega, h60, hall⟩))
          have GR := Lib.hid gr
          clear gr hall
          go_wp2
          go_ret
          exact ⟨by rw [HF.out]; rfl, GR.out⟩
    · have H := Lib.hid (show inn (ps.length : Int) 1 60 = false from inn_f (by omega))
      have HF := Lib.hid (show b = false by
        cases b
        · rfl
        · exact absurd (hb.1 rfl).2.1 h60)
      clear h hb hc
      go_enter Tryd.func14, Tryd.ntmps14
      go_wp2_with (first | (go_at_call 25; refine (Tryd.within _ _ _ _ H.out _).mono ?_; rintro e w1 ⟨rfl, rfl⟩))
      go_ret
      exact ⟨by rw [HF.out]; rfl, by repeat (first | exact Gr.refl _ | refine Gr.alloc ?_ _ | refine Gr.trans ?_ (by assumption) | refine Gr.drew ?_ | refine Gr.drewN ?_ _ | refine Gr.grow ?_ _ | refine Gr.setCell ?_ (by (try simp); (try omega)) _)⟩
end Go.Proofs
