/-
  Contracts of chapter 4: is it a city? Both sides.
-/
import Derived.Test.YtfdiiichjopncaaDoorBrC
namespace Go.Proofs
open Go.RowKit Av
set_option linter.unusedVariables false
set_option linter.unusedSimpArgs false
def GRelB (W H : Int) (ps : List Blk) (w : World) (i : Value) (wr : World) : Prop := Gr w wr ∧ ∃ k : Nat, k ≤ ps.length ∧ i = .int .i64 k ∧ ∀ j, j < k → stepOk W H ps j
theorem okB_false {W H : Int} {ps : List Blk} {v : Bool} {k : Nat} (hb : okB W H ps = v) (hk : k < ps.length) (h : ¬ stepOk W H ps k) : v = false := by
  cases v
  · rfl
  · exact absurd (((ok_iff W H ps).1 (of_decide_eq_true hb)).2.2.2.2.2 k hk) h
theorem stepB_snoc {W H : Int} {ps : List Blk} {k : Nat} (ha : ∀ j, j < k → stepOk W H ps j) (h : stepOk W H ps k) : ∀ j, j < k + 1 → stepOk W H ps j := fun j hj => by
  rcases Nat.lt_or_eq_of_le (Nat.le_of_lt_succ hj) with c | c
  · exact ha j c
  · rw [c]; exact h
theorem okB_no {W H : Int} {ps : List Blk} {v : Bool} (hb : okB W H ps = v) (h : ¬ (1 ≤ W ∧ W ≤ 8 ∧ 1 ≤ H ∧ H ≤ 8 ∧ ps.length ≤ 30)) : v = false := by
  cases v
  · rfl
  · obtain ⟨a, b, c, d, e, _⟩ := of_decide_eq_true hb
    exact absurd ⟨a, b, c, d, e⟩ h
set_option maxRecDepth 100000 in
set_option maxHeartbeats 1600000 in
theorem Tryd.iIsCity (w : World) (W H : Int) (B : Nat) (a : Value) (ps : List Blk) (v : Bool) (hv : okB W H ps = v) (hl : ps.length ≤ 1048576) (h : OwnB w B a ps) :
    Calls Tryd.prog 29 #[.agg #[.int .i64 W, .int .i64 H, a]] w fun e w' => e = .returned (.bool v) ∧ Gr w w' := by
  have mixed : Tryd.prog.follows .mixedOrders = true := by kernel_rfl
  by_cases hW : 1 ≤ W ∧ W ≤ 8
  case neg =>
    obtain rfl := okB_no hv (fun q => hW ⟨q.1, q.2.1⟩)
    have H1 := Lib.hid (show inn W 1 8 = false from inn_f (by omega))
    obtain ⟨A, c, rfl, h⟩ := OwnE.eta h
    clear h hv hW
    go_enter Tryd.func29, Tryd.ntmps29
    go_wp2_with (first | (go_at_call 33; refine (Tryd.within _ _ _ _ H1.out _).mono ?_; rintro e w1 ⟨rfl, rfl⟩))
    go_ret
    exact ⟨rfl, by repeat (first | exact Gr.refl _ | refine Gr.alloc ?_ _ | refine Gr.trans ?_ (by assumption) | refine Gr.drew ?_ | refine Gr.drewN ?_ _ | refine Gr.grow ?_ _ | refine Gr.setCell ?_ (by (try simp); (try omega)) _)⟩
  by_cases hH : 1 ≤ H ∧ H ≤ 8
  case neg =>
    obtain rfl := okB_no hv (fun q => hH ⟨q.2.2.1, q.2.2.2.1⟩)
    have H1 := Lib.hid (show inn W 1 8 = true from inn_t hW.1 hW.2)
    have H2 := Lib.hid (show inn H 1 8 = false from inn_f (by omega))
    obtain ⟨A, c, rfl, h⟩ := OwnE.eta h
    clear h hv hW hH
    go_enter Tryd.func29, Tryd.ntmps29
    go_wp2_with (first | (go_at_call_of 33 (Value.int .i64 W); refine (Tryd.within _ _ _ _ H1.out _).mono ?_; rintro e w1 ⟨rfl, rfl⟩) | (go_at_call_of 33 (Value.int .i64 H); refine (Tryd.within _ _ _ _ H2.out _).mono ?_; rintro e w1 ⟨rfl, rfl⟩))
    go_ret
    exact ⟨rfl, by repeat (first | exact Gr.refl _ | refine Gr.alloc ?_ _ | refine Gr.trans ?_ (by assumption) | refine Gr.drew ?_ | refine Gr.drewN ?_ _ | refine Gr.grow ?_ _ | refine Gr.setCell ?_ (by (try simp); (try omega)) _)⟩
  by_cases h30 : ps.length ≤ 30
  case neg =>
    obtain rfl := okB_no hv (fun q => h30 q.2.2.2.2)
    have H1 := Lib.hid (show inn W 1 8 = true from inn_t hW.1 hW.2)
    have H2 := Lib.hid (show inn H 1 8 = true from inn_t hH.1 hH.2)
    have z : (30 : Int) < (ps.length : Int) := by omega
    obtain ⟨A, c, rfl, h⟩ := OwnE.eta h
    clear h hv hW hH
    go_enter Tryd.func29, Tryd.ntmps29
    go_wp2_with (first | (go_at_call_of 33 (Value.int .i64 W); refine (Tryd.within _ _ _ _ H1.out _).mono ?_; rintro e w1 ⟨rfl, rfl⟩) | (go_at_call_of 33 (Value.int .i64 H); refine (Tryd.within _ _ _ _ H2.out _).mono ?_; rintro e w1 ⟨rfl, rfl⟩))
    go_ret
    exact ⟨rfl, by repeat (first | exact Gr.refl _ | refine Gr.alloc ?_ _ | refine Gr.trans ?_ (by assumption) | refine Gr.drew ?_ | refine Gr.drewN ?_ _ | refine Gr.grow ?_ _ | refine Gr.setCell ?_ (by (try simp); (try omega)) _)⟩
  have H1 := Lib.hid (show inn W 1 8 = true from inn_t hW.1 hW.2)
  have H2 := Lib.hid (show inn H 1 8 = true from inn_t hH.1 hH.2)
  have HV := Lib.hid hv
  have z : ¬ (30 : Int) < (ps.length : Int) := by omega
  rcases OwnB.view h with ⟨rfl, A, c, rfl⟩ | ⟨hpos, g, c, rfl, _, hgw, _, _, hc, _⟩
  · have ev : v = true := by rw [← hv]; exact decide_eq_true ((ok_iff W H []).2 ⟨hW.1, hW.2, hH.1, hH.2, by simp, fun j hj => by simp at hj⟩)
    subst ev
    clear h hv hW hH
    go_enter Tryd.func29, Tryd.ntmps29
    go_wp2_with (first | (go_at_call_of 33 (Value.int .i64 W); refine (Tryd.within _ _ _ _ H1.out _).mono ?_; rintro e w1 ⟨rfl, rfl⟩) | (go_at_call_of 33 (Value.int .i64 H); refine (Tryd.within _ _ _ _ H2.out _).mono ?_; rintro e w1 ⟨rfl, rfl⟩))
    refine wp_loop_rounds 1 ?_
    rw [rounds_succ]
    go_wp2
    go_ret
    exact ⟨rfl, by repeat (first | exact Gr.refl _ | refine Gr.alloc ?_ _ | refine Gr.trans ?_ (by assumption) | refine Gr.drew ?_ | refine Gr.drewN ?_ _ | refine Gr.grow ?_ _ | refine Gr.setCell ?_ (by (try simp); (try omega)) _)⟩
  · have gW : Gr w (w.alloc (.cells #[.int .i64 W, .int .i64 H, .slice (some ⟨g, 0, none⟩) ps.length c] 58)) := Gr.alloc (Gr.refl _) _
    have HC := Lib.hid hc
    have HBX := Lib.hid (fun (X : World) (k : Gr (w.alloc (.cells #[.int .i64 W, .int .i64 H, .slice (some ⟨g, 0, none⟩) ps.length c] 58)) X) => boxG3 (w := w) k)
    have GW := Lib.hid gW
    clear h hc hv gW
    generalize hX : w.alloc (.cells #[.int .i64 W, .int .i64 H, .slice (some ⟨g, 0, none⟩) ps.length c] 58) = X at *
    have HX := Lib.hid hX
    have x0 : X.cell? ⟨w.heap.size, 0, none⟩ = some (.int .i64 W) := by rw [← hX]; simp [go_sem]
    have x1 : X.cell? ⟨w.heap.size, 1, none⟩ = some (.int .i64 H) := by rw [← hX]; simp [go_sem]
    have x2 : X.cell? ⟨w.heap.size, 2, none⟩ = some (.slice (some ⟨g, 0, none⟩) ps.length c) := by rw [← hX]; simp [go_sem]
    go_enter Tryd.func29, Tryd.ntmps29
    go_wp2_with (first | (go_at_call_of 33 (Value.int .i64 W); refine (Tryd.within _ _ _ _ H1.out _).mono ?_; rintro e w1 ⟨rfl, rfl⟩) | (go_at_call_of 33 (Value.int .i64 H); refine (Tryd.within _ _ _ _ H2.out _).mono ?_; rintro e w1 ⟨rfl, rfl⟩))
    clear x0 x1 x2 hX
    go_loopw [3, 4, 24] (fun _ _ i wr => GRelB W H ps X i wr) (fun _ _ i _ => (ps.length - intOf i).toNat)
    case atStart => exact ⟨Gr.refl _, 0, Nat.zero_le _, rfl, fun j hj => absurd hj (Nat.not_lt_zero _)⟩
    case round =>
      obtain ⟨gr, k, hk, rfl, hall⟩ := hrel
      by_cases hlt : k < ps.length
      · rcases hp : ps.getD k b0 with ⟨p0, p1, p2⟩
        obtain ⟨e0, e1, e2⟩ := HC.out k hlt
        rw [hp] at e0 e1 e2
        simp only at e0 e1 e2
        replace e0 := (GW.out.trans gr).keep0 e0
        replace e1 := (GW.out.trans gr).keep0 e1
        replace e2 := (GW.out.trans gr).keep0 e2
        have z0 : (0 : Int) ≤ (k : Int) := by omega
        have z1 : (k : Int) < (ps.length : Int) := by omega
        obtain ⟨b0', b1', b2'⟩ := box3 wr (.int .i64 p0) (.int .i64 p1) (.bool p2) 71
        obtain ⟨d0, d1, d2⟩ := HBX.out _ (Gr.alloc gr (.cells #[.int .i64 p0, .int .i64 p1, .bool p2] 71))
        have GR := Lib.hid gr
        have HA := Lib.hid hall
        have HP := Lib.hid hp
        clear gr hall hp
        cases hip : isB W H (p0, p1, p2)
        · have HF := Lib.hid (okB_false HV.out hlt (fun s => of_decide_eq_false hip (by have := s.1; rw [HP.out] at this; exact this)))
          have H3 := Lib.hid hip
          clear hip
          go_wp2
          (refine wp_region_quiet_grown mixed (by kernel_rfl) ?_; (repeat (first | go_big_quiet_step ((first | (go_at_call 35; exact Calls.grown_of (Tryd.hasBlock W H _ _ _ _ _ _ hW hH _ H3.out _)))) | quiet_step ((first | (go_at_call 35; exact Calls.grown_of (Tryd.hasBlock W H _ _ _ _ _ _ hW hH _ H3.out _)))))); refine wpQuiet_nil ?_; intro _ hw'; obtain ⟨⟨nq, osq⟩, hw''⟩ := hw'; subst hw'')
          go_wp2
          go_ret
          exact ⟨by rw [HF.out]; rfl, GW.out.trans (Gr.grow (Gr.drewN (Gr.alloc GR.out _) _) _)⟩
        · have hIS : IsB W H (p0, p1, p2) := of_decide_eq_true hip
          rcases Nat.eq_zero_or_pos k with k0 | kpos
          · have HN := Lib.hid (stepB_snoc HA.out (show stepOk W H ps k from ⟨by rw [HP.out]; exact hIS, fun q => by omega⟩))
            have H3 := Lib.hid hip
            have d0' : decide ((0 : Int) < (k : Int)) = false := by simp; omega
            have d9 : decide (0 < k) = false := by simp; omega
            clear hip k0 hIS
            go_wp2
            (refine wp_region_quiet_grown mixed (by kernel_rfl) ?_; (repeat (first | go_big_quiet_step ((first | (go_at_call 35; exact Calls.grown_of (Tryd.hasBlock W H _ _ _ _ _ _ hW hH _ H3.out _)))) | quiet_step ((first | (go_at_call 35; exact Calls.grown_of (Tryd.hasBlock W H _ _ _ _ _ _ hW hH _ H3.out _)))))); refine wpQuiet_nil ?_; intro _ hw'; obtain ⟨⟨nq, osq⟩, hw''⟩ := hw'; subst hw'')
            go_wp2
            go_roundw
            case rel => exact ⟨Gr.grow (Gr.drewN (Gr.alloc GR.out _) _) _, k + 1, by omega, by go_num, HN.out⟩
            case measure => simp [intOf]; omega
          · obtain ⟨m, hm⟩ : ∃ m, k = m + 1 := ⟨k - 1, by omega⟩
            rcases hq : ps.getD m b0 with ⟨q0, q1, q2⟩
            have hmlt : m < ps.length := by omega
            obtain ⟨ec0, ec1, ec2⟩ := HC.out m hmlt
            rw [hq] at ec0 ec1 ec2
            simp only at ec0 ec1 ec2
            have gg := GW.out.trans (Gr.alloc GR.out (.cells #[.int .i64 p0, .int .i64 p1, .bool p2] 71))
            have f0 := gr_all gg ec0
            have f1 := gr_all gg ec1
            have f2 := gr_all gg ec2
            have wi : IntKind.i64.wrap ((k : Int) - 1) = (m : Int) := by rw [show (k : Int) - 1 = (m : Int) by omega]; exact IntWalk.i64_in _ (by omega)
            have z2 : (0 : Int) ≤ (m : Int) := by omega
            have z3 : (m : Int) < (ps.length : Int) := by omega
            have d0' : decide ((0 : Int) < (k : Int)) = true := by simp; omega
            have d9 : decide (0 < k) = true := by simp; omega
            have HQ := Lib.hid hq
            have HM := Lib.hid hm
            clear ec0 ec1 ec2 hq hm gg
            by_cases hr : Lt (q0, q1, q2) (p0, p1, p2)
            · have HN := Lib.hid (stepB_snoc HA.out (show stepOk W H ps k from ⟨by rw [HP.out]; exact hIS, fun q => by rw [show k - 1 = m by have := HM.out; omega, HP.out, HQ.out]; exact hr⟩))
              have H3 := Lib.hid hip
              have H4 := Lib.hid (cmp_lt.2 hr)
              clear hip hr hIS
              go_wp2
              (refine wp_region_quiet_grown mixed (by kernel_rfl) ?_; (repeat (first | go_big_quiet_step ((first | (go_at_call 35; exact Calls.grown_of (Tryd.hasBlock W H _ _ _ _ _ _ hW hH _ H3.out _)) | (go_at_call 36; exact Calls.grown_of (Tryd.compareBlocks (q0, q1, q2) (p0, p1, p2) _ H4.out _)))) | quiet_step ((first | (go_at_call 35; exact Calls.grown_of (Tryd.hasBlock W H _ _ _ _ _ _ hW hH _ H3.out _)) | (go_at_call 36; exact Calls.grown_of (Tryd.compareBlocks (q0, q1, q2) (p0, p1, p2) _ H4.out _)))))); refine wpQuiet_nil ?_; intro _ hw'; obtain ⟨⟨nq, osq⟩, hw''⟩ := hw'; subst hw'')
              go_wp2
              go_roundw
              case rel => exact ⟨Gr.grow (Gr.drewN (Gr.alloc GR.out _) _) _, k + 1, by omega, by go_num, HN.out⟩
              case measure => simp [intOf]; omega
            · have HF := Lib.hid (okB_false HV.out hlt (fun s => hr (by have := s.2 kpos; rw [show k - 1 = m by have := HM.out; omega, HP.out, HQ.out] at this; exact this)))
              have H3 := Lib.hid hip
              obtain ⟨y, H4, hy⟩ : ∃ y, Hid (cmpB (q0, q1, q2) (p0, p1, p2) = y) ∧ (y != -1) = true := ⟨_, Lib.hid rfl, by have := mt cmp_lt.1 hr; simpa using this⟩
              clear hip hr hIS
              go_wp2
              (refine wp_region_quiet_grown mixed (by kernel_rfl) ?_; (repeat (first | go_big_quiet_step ((first | (go_at_call 35; exact Calls.grown_of (Tryd.hasBlock W H _ _ _ _ _ _ hW hH _ H3.out _)) | (go_at_call 36; exact Calls.grown_of (Tryd.compareBlocks (q0, q1, q2) (p0, p1, p2) _ H4.out _)))) | quiet_step ((first | (go_at_call 35; exact Calls.grown_of (Tryd.hasBlock W H _ _ _ _ _ _ hW hH _ H3.out _)) | (go_at_call 36; exact Calls.grown_of (Tryd.compareBlocks (q0, q1, q2) (p0, p1, p2) _ H4.out _)))))); refine wpQuiet_nil ?_; intro _ hw'; obtain ⟨⟨nq, osq⟩, hw''⟩ := hw'; subst hw'')
              go_wp2
              go_ret
              exact ⟨by rw [HF.out]; rfl, GW.out.trans (Gr.grow (Gr.drewN (Gr.alloc GR.out _) _) _)⟩
      · obtain rfl : k = ps.length := by omega
        have HF := Lib.hid (show v = true by rw [← HV.out]; exact decide_eq_true ((ok_iff W H ps).2 ⟨hW.1, hW.2, hH.1, hH.2, h30, hall⟩))
        have GR := Lib.hid gr
        clear gr hall
        go_wp2
        go_ret
        exact ⟨by rw [HF.out]; rfl, GW.out.trans GR.out⟩
end Go.Proofs
