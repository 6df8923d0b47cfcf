/-
  Contracts of chapter 2: the index at which a plate is or would be put in (the program's).
-/
import Derived.Test.YtcmlojidcpomjaaPlP
import Derived.Test.YtcmlojidcpomjaaPlC
import Derived.WalkMore
namespace Go.Proofs
open Go.RowKit Pl
set_option linter.unusedVariables false
set_option linter.unusedSimpArgs false
set_option maxRecDepth 100000 in
set_option maxHeartbeats 1600000 in
theorem Try.indexForPlate (w : World) (B : Nat) (v : Value) (ps : List Pi2) (p0 p1 : Int) (hi : ∀ q ∈ ps, IsP q) (hp : isP p0 p1 = true) (hpos : 0 < ps.length) (hl : ps.length ≤ 1048576) (h : OwnP 44 w B v ps) :
    Calls Try.prog 72 #[v, .agg #[.int .i64 p0, .int .i64 p1]] w fun e w' => e = .returned (.int .i64 (plc ps (p0, p1))) ∧ Gr w w' := by
  have mixed : Try.prog.follows .mixedOrders = true := by kernel_rfl
  have gW : Gr w (w.alloc (.cells #[.int .i64 p0, .int .i64 p1] 44)) := Gr.alloc (Gr.refl _) _
  have bx := fun (W : World) (g : Gr (w.alloc (.cells #[.int .i64 p0, .int .i64 p1] 44)) W) => boxG (w := w) g
  have HBX := Lib.hid bx
  clear bx
  have HI := Lib.hid hi
  have HP := Lib.hid hp
  rcases h.view with ⟨rfl, A, c, rfl⟩ | ⟨_, g, c, rfl, _, g2, _, _, hc, _⟩
  · simp at hpos
  · have HC := Lib.hid (fun j hj => (show (w.alloc (.cells #[.int .i64 p0, .int .i64 p1] 44)).cell? ⟨g, j * 2, none⟩ = _ ∧ (w.alloc (.cells #[.int .i64 p0, .int .i64 p1] 44)).cell? ⟨g, j * 2 + 1, none⟩ = _ from ⟨gW.keep0 (hc j hj).1, gW.keep0 (hc j hj).2⟩))
    have HG := Lib.hid gW
    clear h hc hi gW hp
    generalize hW : w.alloc (.cells #[.int .i64 p0, .int .i64 p1] 44) = W at *
    have HW := Lib.hid hW
    go_enter Try.func72, Try.ntmps72
    go_wp2
    go_step3
    go_wp2
    go_step3
    go_wp2
    clear hW
    go_loopw [5] (fun i wr => PRelP ps (p0, p1) W i wr) (fun i _ => (ps.length - intOf i).toNat)
    case atStart => exact ⟨Gr.refl _, 0, Nat.zero_le _, rfl, fun j hj => absurd hj (Nat.not_lt_zero _)⟩
    case round =>
      obtain ⟨gr, k, hk, rfl, hall⟩ := hrel
      obtain ⟨b0, b1⟩ := HBX.out wr gr
      have GR := Lib.hid gr
      have HA := Lib.hid hall
      clear gr hall
      by_cases hlt : k < ps.length
      · rcases hq : ps.getD k (0, 0) with ⟨q0, q1⟩
        have hqp : isP q0 q1 = true := decide_eq_true (at_isP HI.out hlt hq)
        have HQP := Lib.hid hqp
        have f0 := gr_all GR.out (HC.out k hlt).1
        have f1 := gr_all GR.out (HC.out k hlt).2
        rw [hq] at f0 f1
        simp only at f0 f1
        have z0 : (0 : Int) ≤ (k : Int) := by omega
        have z1 : (k : Int) < (ps.length : Int) := by omega
        have d9 : decide (k < ps.length) = true := by simpa using hlt
        have HQ := Lib.hid hq
        clear hq hqp
        by_cases hr : rk (q0, q1) < rk (p0, p1)
        · have HN := Lib.hid (bef_snoc HA.out (show rk (ps.getD k (0, 0)) < rk (p0, p1) by rw [HQ.out]; exact hr))
          go_wp2
          (refine wp_region_quiet_grown mixed (by kernel_rfl) ?_; (repeat (first | go_big_quiet_step ((first | (go_at_call 84; exact Calls.grown_of (Try.comparePlates _ _ _ _ _ HQP.out HP.out (cm_lt hr) _)))) | quiet_step ((first | (go_at_call 84; exact Calls.grown_of (Try.comparePlates _ _ _ _ _ HQP.out HP.out (cm_lt hr) _)))))); refine wpQuiet_nil ?_; intro _ hw'; obtain ⟨⟨nq, osq⟩, hw''⟩ := hw'; subst hw'')
          go_wp2
          go_roundw
          case rel => exact ⟨Gr.grow (Gr.drewN GR.out _) _, k + 1, by omega, by go_num, HN.out⟩
          case measure => simp [intOf]; omega
        · have hpl : k = plc ps (p0, p1) := plc_eq ps (p0, p1) k hk HA.out (fun _ => by rw [HQ.out]; exact hr)
          have HPL := Lib.hid hpl
          clear hpl
          rcases hcm : cm_ge hr with hcv | hcv
          all_goals
            have HV := Lib.hid hcv
            clear hcm hcv
            go_wp2
            (refine wp_region_quiet_grown mixed (by kernel_rfl) ?_; (repeat (first | go_big_quiet_step ((first | (go_at_call 84; exact Calls.grown_of (Try.comparePlates _ _ _ _ _ HQP.out HP.out HV.out _)))) | quiet_step ((first | (go_at_call 84; exact Calls.grown_of (Try.comparePlates _ _ _ _ _ HQP.out HP.out HV.out _)))))); refine wpQuiet_nil ?_; intro _ hw'; obtain ⟨⟨nq, osq⟩, hw''⟩ := hw'; subst hw'')
            go_wp2
            rw [Exit.noGoto_ret]
            go_ret
            exact ⟨by rw [← HPL.out]; rfl, HG.out.trans (Gr.grow (Gr.drewN GR.out _) _)⟩
      · obtain rfl : k = ps.length := by omega
        have hpl : ps.length = plc ps (p0, p1) := plc_eq ps (p0, p1) _ hk HA.out (fun q => absurd q (by omega))
        have HPL := Lib.hid hpl
        clear hpl
        go_wp2
        rw [Exit.noGoto_ret]
        go_ret
        exact ⟨by rw [← HPL.out]; rfl, HG.out.trans GR.out⟩
end Go.Proofs
