/-
  Contracts of chapter 2: how many plates of a list come before one, and whether it is there (the model's).
-/
import Derived.Test.YtcmlojidcpomjaaPlK
namespace Go.Proofs
open Go.RowKit Pl
set_option linter.unusedVariables false
set_option linter.unusedSimpArgs false
def PRelP (ps : List Pi2) (p : Pi2) (W : World) (i : Value) (wr : World) : Prop := Gr W wr ∧ ∃ k : Nat, k ≤ ps.length ∧ i = .int .i64 k ∧ ∀ j, j < k → rk (ps.getD j (0, 0)) < rk p
theorem bef_snoc {ps : List Pi2} {p : Pi2} {k : Nat} (ha : ∀ j, j < k → rk (ps.getD j (0, 0)) < rk p) (h : rk (ps.getD k (0, 0)) < rk p) : ∀ j, j < k + 1 → rk (ps.getD j (0, 0)) < rk p := fun j hj => by
  rcases Nat.lt_or_eq_of_le (Nat.le_of_lt_succ hj) with c | c
  · exact ha j c
  · rw [c]; exact h
theorem at_isP {ps : List Pi2} (hi : ∀ q ∈ ps, IsP q) {j : Nat} (hj : j < ps.length) {q0 q1 : Int} (hq : ps.getD j (0, 0) = (q0, q1)) : IsP (q0, q1) := by
  rw [← hq, getD_eq _ _ hj]; exact hi _ (List.getElem_mem hj)
set_option maxRecDepth 100000 in
set_option maxHeartbeats 1600000 in
theorem Try.isPlace (w : World) (B : Nat) (v : Value) (ps : List Pi2) (p0 p1 : Int) (hi : ∀ q ∈ ps, IsP q) (hp : isP p0 p1 = true) (hl : ps.length ≤ 1048576) (h : OwnP 44 w B v ps) :
    Calls Try.prog 56 #[v, .agg #[.int .i64 p0, .int .i64 p1]] w fun e w' => e = .returned (.tuple #[.int .i64 (plc ps (p0, p1)), .bool (decide (Has ps (p0, p1)))]) ∧ Gr w w' := by
  have mixed : Try.prog.follows .mixedOrders = true := by kernel_rfl
  obtain ⟨a1, a2, a3, a4⟩ := isP_t hp
  have gW : Gr w (w.alloc (.cells #[.int .i64 p0, .int .i64 p1] 44)) := Gr.alloc (Gr.refl _) _
  have bx := fun (W : World) (g : Gr (w.alloc (.cells #[.int .i64 p0, .int .i64 p1] 44)) W) => boxG (w := w) g
  have HBX := Lib.hid bx
  clear bx
  have HI := Lib.hid hi
  rcases h.view with ⟨rfl, A, c, rfl⟩ | ⟨hpos, g, c, rfl, _, g2, _, _, hc, _⟩
  · have e1 : plc [] (p0, p1) = 0 := rfl
    have e2 : decide (Has [] (p0, p1)) = false := by simp [Has, plc]
    rw [e1, e2]
    clear h e1 e2 hi
    go_enter Try.func56, Try.ntmps56
    go_wp2
    refine wp_loop_rounds 1 ?_
    rw [rounds_succ]
    go_wp2
    (refine wp_region_quiet_grown mixed (by kernel_rfl) ?_; (repeat (first | go_big_quiet_step ((fail)) | quiet_step ((fail)))); refine wpQuiet_nil ?_; intro _ hw'; obtain ⟨⟨nq, osq⟩, hw''⟩ := hw'; subst hw'')
    go_wp2
    (refine wp_region_quiet_grown mixed (by kernel_rfl) ?_; (repeat (first | go_big_quiet_step ((fail)) | quiet_step ((fail)))); refine wpQuiet_nil ?_; intro _ hw'; obtain ⟨⟨nq, osq⟩, hw''⟩ := hw'; subst hw'')
    go_wp2
    go_ret2
    exact ⟨rfl, by repeat (first | exact Gr.refl _ | refine Gr.alloc ?_ _ | refine Gr.trans ?_ (by assumption) | refine Gr.drew ?_ | refine Gr.drewN ?_ _ | refine Gr.grow ?_ _ | refine Gr.setCell ?_ (by (try simp); (try omega)) _)⟩
  · have HC := Lib.hid (fun j hj => (show (w.alloc (.cells #[.int .i64 p0, .int .i64 p1] 44)).cell? ⟨g, j * 2, none⟩ = _ ∧ (w.alloc (.cells #[.int .i64 p0, .int .i64 p1] 44)).cell? ⟨g, j * 2 + 1, none⟩ = _ from ⟨gW.keep0 (hc j hj).1, gW.keep0 (hc j hj).2⟩))
    have HG := Lib.hid gW
    clear h hc hi gW
    generalize hW : w.alloc (.cells #[.int .i64 p0, .int .i64 p1] 44) = W at *
    have HW := Lib.hid hW
    go_enter Try.func56, Try.ntmps56
    go_wp2
    clear hW
    go_loopw [6] (fun i wr => PRelP ps (p0, p1) W i wr) (fun i _ => (ps.length - intOf i).toNat)
    case atStart => exact ⟨Gr.refl _, 0, Nat.zero_le _, rfl, fun j hj => absurd hj (Nat.not_lt_zero _)⟩
    case round =>
      obtain ⟨gr, k, hk, rfl, hall⟩ := hrel
      obtain ⟨b0, b1⟩ := HBX.out wr gr
      have GR := Lib.hid gr
      have HA := Lib.hid hall
      clear gr hall
      by_cases hlt : k < ps.length
      · rcases hq : ps.getD k (0, 0) with ⟨q0, q1⟩
        obtain ⟨c1, c2, c3, c4⟩ := at_isP HI.out hlt hq
        have f0 := gr_all GR.out (HC.out k hlt).1
        have f1 := gr_all GR.out (HC.out k hlt).2
        rw [hq] at f0 f1
        simp only at f0 f1
        have z0 : (0 : Int) ≤ (k : Int) := by omega
        have z1 : (k : Int) < (ps.length : Int) := by omega
        have d9 : decide (k < ps.length) = true := by simpa using hlt
        have HQ := Lib.hid hq
        clear hq
        by_cases hr : rk (q0, q1) < rk (p0, p1)
        · have HN := Lib.hid (bef_snoc HA.out (show rk (ps.getD k (0, 0)) < rk (p0, p1) by rw [HQ.out]; exact hr))
          go_wp2
          (refine wp_region_quiet_grown mixed (by kernel_rfl) ?_; (repeat (first | go_big_quiet_step ((first | (go_at_call 64; exact Calls.grown_of (Try.isRank _ _ (by omega) (by omega) (by omega) (by omega) _)))) | quiet_step ((first | (go_at_call 64; exact Calls.grown_of (Try.isRank _ _ (by omega) (by omega) (by omega) (by omega) _)))))); refine wpQuiet_nil ?_; intro _ hw'; obtain ⟨⟨nq, osq⟩, hw''⟩ := hw'; subst hw'')
          go_wp2
          go_roundw
          case rel => exact ⟨Gr.grow (Gr.drewN GR.out _) _, k + 1, by omega, by go_num, HN.out⟩
          case measure => simp [intOf]; omega
        · have hpl : k = plc ps (p0, p1) := plc_eq ps (p0, p1) k hk HA.out (fun _ => by rw [HQ.out]; exact hr)
          have HPL := Lib.hid hpl
          clear hpl
          by_cases he : q0 = p0 ∧ q1 = p1
          · obtain ⟨rfl, rfl⟩ := he
            have HF := Lib.hid (show decide (Has ps (q0, q1)) = true from decide_eq_true ⟨by rw [← HPL.out]; exact hlt, by rw [← HPL.out]; exact HQ.out⟩)
            go_wp2
            (refine wp_region_quiet_grown mixed (by kernel_rfl) ?_; (repeat (first | go_big_quiet_step ((first | (go_at_call 64; exact Calls.grown_of (Try.isRank _ _ (by omega) (by omega) (by omega) (by omega) _)))) | quiet_step ((first | (go_at_call 64; exact Calls.grown_of (Try.isRank _ _ (by omega) (by omega) (by omega) (by omega) _)))))); refine wpQuiet_nil ?_; intro _ hw'; obtain ⟨⟨nq, osq⟩, hw''⟩ := hw'; subst hw'')
            go_wp2
            obtain ⟨b2, b3⟩ := HBX.out _ (Gr.grow (Gr.drewN GR.out nq) osq)
            have f2 := gr_all (Gr.grow (Gr.drewN GR.out nq) osq) (HC.out k hlt).1
            have f3 := gr_all (Gr.grow (Gr.drewN GR.out nq) osq) (HC.out k hlt).2
            rw [HQ.out] at f2 f3
            simp only at f2 f3
            (refine wp_region_quiet_grown mixed (by kernel_rfl) ?_; (repeat (first | go_big_quiet_step ((fail)) | quiet_step ((fail)))); refine wpQuiet_nil ?_; intro _ hw'; obtain ⟨⟨nq, osq⟩, hw''⟩ := hw'; subst hw'')
            go_wp2
            go_ret2
            exact ⟨by rw [HF.out, ← HPL.out]; rfl, HG.out.trans (Gr.grow (Gr.drewN (Gr.grow (Gr.drewN GR.out _) _) _) _)⟩
          · have HF := Lib.hid (show decide (Has ps (p0, p1)) = false from decide_eq_false (fun hh => he (by have := hh.2; rw [← HPL.out, HQ.out] at this; exact ⟨congrArg Prod.fst this, congrArg Prod.snd this⟩)))
            by_cases h0 : q0 = p0
            · subst h0
              have hd : (q1 == p1) = false := by simp; exact fun e => he ⟨rfl, e⟩
              have hd2 : ¬ q1 = p1 := fun e => he ⟨rfl, e⟩
              clear he
              go_wp2
              (refine wp_region_quiet_grown mixed (by kernel_rfl) ?_; (repeat (first | go_big_quiet_step ((first | (go_at_call 64; exact Calls.grown_of (Try.isRank _ _ (by omega) (by omega) (by omega) (by omega) _)))) | quiet_step ((first | (go_at_call 64; exact Calls.grown_of (Try.isRank _ _ (by omega) (by omega) (by omega) (by omega) _)))))); refine wpQuiet_nil ?_; intro _ hw'; obtain ⟨⟨nq, osq⟩, hw''⟩ := hw'; subst hw'')
              go_wp2
              obtain ⟨b2, b3⟩ := HBX.out _ (Gr.grow (Gr.drewN GR.out nq) osq)
              have f2 := gr_all (Gr.grow (Gr.drewN GR.out nq) osq) (HC.out k hlt).1
              have f3 := gr_all (Gr.grow (Gr.drewN GR.out nq) osq) (HC.out k hlt).2
              rw [HQ.out] at f2 f3
              simp only at f2 f3
              (refine wp_region_quiet_grown mixed (by kernel_rfl) ?_; (repeat (first | go_big_quiet_step ((fail)) | quiet_step ((fail)))); refine wpQuiet_nil ?_; intro _ hw'; obtain ⟨⟨nq, osq⟩, hw''⟩ := hw'; subst hw'')
              go_wp2
              go_ret2
              exact ⟨by rw [HF.out, ← HPL.out]; rfl, HG.out.trans (Gr.grow (Gr.drewN (Gr.grow (Gr.drewN GR.out _) _) _) _)⟩
            · have hd : (q0 == p0) = false := by simpa using h0
              clear he
              go_wp2
              (refine wp_region_quiet_grown mixed (by kernel_rfl) ?_; (repeat (first | go_big_quiet_step ((first | (go_at_call 64; exact Calls.grown_of (Try.isRank _ _ (by omega) (by omega) (by omega) (by omega) _)))) | quiet_step ((first | (go_at_call 64; exact Calls.grown_of (Try.isRank _ _ (by omega) (by omega) (by omega) (by omega) _)))))); refine wpQuiet_nil ?_; intro _ hw'; obtain ⟨⟨nq, osq⟩, hw''⟩ := hw'; subst hw'')
              go_wp2
              obtain ⟨b2, b3⟩ := HBX.out _ (Gr.grow (Gr.drewN GR.out nq) osq)
              have f2 := gr_all (Gr.grow (Gr.drewN GR.out nq) osq) (HC.out k hlt).1
              have f3 := gr_all (Gr.grow (Gr.drewN GR.out nq) osq) (HC.out k hlt).2
              rw [HQ.out] at f2 f3
              simp only at f2 f3
              (refine wp_region_quiet_grown mixed (by kernel_rfl) ?_; (repeat (first | go_big_quiet_step ((fail)) | quiet_step ((fail)))); refine wpQuiet_nil ?_; intro _ hw'; obtain ⟨⟨nq, osq⟩, hw''⟩ := hw'; subst hw'')
              go_wp2
              go_ret2
              exact ⟨by rw [HF.out, ← HPL.out]; rfl, HG.out.trans (Gr.grow (Gr.drewN (Gr.grow (Gr.drewN GR.out _) _) _) _)⟩
      · obtain rfl : k = ps.length := by omega
        have hpl : ps.length = plc ps (p0, p1) := plc_eq ps (p0, p1) _ hk HA.out (fun q => absurd q (by omega))
        have HPL := Lib.hid hpl
        have HF := Lib.hid (show decide (Has ps (p0, p1)) = false from decide_eq_false (fun hh => by have := hh.1; omega))
        clear hpl
        go_wp2
        (refine wp_region_quiet_grown mixed (by kernel_rfl) ?_; (repeat (first | go_big_quiet_step ((fail)) | quiet_step ((fail)))); refine wpQuiet_nil ?_; intro _ hw'; obtain ⟨⟨nq, osq⟩, hw''⟩ := hw'; subst hw'')
        go_wp2
        (refine wp_region_quiet_grown mixed (by kernel_rfl) ?_; (repeat (first | go_big_quiet_step ((fail)) | quiet_step ((fail)))); refine wpQuiet_nil ?_; intro _ hw'; obtain ⟨⟨nq, osq⟩, hw''⟩ := hw'; subst hw'')
        go_wp2
        go_ret2
        exact ⟨by rw [HF.out, ← HPL.out]; rfl, HG.out.trans (Gr.grow (Gr.drewN (Gr.grow (Gr.drewN GR.out _) _) _) _)⟩
end Go.Proofs
