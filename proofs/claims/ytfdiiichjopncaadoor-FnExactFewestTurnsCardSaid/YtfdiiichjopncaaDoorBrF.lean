/-
  Contracts of chapter 4: the place of a block among those that are closed (a binary search with the program's own comparison).
-/
import Derived.Test.YtfdiiichjopncaaDoorBrE
namespace Go.Proofs
open Go.RowKit Av
set_option linter.unusedVariables false
set_option linter.unusedSimpArgs false
def BSR (ps : List Blk) (b : Blk) (w : World) (i j : Value) (wr : World) : Prop := Gr w wr ∧ ∃ p q : Nat, p ≤ q ∧ q ≤ ps.length ∧ i = .int .i64 p ∧ j = .int .i64 q ∧ (∀ k, k < p → Lt (ps.getD k b0) b) ∧ (∀ k, q ≤ k → k < ps.length → ¬ Lt (ps.getD k b0) b)
set_option maxRecDepth 100000 in
set_option maxHeartbeats 1600000 in
theorem Tryd.bsearch (w : World) (B : Nat) (a : Value) (ps : List Blk) (x y : Int) (u : Bool) (hu : Up ps) (hl : ps.length ≤ 1048576) (h : OwnB w B a ps) :
    Calls Tryd.prog 61 #[a, .agg #[.int .i64 x, .int .i64 y, .bool u], .func (.func 36) #[] #[]] w fun e w' => e = .returned (.tuple #[.int .i64 (plc ps (x, y, u)), .bool (has ps (x, y, u))]) ∧ Gr w w' := by
  have mixed : Tryd.prog.follows .mixedOrders = true := by kernel_rfl
  have HU := Lib.hid hu
  rcases OwnB.view h with ⟨rfl, A, c, rfl⟩ | ⟨hpos, g, c, rfl, _, hgw, _, _, hc, _⟩
  · have e1 : plc [] (x, y, u) = 0 := rfl
    have e2 : has [] (x, y, u) = false := rfl
    rw [e1, e2]
    clear h hu
    go_enter Tryd.func61, Tryd.ntmps61
    go_wp2
    refine wp_loop_rounds 1 ?_
    rw [rounds_succ]
    go_wp2
    (refine wp_region_quiet_grown mixed (by kernel_rfl) ?_; (repeat (first | go_big_quiet_step ((fail)) | quiet_step ((fail)))); refine wpQuiet_nil ?_; intro _ hw'; obtain ⟨⟨nq, osq⟩, hw''⟩ := hw'; subst hw'')
    go_wp2
    go_ret2
    exact ⟨rfl, by repeat (first | exact Gr.refl _ | refine Gr.alloc ?_ _ | refine Gr.trans ?_ (by assumption) | refine Gr.drew ?_ | refine Gr.drewN ?_ _ | refine Gr.grow ?_ _ | refine Gr.setCell ?_ (by (try simp); (try omega)) _)⟩
  · have HC := Lib.hid hc
    clear h hc hu
    go_enter Tryd.func61, Tryd.ntmps61
    go_wp2
    go_loopw [9, 10, 11] (fun i j _ wr => BSR ps (x, y, u) (w.alloc (.cells #[.int .i64 x, .int .i64 y, .bool u] 71)) i j wr) (fun i j _ _ => (intOf j - intOf i).toNat)
    case atStart => exact ⟨Gr.refl _, 0, ps.length, Nat.zero_le _, Nat.le_refl _, rfl, rfl, fun k hk => absurd hk (Nat.not_lt_zero _), fun k h1 h2 => absurd h2 (Nat.not_lt_of_le h1)⟩
    case round =>
      obtain ⟨gr, p, q, hpq, hq, rfl, rfl, hlo, hhi⟩ := hrel
      have gg := (Gr.alloc (Gr.refl w) (.cells #[.int .i64 x, .int .i64 y, .bool u] 71)).trans gr
      obtain ⟨b0', b1', b2'⟩ := boxG3 gr
      have GR := Lib.hid gr
      have GG := Lib.hid gg
      have HLO := Lib.hid hlo
      have HHI := Lib.hid hhi
      clear gr gg hlo hhi
      by_cases hlt : p < q
      · have z0 : (p : Int) < (q : Int) := by omega
        obtain ⟨m, hm⟩ : ∃ m : Nat, ((p : Int) + (q : Int)) / 2 = m := ⟨(p + q) / 2, by omega⟩
        have hm1 : p ≤ m := by omega
        have hm2 : m < q := by omega
        have hm3 : m < ps.length := by omega
        have z2 : (0 : Int) ≤ (m : Int) := by omega
        have z3 : (m : Int) < (ps.length : Int) := by omega
        rcases hp : ps.getD m b0 with ⟨p0, p1, p2⟩
        obtain ⟨e0, e1, e2⟩ := HC.out m hm3
        rw [hp] at e0 e1 e2
        simp only at e0 e1 e2
        have f0 := gr_all GG.out e0
        have f1 := gr_all GG.out e1
        have f2 := gr_all GG.out e2
        have HP := Lib.hid hp
        clear hp e0 e1 e2
        by_cases hr : Lt (p0, p1, p2) (x, y, u)
        · have HN := Lib.hid (show ∀ k, k < m + 1 → Lt (ps.getD k b0) (x, y, u) from fun k hk => by
            rcases Nat.lt_or_eq_of_le (Nat.le_of_lt_succ hk) with c | c
            · have h1 : Lt (ps.getD k b0) (ps.getD m b0) := by
                rw [getD_eq _ _ hm3, getD_eq _ _ (by omega)]
                exact (List.pairwise_iff_getElem.1 HU.out) _ _ (by omega) hm3 c
              rw [HP.out] at h1
              exact lt_trans h1 hr
            · rw [c, HP.out]; exact hr)
          have H4 := Lib.hid (cmp_lt.2 hr)
          clear hr
          go_wp2
          (refine wp_region_quiet_grown mixed (by kernel_rfl) ?_; (repeat (first | go_big_quiet_step ((first | (go_at_call 36; exact Calls.grown_of (Tryd.compareBlocks (p0, p1, p2) (x, y, u) _ H4.out _)))) | quiet_step ((first | (go_at_call 36; exact Calls.grown_of (Tryd.compareBlocks (p0, p1, p2) (x, y, u) _ H4.out _)))))); refine wpQuiet_nil ?_; intro _ hw'; obtain ⟨⟨nq, osq⟩, hw''⟩ := hw'; subst hw'')
          go_wp2
          go_roundw
          case rel => exact ⟨Gr.grow (Gr.drewN GR.out _) _, m + 1, q, by omega, hq, by go_num, rfl, HN.out, HHI.out⟩
          case measure => simp [intOf]; omega
        · have HN := Lib.hid (show ∀ k, m ≤ k → k < ps.length → ¬ Lt (ps.getD k b0) (x, y, u) from fun k hk hkl => by
            rcases Nat.lt_or_eq_of_le hk with c | c
            · have h1 : Lt (ps.getD m b0) (ps.getD k b0) := by
                rw [getD_eq _ _ hm3, getD_eq _ _ hkl]
                exact (List.pairwise_iff_getElem.1 HU.out) _ _ hm3 hkl c
              rw [HP.out] at h1
              exact fun h2 => hr (lt_trans h1 h2)
            · rw [← c, HP.out]; exact hr)
          obtain ⟨z, H4, hz⟩ : ∃ z, Hid (cmpB (p0, p1, p2) (x, y, u) = z) ∧ ¬ z < 0 := ⟨_, Lib.hid rfl, fun q => hr (cmp_neg.1 q)⟩
          have hz' : decide (z < 0) = false := decide_eq_false hz
          clear hr
          go_wp2
          (refine wp_region_quiet_grown mixed (by kernel_rfl) ?_; (repeat (first | go_big_quiet_step ((first | (go_at_call 36; exact Calls.grown_of (Tryd.compareBlocks (p0, p1, p2) (x, y, u) _ H4.out _)))) | quiet_step ((first | (go_at_call 36; exact Calls.grown_of (Tryd.compareBlocks (p0, p1, p2) (x, y, u) _ H4.out _)))))); refine wpQuiet_nil ?_; intro _ hw'; obtain ⟨⟨nq, osq⟩, hw''⟩ := hw'; subst hw'')
          go_wp2
          go_roundw
          case rel => exact ⟨Gr.grow (Gr.drewN GR.out _) _, p, m, hm1, by omega, rfl, rfl, HLO.out, HN.out⟩
          case measure => simp [intOf]; omega
      · obtain rfl : p = q := by omega
        have e1 : plc ps (x, y, u) = p := plc_eq ps _ p hq HLO.out (fun hl => HHI.out p (Nat.le_refl _) hl)
        have z0 : ¬ (p : Int) < (p : Int) := by omega
        by_cases hpl : p < ps.length
        · have e2 := has_cmp HU.out (x, y, u) (by rw [e1]; exact hpl)
          rw [e1] at e2
          rcases hp : ps.getD p b0 with ⟨p0, p1, p2⟩
          obtain ⟨t0, t1, t2⟩ := HC.out p hpl
          rw [hp] at t0 t1 t2
          simp only at t0 t1 t2
          have f0 := gr_all GG.out t0
          have f1 := gr_all GG.out t1
          have f2 := gr_all GG.out t2
          obtain ⟨z, hz⟩ : ∃ z, cmpB (p0, p1, p2) (x, y, u) = z := ⟨_, rfl⟩
          rw [hp, hz] at e2
          have H4 := Lib.hid hz
          have E1 := Lib.hid e1
          have E2 := Lib.hid e2
          have z2 : (0 : Int) ≤ (p : Int) := by omega
          have z3 : (p : Int) < (ps.length : Int) := by omega
          have z4 : decide ((p : Int) < (ps.length : Int)) = true := decide_eq_true z3
          have z5 : decide (p < ps.length) = true := decide_eq_true hpl
          clear hp t0 t1 t2 e1 e2 hz
          go_wp2
          (refine wp_region_quiet_grown mixed (by kernel_rfl) ?_; (repeat (first | go_big_quiet_step ((first | (go_at_call 36; exact Calls.grown_of (Tryd.compareBlocks (p0, p1, p2) (x, y, u) _ H4.out _)))) | quiet_step ((first | (go_at_call 36; exact Calls.grown_of (Tryd.compareBlocks (p0, p1, p2) (x, y, u) _ H4.out _)))))); refine wpQuiet_nil ?_; intro _ hw'; obtain ⟨⟨nq, osq⟩, hw''⟩ := hw'; subst hw'')
          go_wp2
          go_ret2
          exact ⟨by rw [E1.out, E2.out]; rfl, GG.out.trans (Gr.grow (Gr.drewN (Gr.refl _) _) _)⟩
        · have e2 := has_none HU.out (x, y, u) (by rw [e1]; exact hpl)
          have E1 := Lib.hid e1
          have E2 := Lib.hid e2
          have z3 : ¬ (p : Int) < (ps.length : Int) := by omega
          have z4 : decide ((p : Int) < (ps.length : Int)) = false := decide_eq_false z3
          have z5 : decide (p < ps.length) = false := decide_eq_false hpl
          clear e1 e2
          go_wp2
          (refine wp_region_quiet_grown mixed (by kernel_rfl) ?_; (repeat (first | go_big_quiet_step ((fail)) | quiet_step ((fail)))); refine wpQuiet_nil ?_; intro _ hw'; obtain ⟨⟨nq, osq⟩, hw''⟩ := hw'; subst hw'')
          go_wp2
          go_ret2
          exact ⟨by rw [E1.out, E2.out]; rfl, GG.out.trans (Gr.grow (Gr.drewN (Gr.refl _) _) _)⟩
set_option maxRecDepth 100000 in
set_option maxHeartbeats 1600000 in
theorem Tryd.placeOfClosed (w : World) (W H : Int) (B : Nat) (a : Value) (ps : List Blk) (x y : Int) (u : Bool) (hu : Up ps) (hl : ps.length ≤ 1048576) (h : OwnB w B a ps) :
    Calls Tryd.prog 51 #[.agg #[.int .i64 W, .int .i64 H, a], .agg #[.int .i64 x, .int .i64 y, .bool u]] w fun e w' => e = .returned (.tuple #[.int .i64 (plc ps (x, y, u)), .bool (has ps (x, y, u))]) ∧ Gr w w' := by
  have mixed : Tryd.prog.follows .mixedOrders = true := by kernel_rfl
  have HB := Lib.hid (fun (X : World) (g : Gr w X) => Tryd.bsearch X B a ps x y u hu hl (h.gr g))
  obtain ⟨A, c, rfl, h⟩ := OwnE.eta h
  clear h hu
  generalize plc ps (x, y, u) = k at *
  generalize has ps (x, y, u) = t at *
  go_enter Tryd.func51, Tryd.ntmps51
  go_wp2_with fail
  refine (HB.out _ (by repeat (first | exact Gr.refl _ | refine Gr.alloc ?_ _ | refine Gr.trans ?_ (by assumption) | refine Gr.drew ?_ | refine Gr.drewN ?_ _ | refine Gr.grow ?_ _ | refine Gr.setCell ?_ (by (try simp); (try omega)) _))).mono ?_
  rintro e w1 ⟨rfl, hbW⟩
  go_wp2
  go_ret2
  exact ⟨rfl, by repeat (first | exact Gr.refl _ | refine Gr.alloc ?_ _ | refine Gr.trans ?_ (by assumption) | refine Gr.drew ?_ | refine Gr.drewN ?_ _ | refine Gr.grow ?_ _ | refine Gr.setCell ?_ (by (try simp); (try omega)) _)⟩
end Go.Proofs
