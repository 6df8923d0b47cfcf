/-
  Chapter 8, the program: is a list a plan (impl.isPlan).
-/
import Derived.Test.YtjocipddffillaaBgF
import Derived.OwnWalk
namespace Go.Proofs
open Go.RowKit Bg
set_option linter.unusedVariables false
set_option linter.unusedSimpArgs false
def PlanB (ps : List Pi2) (bag : Int) (pl : List Int) : Prop := pl.length = ps.length ∧ RgUp pl pl.length ∧ ∀ t, t < cntN pl pl.length → wtN (weiF ps) pl pl.length t ≤ bag
theorem plan_steps {ps : List Pi2} {bag : Int} {pl : List Int} (hg : GoodB ps) (hl : pl.length = ps.length) : PlanB ps bag pl ↔ (∀ j, j < pl.length → StepB (weiF ps) pl bag j) := by
  rw [step_iff (fun j => (good_wei hg j).1)]
  exact ⟨fun h => h.2, fun h => ⟨hl, h⟩⟩
def IpRel (ps : List Pi2) (pl : List Int) (bag : Int) (w : World) (s i : Value) (wr : World) : Prop := ∃ k : Nat, k ≤ pl.length ∧ i = .int .i64 k ∧ OwnI wr w.heap.size s (tb (wtN (weiF ps) pl k) (cntN pl k)) ∧ Below w.heap.size w wr ∧ ∀ j, j < k → StepB (weiF ps) pl bag j
set_option maxRecDepth 100000 in
set_option maxHeartbeats 1600000 in
theorem Try.isPlan (w : World) (B B' : Nat) (v v' : Value) (ps : List Pi2) (pl : List Int) (bag : Int) (b : Bool) (hb : b = true ↔ PlanB ps bag pl) (hg : GoodB ps) (hlp : pl.length ≤ 1048576) (h : OwnP 55 w B v ps) (h' : OwnI w B' v' pl) :
    Calls Try.prog 88 #[v, .int .i64 bag, v'] w fun e w' => e = .returned (.bool b) ∧ Below w.heap.size w w' := by
  have mixed : Try.prog.follows .mixedOrders = true := by kernel_rfl
  have hl8 := hg.1
  by_cases hlen : pl.length = ps.length
  case neg =>
    have HF := Lib.hid (not_trueG hb (fun q => hlen q.1))
    have hne : ((pl.length : Int) == (ps.length : Int)) = false := by simp; omega
    have hne2 : ((pl.length : Int) != (ps.length : Int)) = true := by simp; omega
    obtain ⟨A, c, rfl⟩ := h.sl
    obtain ⟨A', c', rfl⟩ := h'.sl
    clear h h' hb
    go_enter Try.func88, Try.ntmps88
    go_wp2
    go_ret
    exact ⟨by rw [HF.out]; rfl, Gr.below (by repeat (first | exact Gr.refl _ | refine Gr.alloc ?_ _ | refine Gr.trans ?_ (by assumption) | refine Gr.drew ?_ | refine Gr.drewN ?_ _ | refine Gr.grow ?_ _ | refine Gr.setCell ?_ (by (try simp); (try omega)) _))⟩
  rw [plan_steps hg hlen] at hb
  have HB0 := Lib.hid hb
  obtain ⟨A', c', rfl, h'⟩ := h'.eta
  obtain ⟨g', rfl⟩ := h'.addr (by omega)
  rcases h.view with ⟨rfl, _⟩ | ⟨hpos, g, c, rfl, _, _, _, _, hc, _⟩
  · simp at hl8
  obtain ⟨i0, hi, hz0, hz1, hz2⟩ := info_parts Try.infoI2
  have HII := Lib.hid hi
  have HO := Lib.hid h'
  have HC := Lib.hid hc
  clear h h' hc hb hi
  go_enter Try.func88, Try.ntmps88
  go_wp2_with (at_make; refine wpList_make_own _ rfl _ _ 29 rfl w.heap.size 3 i0 (.int .i64 0) 1 Try.underlying29 HII.out hz0 hz1 .i64 .i64 _ 8 rfl rfl (by rfl) (by rw [hz2]; omega) (by unfold maxLen; omega) (Nat.le_refl _) ?_; intro w1 hown1 hgr1)
  have hb1 : Below w.heap.size w w1 := (Below.refl _ _).grown hgr1 (Nat.le_refl _) (by simp)
  go_loopw [7, 8, 9, 18] (fun s _ _ i wr => IpRel ps pl bag w s i wr) (fun _ _ _ i _ => (pl.length - intOf i).toNat)
  case atStart => exact ⟨0, Nat.zero_le _, rfl, hown1, hb1, fun j hj => absurd hj (Nat.not_lt_zero _)⟩
  case round =>
    obtain ⟨k, hk, rfl, o5, hb', hall⟩ := hrel
    by_cases hlt : k < pl.length
    · have e0 := cell_k2 hb' (HO.out.at rfl k hlt).1
      have htl := tb_len (wtN (weiF ps) pl k) (cntN pl k)
      have hcl := cnt_le pl k
      have z0 : (0 : Int) ≤ (k : Int) := by omega
      have z1 : (k : Int) < (pl.length : Int) := by omega
      have z2 : (k : Int) < (ps.length : Int) := by omega
      obtain ⟨A5, c5, rfl, o5⟩ := o5.eta
      rw [htl] at o5 ⊢
      cases hin : inn (pl.getD k 0) 0 (cntN pl k : Int)
      · have HF := Lib.hid (not_trueG HB0.out (fun q => by have := (q k hlt).1; have := of_decide_eq_false hin; omega))
        have HIN := Lib.hid hin
        have HB := Lib.hid hb'
        clear hin hall o5 hb'
        generalize pl.getD k 0 = x0 at *
        go_wp2_with (first | (go_at_call 52; refine (Try.within _ _ _ _ HIN.out _).mono ?_; rintro e w1 ⟨rfl, rfl⟩))
        go_ret
        exact ⟨by rw [HF.out]; rfl, HB.out⟩
      have hkk := inn_e hin
      obtain ⟨t, ht⟩ : ∃ t : Nat, pl.getD k 0 = (t : Int) := ⟨(pl.getD k 0).toNat, by omega⟩
      have htc : t ≤ cntN pl k := by omega
      have hcs : cntN pl (k + 1) = if pl.getD k 0 = (cntN pl k : Int) then cntN pl k + 1 else cntN pl k := rfl
      have hnew : tb (wtN (weiF ps) pl k) (cntN pl k) ++ [0] = tb (wtN (weiF ps) pl k) (cntN pl k + 1) := wt_new (fun j hj => (hall j hj).1)
      have hrow := fun m (hm : t < m) => wt_row (f := weiF ps) ht hm
      have hval : weiF ps k = (ps.getD k (0, 0)).2 := rfl
      have hws : wtN (weiF ps) pl (k + 1) t = wtN (weiF ps) pl k t + weiF ps k := by simp only [wtN]; rw [if_pos ht]
      obtain ⟨y, hy⟩ : ∃ y, wtN (weiF ps) pl k t = y := ⟨_, rfl⟩
      have hyb := wt_in (pl := pl) (good_wei hg) k t
      have hpb := good_wei hg k
      have HK := Lib.hid hkk
      have HIN := Lib.hid hin
      have HT := Lib.hid ht
      rw [hval] at hrow hpb hws
      rw [ht] at e0 hcs HIN
      rw [hy] at hyb hrow hws
      have HWS := Lib.hid hws
      have HY := Lib.hid hy
      have HNEW := Lib.hid hnew
      have HRW := Lib.hid hrow
      have HA := Lib.hid hall
      have E1 := Lib.hid (HC.out k (by omega)).2
      clear hval hnew hrow hy hws hall ht hkk hin
      generalize (ps.getD k (0, 0)).2 = x at *
      have HB := Lib.hid hb'
      by_cases hq : t = cntN pl k
      · subst hq
        rw [if_pos rfl] at hcs
        have HCS := Lib.hid hcs
        have HROW := Lib.hid (HRW.out (cntN pl k + 1) (by omega))
        have O5 := Lib.hid o5
        have HTL := Lib.hid htl
        clear hcs o5 htl hb' HRW
        rw [← HCS.out] at HROW
        go_wp2_with (first | (go_at_call 52; refine (Try.within _ _ _ _ HIN.out _).mono ?_; rintro e w1 ⟨rfl, rfl⟩) | (at_builtin; refine wpList_app1J rfl _ _ 29 rfl Try.underlying29 Try.infoI2 w.heap.size _ _ rfl O5.out 0 rfl (by rw [HTL.out]; omega) (by have := HB.out.size; omega) ?_; intro v5 wx ho bx gx sx ax))
        rw [HNEW.out, ← HCS.out] at ho
        rcases ho.view with ⟨hbad, _⟩ | ⟨_, g5, c6, rfl, hg5, _, _, _, _⟩
        · exfalso; have := congrArg List.length hbad; rw [tb_len, HCS.out] at this; simp at this
        have hho := ho
        rw [tb_len] at hho ⊢
        clear ho
        have BXX := HB.out.trans bx
        have E1' := cell_k2 BXX E1.out
        have HOG := hg5
        have hmlen : cntN pl (k + 1) = cntN pl k + 1 := HCS.out
        have c0 := (hho).at (tb_len _ _) (cntN pl k) (by omega)
        rw [tb_get _ _ _ (by omega)] at c0
        have q0 := gr_all (Gr.refl wx) c0.1
        have q1 := gr_all_f (Gr.refl wx) (World.block_lt_of_cell? _ _ c0.1) c0.2
        have q2 := gr_all (Gr.refl wx) E1'
        have HOX := Lib.hid (hho)
        have HBX := Lib.hid (BXX)
        have tz0 : (0 : Int) ≤ ((cntN pl k : Nat) : Int) := by omega
        have tz1 : ((cntN pl k : Nat) : Int) < ((cntN pl (k + 1) : Nat) : Int) := by omega
        have wz : IntKind.i64.wrap (y + x) = y + x := IntWalk.i64_in _ (by omega)
        clear c0 hho hmlen
        rw [HY.out] at q0
        (refine wp_region_grown_tail 11 mixed (by kernel_rfl) ?_; simp only [List.take_succ_cons, List.take_zero, List.drop_succ_cons, List.drop_zero]; (repeat (first | go_big_quiet_step ((fail)) | quiet_step ((fail)))); refine wpQuiet_nil ?_; intro _ hw'; obtain ⟨⟨nq, osq⟩, hw''⟩ := hw'; subst hw'')
        have q0' := q0 nq osq
        have q1' := q1 nq osq
        clear q0 q1 q2
        have gg : Gr wx (Go.Sort.grow ((wx).drewN nq) osq) := Gr.grow (Gr.drewN (Gr.refl _) nq) osq
        have cy : ((Go.Sort.grow ((wx).drewN nq) osq).setCell ⟨g5, cntN pl k, none⟩ (.int .i64 (y + x))).cell? ⟨g5, cntN pl k, none⟩ = some (.int .i64 (y + x)) := World.cell?_setCell_same _ _ _ q0'
        have HBY := Lib.hid (Below.setCell (HBX.out.trans (gg.below.mono HBX.out.size)) (show w.heap.size ≤ (⟨g5, cntN pl k, none⟩ : Addr).block from HOG) (.int .i64 (y + x)))
        have hoy := OwnI.set (HOX.out.gr gg) (tb_len _ _) (cntN pl k) (y + x)
        rw [HROW.out] at hoy
        have HOY := Lib.hid hoy
        clear hoy
        by_cases hbg : bag < y + x
        · have HF := Lib.hid (not_trueG HB0.out (fun q => by
            have := (q k (by omega)).2
            rw [HT.out, Int.toNat_natCast, HWS.out] at this
            omega))
          go_wp2
          go_ret
          exact ⟨by rw [HF.out]; rfl, HBY.out⟩
        · have HS := Lib.hid (all_snocD HA.out (show StepB (weiF ps) pl bag k from ⟨HK.out, by rw [HT.out, Int.toNat_natCast, HWS.out]; omega⟩))
          go_wp2
          go_roundw
          case rel => first | exact ⟨k + 1, by omega, by go_num, HOY.out, HBY.out, HS.out⟩ | exact ⟨_, _, _, _, ⟨k + 1, by omega, by go_num, HOY.out, HBY.out, HS.out⟩, rfl, rfl, rfl, rfl⟩
          case measure => simp [intOf]; omega
      · rw [if_neg (by omega)] at hcs
        have HCS := Lib.hid hcs
        have HROW := Lib.hid (HRW.out (cntN pl k) (by omega))
        rw [← HCS.out] at HROW
        have hqq : ((t : Int) == (cntN pl k : Int)) = false := by simp; omega
        have e1 := cell_k2 hb' E1.out
        obtain ⟨g5, rfl⟩ := o5.addr (by rw [htl]; omega)
        have hho := o5
        have HOG : w.heap.size ≤ g5 := (World.ownsRow.lt o5 g5 rfl).1
        clear o5 hb' HRW hcs
        go_wp2_with (first | (go_at_call 52; refine (Try.within _ _ _ _ HIN.out _).mono ?_; rintro e w1 ⟨rfl, rfl⟩))
        have hgen : cntN pl k = cntN pl (k + 1) := HCS.out.symm
        rw [hgen] at hho ⊢
        rw [hgen] at hqq
        have hmlen : t < cntN pl (k + 1) := by omega
        have c0 := (hho).at (tb_len _ _) (t) (by omega)
        rw [tb_get _ _ _ (by omega)] at c0
        have q0 := gr_all (Gr.refl wr) c0.1
        have q1 := gr_all_f (Gr.refl wr) (World.block_lt_of_cell? _ _ c0.1) c0.2
        have q2 := gr_all (Gr.refl wr) e1
        have HOX := Lib.hid (hho)
        have HBX := Lib.hid (HB.out)
        have tz0 : (0 : Int) ≤ ((t : Nat) : Int) := by omega
        have tz1 : ((t : Nat) : Int) < ((cntN pl (k + 1) : Nat) : Int) := by omega
        have wz : IntKind.i64.wrap (y + x) = y + x := IntWalk.i64_in _ (by omega)
        clear c0 hho hmlen
        rw [HY.out] at q0
        (refine wp_region_grown_tail 11 mixed (by kernel_rfl) ?_; simp only [List.take_succ_cons, List.take_zero, List.drop_succ_cons, List.drop_zero]; (repeat (first | go_big_quiet_step ((fail)) | quiet_step ((fail)))); refine wpQuiet_nil ?_; intro _ hw'; obtain ⟨⟨nq, osq⟩, hw''⟩ := hw'; subst hw'')
        have q0' := q0 nq osq
        have q1' := q1 nq osq
        clear q0 q1 q2
        have gg : Gr wr (Go.Sort.grow ((wr).drewN nq) osq) := Gr.grow (Gr.drewN (Gr.refl _) nq) osq
        have cy : ((Go.Sort.grow ((wr).drewN nq) osq).setCell ⟨g5, t, none⟩ (.int .i64 (y + x))).cell? ⟨g5, t, none⟩ = some (.int .i64 (y + x)) := World.cell?_setCell_same _ _ _ q0'
        have HBY := Lib.hid (Below.setCell (HBX.out.trans (gg.below.mono HBX.out.size)) (show w.heap.size ≤ (⟨g5, t, none⟩ : Addr).block from HOG) (.int .i64 (y + x)))
        have hoy := OwnI.set (HOX.out.gr gg) (tb_len _ _) (t) (y + x)
        rw [HROW.out] at hoy
        have HOY := Lib.hid hoy
        clear hoy
        by_cases hbg : bag < y + x
        · have HF := Lib.hid (not_trueG HB0.out (fun q => by
            have := (q k (by omega)).2
            rw [HT.out, Int.toNat_natCast, HWS.out] at this
            omega))
          go_wp2
          go_ret
          exact ⟨by rw [HF.out]; rfl, HBY.out⟩
        · have HS := Lib.hid (all_snocD HA.out (show StepB (weiF ps) pl bag k from ⟨HK.out, by rw [HT.out, Int.toNat_natCast, HWS.out]; omega⟩))
          go_wp2
          go_roundw
          case rel => first | exact ⟨k + 1, by omega, by go_num, HOY.out, HBY.out, HS.out⟩ | exact ⟨_, _, _, _, ⟨k + 1, by omega, by go_num, HOY.out, HBY.out, HS.out⟩, rfl, rfl, rfl, rfl⟩
          case measure => simp [intOf]; omega
    · obtain rfl : k = pl.length := by omega
      have HF := Lib.hid (show b = true from HB0.out.2 hall)
      have HB := Lib.hid hb'
      clear o5 hb' hall
      go_wp2
      go_ret
      exact ⟨by rw [HF.out]; rfl, HB.out⟩
end Go.Proofs
