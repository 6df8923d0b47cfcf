/-
  Chapter 8, the model: lists that are the same (spec.l1Same), the weights of trips (spec.bgWeights), plans (spec.bgPlan).
-/
import Derived.Test.YtjocipddffillaaBgC
import Derived.Test.YtjocipddffillaaBgD
import Derived.Test.YtjocipddffillaaNuFb
namespace Go.Proofs
open Go.RowKit Bg
set_option linter.unusedVariables false
set_option linter.unusedSimpArgs false
theorem OwnI.sl {w : World} {B : Nat} {v : Value} {xs : List Int} (h : OwnI w B v xs) : ∃ A c, v = .slice A xs.length c := by
  obtain ⟨A, c, e, _⟩ := h.eta
  exact ⟨A, c, e⟩
def SmRel (xs ys : List Int) (w : World) (i : Value) (wr : World) : Prop := Gr w wr ∧ ∃ k : Nat, k ≤ xs.length ∧ i = .int .i64 k ∧ ∀ j, j < k → xs.getD j 0 = ys.getD j 0
theorem same_iff {xs ys : List Int} (hl : xs.length = ys.length) (h : ∀ j, j < xs.length → xs.getD j 0 = ys.getD j 0) : xs = ys := by
  rw [← tb_id xs, ← tb_id ys, ← hl]
  exact tb_congr h
set_option maxRecDepth 100000 in
set_option maxHeartbeats 800000 in
theorem Try.l1Same (w : World) (B B' : Nat) (v v' : Value) (xs ys : List Int) (b : Bool) (hb : b = true ↔ xs = ys) (hl : xs.length ≤ 1048576) (hl' : ys.length ≤ 1048576) (h : OwnI w B v xs) (h' : OwnI w B' v' ys) :
    Calls Try.prog 86 #[v, v'] w fun e w' => e = .returned (.bool b) ∧ Gr w w' := by
  obtain ⟨A, c, rfl, h⟩ := h.eta
  obtain ⟨A', c', rfl, h'⟩ := h'.eta
  have HB := Lib.hid hb
  by_cases hlen : xs.length = ys.length
  · have O1 := Lib.hid h
    have O2 := Lib.hid h'
    rw [← hlen] at O2
    clear h h' hb
    go_enter Try.func86, Try.ntmps86
    go_wp2
    go_loopw [5, 13] (fun _ i wr => SmRel xs ys w i wr) (fun _ i _ => (xs.length - intOf i).toNat)
    case atStart => exact ⟨by repeat (first | exact Gr.refl _ | refine Gr.alloc ?_ _ | refine Gr.trans ?_ (by assumption) | refine Gr.drew ?_ | refine Gr.drewN ?_ _ | refine Gr.grow ?_ _ | refine Gr.setCell ?_ (by (try simp); (try omega)) _), 0, Nat.zero_le _, rfl, fun j hj => absurd hj (Nat.not_lt_zero _)⟩
    case round =>
      obtain ⟨gr, k, hk, rfl, hall⟩ := hrel
      by_cases hlt : k < xs.length
      · obtain ⟨g, rfl⟩ := O1.out.addr (by omega)
        obtain ⟨g', rfl⟩ := O2.out.addr (by omega)
        have e1 := gr.keep2 (O1.out.at rfl k hlt).1
        have e2 := gr.keep2 (O2.out.at hlen.symm k hlt).1
        have z0 : (0 : Int) ≤ (k : Int) := by omega
        have z1 : (k : Int) < (xs.length : Int) := by omega
        have GR := Lib.hid gr
        have HA := Lib.hid hall
        clear gr hall
        by_cases he : xs.getD k 0 = ys.getD k 0
        · have HS := Lib.hid (all_snocD HA.out (show (fun j => xs.getD j 0 = ys.getD j 0) k from he))
          rw [← he] at e2
          generalize xs.getD k 0 = x at *
          clear he
          go_wp2
          go_quiet (fail)
          go_wp2
          go_roundw
          case rel => exact ⟨Gr.drewN GR.out _, k + 1, by omega, by go_num, HS.out⟩
          case measure => simp [intOf]; omega
        · have HF := Lib.hid (not_trueG HB.out (fun q => he (by rw [q])))
          have hne : ((xs.getD k 0) == (ys.getD k 0)) = false := by simpa using he
          have hne2 : ((xs.getD k 0) != (ys.getD k 0)) = true := by simpa using he
          generalize xs.getD k 0 = x at *
          generalize ys.getD k 0 = y at *
          clear he
          go_wp2
          go_quiet (fail)
          go_wp2
          go_ret
          exact ⟨by rw [HF.out]; rfl, Gr.drewN GR.out _⟩
      · obtain rfl : k = xs.length := by omega
        have HF := Lib.hid (show b = true from HB.out.2 (same_iff hlen hall))
        have GR := Lib.hid gr
        clear gr hall
        go_wp2
        go_ret
        exact ⟨by rw [HF.out]; rfl, GR.out⟩
  · have HF := Lib.hid (not_trueG hb (fun q => hlen (by rw [q])))
    have hne : ((xs.length : Int) == (ys.length : Int)) = false := by simp; omega
    have hne2 : ((xs.length : Int) != (ys.length : Int)) = true := by simp; omega
    clear h h' hb
    go_enter Try.func86, Try.ntmps86
    go_wp2
    go_ret
    exact ⟨by rw [HF.out]; rfl, by repeat (first | exact Gr.refl _ | refine Gr.alloc ?_ _ | refine Gr.trans ?_ (by assumption) | refine Gr.drew ?_ | refine Gr.drewN ?_ _ | refine Gr.grow ?_ _ | refine Gr.setCell ?_ (by (try simp); (try omega)) _)⟩
def weiF (ps : List Pi2) (j : Nat) : Int := (ps.getD j (0, 0)).2
def houF (ps : List Pi2) (j : Nat) : Int := (ps.getD j (0, 0)).1
theorem good_wei {ps : List Pi2} (h : GoodB ps) (j : Nat) : 0 ≤ weiF ps j ∧ weiF ps j ≤ 1000 := by
  unfold weiF
  by_cases c : j < ps.length
  · have := (h.2 j c).2; omega
  · rw [List.getD, List.getElem?_eq_none (by omega)]; simp
theorem good_hou {ps : List Pi2} (h : GoodB ps) (j : Nat) : 0 ≤ houF ps j ∧ houF ps j ≤ 100 := by
  unfold houF
  by_cases c : j < ps.length
  · have := (h.2 j c).1; omega
  · rw [List.getD, List.getElem?_eq_none (by omega)]; simp
def WtRel (f : Nat → Int) (pl : List Int) (w : World) (s i : Value) (wr : World) : Prop := ∃ k : Nat, k ≤ pl.length ∧ i = .int .i64 k ∧ OwnI wr w.heap.size s (tb (wtN f pl k) (cntN pl k)) ∧ Below w.heap.size w wr
def FaRel (f : Nat → Int) (pl : List Int) (w : World) (s i : Value) (wr : World) : Prop := ∃ k : Nat, k ≤ pl.length ∧ i = .int .i64 k ∧ OwnI wr w.heap.size s (tb (faN f pl k) (cntN pl k)) ∧ Below w.heap.size w wr
set_option maxRecDepth 100000 in
set_option maxHeartbeats 1600000 in
theorem Try.bgWeights (w : World) (B B' : Nat) (v v' : Value) (ps : List Pi2) (pl : List Int) (hg : GoodB ps) (hlen : pl.length = ps.length) (hrg : RgUp pl pl.length) (h : OwnP 55 w B v ps) (h' : OwnI w B' v' pl) :
    Calls Try.prog 61 #[v, v'] w fun e w' => ∃ u, e = .returned u ∧ OwnI w' w.heap.size u (tb (wtN (weiF ps) pl pl.length) (cntN pl pl.length)) ∧ Below w.heap.size w w' := by
  have mixed : Try.prog.follows .mixedOrders = true := by kernel_rfl
  have hl8 := hg.1
  obtain ⟨A', c', rfl, h'⟩ := h'.eta
  obtain ⟨g', rfl⟩ := h'.addr (by omega)
  rcases h.view with ⟨rfl, _⟩ | ⟨hpos, g, c, rfl, _, _, _, _, hc, _⟩
  · simp at hl8
  have HO := Lib.hid h'
  have HC := Lib.hid hc
  have HR := Lib.hid hrg
  clear h h' hc
  go_enter Try.func61, Try.ntmps61
  go_wp2
  go_loopw [5, 6, 7, 10] (fun s _ _ i wr => WtRel (weiF ps) pl w s i wr) (fun _ _ _ i _ => (pl.length - intOf i).toNat)
  case atStart => exact ⟨0, Nat.zero_le _, rfl, OwnI.nil2 _ _, Below.refl _ _⟩
  case round =>
    obtain ⟨k, hk, rfl, o5, hb'⟩ := hrel
    by_cases hlt : k < pl.length
    · have e0 := cell_k2 hb' (HO.out.at rfl k hlt).1
      have e1 := cell_k2 hb' (HC.out k (by omega)).2
      obtain ⟨t, ht⟩ : ∃ t : Nat, pl.getD k 0 = (t : Int) := ⟨(pl.getD k 0).toNat, by have := HR.out k hlt; omega⟩
      have htc : t ≤ cntN pl k := by have := (HR.out k hlt).2; rw [ht] at this; omega
      have hcl := cnt_le pl k
      have hcs : cntN pl (k + 1) = if pl.getD k 0 = (cntN pl k : Int) then cntN pl k + 1 else cntN pl k := rfl
      have hnew : tb (wtN (weiF ps) pl k) (cntN pl k) ++ [0] = tb (wtN (weiF ps) pl k) (cntN pl k + 1) := wt_new (fun j hj => HR.out j (by omega))
      have hrow := fun m (hm : t < m) => wt_row (f := weiF ps) ht hm
      have hval : weiF ps k = (ps.getD k (0, 0)).2 := rfl
      obtain ⟨y, hy⟩ : ∃ y, wtN (weiF ps) pl k t = y := ⟨_, rfl⟩
      have hyb := wt_in (pl := pl) (good_wei hg) k t
      have hpb := good_wei hg k
      have z0 : (0 : Int) ≤ (k : Int) := by omega
      have z1 : (k : Int) < (pl.length : Int) := by omega
      have z2 : (k : Int) < (ps.length : Int) := by omega
      rw [hval] at hrow hpb
      rw [ht] at e0 hcs
      rw [hy] at hyb hrow
      have HY := Lib.hid hy
      have HNEW := Lib.hid hnew
      have HRW := Lib.hid hrow
      have E1 := Lib.hid (HC.out k (by omega)).2
      clear hval hnew hrow hy
      generalize (ps.getD k (0, 0)).2 = x at *
      have HB := Lib.hid hb'
      by_cases hq : t = cntN pl k
      · subst hq
        rw [if_pos rfl] at hcs
        have HCS := Lib.hid hcs
        have HROW := Lib.hid (HRW.out (cntN pl k + 1) (by omega))
        have htl := tb_len (wtN (weiF ps) pl k) (cntN pl k)
        obtain ⟨A5, c5, rfl, o5⟩ := o5.eta
        rw [htl] at o5
        rw [htl]
        have O5 := Lib.hid o5
        have HTL := Lib.hid htl
        clear hcs o5 htl hb' HRW
        rw [← HCS.out] at HROW
        go_wp2_with (first | (at_builtin; refine wpList_app1J rfl _ _ 29 rfl Try.underlying29 Try.infoI2 w.heap.size _ _ rfl O5.out 0 rfl (by rw [HTL.out]; omega) (by have := HB.out.size; omega) ?_; intro v5 wx ho bx gx sx ax))
        rw [HNEW.out, ← HCS.out] at ho
        rcases ho.view with ⟨hbad, _⟩ | ⟨_, g5, c6, rfl, hg5, _, _, _, _⟩
        · exfalso; have := congrArg List.length hbad; rw [tb_len, HCS.out] at this; simp at this
        have hho := ho
        rw [tb_len] at hho ⊢
        clear ho
        have BXX := HB.out.trans bx
        have E1' := cell_k2 BXX E1.out
        have HOG := hg5
        have hmlen : cntN pl (k + 1) = cntN pl k + 1 := HCS.out
        have c0 := (hho).at (tb_len _ _) (cntN pl k) (by omega)
        rw [tb_get _ _ _ (by omega)] at c0
        have q0 := gr_all (Gr.refl wx) c0.1
        have q1 := gr_all_f (Gr.refl wx) (World.block_lt_of_cell? _ _ c0.1) c0.2
        have q2 := gr_all (Gr.refl wx) E1'
        have HOX := Lib.hid (hho)
        have HBX := Lib.hid (BXX)
        have tz0 : (0 : Int) ≤ ((cntN pl k : Nat) : Int) := by omega
        have tz1 : ((cntN pl k : Nat) : Int) < ((cntN pl (k + 1) : Nat) : Int) := by omega
        have wz : IntKind.i64.wrap (y + x) = y + x := IntWalk.i64_in _ (by omega)
        clear c0 hho hmlen
        rw [HY.out] at q0
        (refine wp_region_grown_tail 11 mixed (by kernel_rfl) ?_; simp only [List.take_succ_cons, List.take_zero, List.drop_succ_cons, List.drop_zero]; (repeat (first | go_big_quiet_step ((fail)) | quiet_step ((fail)))); refine wpQuiet_nil ?_; intro _ hw'; obtain ⟨⟨nq, osq⟩, hw''⟩ := hw'; subst hw'')
        have q0' := q0 nq osq
        have q1' := q1 nq osq
        clear q0 q1 q2
        go_wp2
        have gg : Gr wx (Go.Sort.grow ((wx).drewN nq) osq) := Gr.grow (Gr.drewN (Gr.refl _) nq) osq
        go_roundw
        case rel =>
          refine ⟨_, _, _, _, ?_, rfl, rfl, rfl, rfl⟩; refine ⟨k + 1, by omega, by go_num, ?_, Below.setCell (HBX.out.trans (gg.below.mono HBX.out.size)) HOG _⟩
          have := OwnI.set (HOX.out.gr gg) (tb_len _ _) (cntN pl k) (y + x)
          rw [HROW.out] at this
          exact this
        case measure => simp [intOf]; omega
      · rw [if_neg (by omega)] at hcs
        have HCS := Lib.hid hcs
        have HROW := Lib.hid (HRW.out (cntN pl k) (by omega))
        rw [← HCS.out] at HROW
        have hqq : ((t : Int) == (cntN pl k : Int)) = false := by simp; omega
        rcases o5.view with ⟨hbad, _⟩ | ⟨_, g5, c6, rfl, hg5, _, _, _, _⟩
        · exfalso; have := congrArg List.length hbad; rw [tb_len] at this; simp at this; omega
        have hho := o5
        rw [tb_len] at hho ⊢
        have hgen : cntN pl k = cntN pl (k + 1) := HCS.out.symm
        have HOG := hg5
        clear o5 hb' HRW hcs
        go_wp2
        rw [hgen] at hho ⊢
        rw [hgen] at hqq
        have hmlen : t < cntN pl (k + 1) := by omega
        have c0 := (hho).at (tb_len _ _) (t) (by omega)
        rw [tb_get _ _ _ (by omega)] at c0
        have q0 := gr_all (Gr.refl wr) c0.1
        have q1 := gr_all_f (Gr.refl wr) (World.block_lt_of_cell? _ _ c0.1) c0.2
        have q2 := gr_all (Gr.refl wr) e1
        have HOX := Lib.hid (hho)
        have HBX := Lib.hid (HB.out)
        have tz0 : (0 : Int) ≤ ((t : Nat) : Int) := by omega
        have tz1 : ((t : Nat) : Int) < ((cntN pl (k + 1) : Nat) : Int) := by omega
        have wz : IntKind.i64.wrap (y + x) = y + x := IntWalk.i64_in _ (by omega)
        clear c0 hho hmlen
        rw [HY.out] at q0
        (refine wp_region_grown_tail 11 mixed (by kernel_rfl) ?_; simp only [List.take_succ_cons, List.take_zero, List.drop_succ_cons, List.drop_zero]; (repeat (first | go_big_quiet_step ((fail)) | quiet_step ((fail)))); refine wpQuiet_nil ?_; intro _ hw'; obtain ⟨⟨nq, osq⟩, hw''⟩ := hw'; subst hw'')
        have q0' := q0 nq osq
        have q1' := q1 nq osq
        clear q0 q1 q2
        go_wp2
        have gg : Gr wr (Go.Sort.grow ((wr).drewN nq) osq) := Gr.grow (Gr.drewN (Gr.refl _) nq) osq
        go_roundw
        case rel =>
          refine ⟨k + 1, by omega, by go_num, ?_, Below.setCell (HBX.out.trans (gg.below.mono HBX.out.size)) HOG _⟩
          have := OwnI.set (HOX.out.gr gg) (tb_len _ _) (t) (y + x)
          rw [HROW.out] at this
          exact this
        case measure => simp [intOf]; omega
    · obtain rfl : k = pl.length := by omega
      have O5 := Lib.hid o5
      have HB := Lib.hid hb'
      clear o5 hb'
      go_wp2
      go_ret
      exact ⟨_, rfl, O5.out, HB.out⟩
end Go.Proofs
