/-
  Chapter 8, the model: the farthest houses of trips (spec.bgFar).
-/
import Derived.Test.YtjocipddffillaaBgF
namespace Go.Proofs
open Go.RowKit Bg
set_option linter.unusedVariables false
set_option linter.unusedSimpArgs false
set_option maxHeartbeats 400000 in
theorem Try.l1MostB (a b : Int) (w : World) : Calls Try.prog 92 #[.int .i64 a, .int .i64 b] w fun e w' => e = .returned (.int .i64 (max a b)) ∧ w = w' := by
  go_enter Try.func92, Try.ntmps92
  go_wp2
  all_goals
    go_ret
    exact ⟨ri (by rw [Int.max_def]; split <;> omega), rfl⟩
set_option maxRecDepth 100000 in
set_option maxHeartbeats 1600000 in
theorem Try.bgFar (w : World) (B B' : Nat) (v v' : Value) (ps : List Pi2) (pl : List Int) (hg : GoodB ps) (hlen : pl.length = ps.length) (hrg : RgUp pl pl.length) (h : OwnP 55 w B v ps) (h' : OwnI w B' v' pl) :
    Calls Try.prog 91 #[v, v'] w fun e w' => ∃ u, e = .returned u ∧ OwnI w' w.heap.size u (tb (faN (houF ps) pl pl.length) (cntN pl pl.length)) ∧ Below w.heap.size w w' := by
  have mixed : Try.prog.follows .mixedOrders = true := by kernel_rfl
  have hl8 := hg.1
  obtain ⟨A', c', rfl, h'⟩ := h'.eta
  obtain ⟨g', rfl⟩ := h'.addr (by omega)
  rcases h.view with ⟨rfl, _⟩ | ⟨hpos, g, c, rfl, _, _, _, _, hc, _⟩
  · simp at hl8
  have HO := Lib.hid h'
  have HC := Lib.hid hc
  have HR := Lib.hid hrg
  clear h h' hc
  go_enter Try.func91, Try.ntmps91
  go_wp2
  go_loopw [5, 6, 7, 10] (fun s _ _ i wr => FaRel (houF ps) pl w s i wr) (fun _ _ _ i _ => (pl.length - intOf i).toNat)
  case atStart => exact ⟨0, Nat.zero_le _, rfl, OwnI.nil2 _ _, Below.refl _ _⟩
  case round =>
    obtain ⟨k, hk, rfl, o5, hb'⟩ := hrel
    by_cases hlt : k < pl.length
    · have e0 := cell_k2 hb' (HO.out.at rfl k hlt).1
      have e1 := cell_k2 hb' (HC.out k (by omega)).1
      obtain ⟨t, ht⟩ : ∃ t : Nat, pl.getD k 0 = (t : Int) := ⟨(pl.getD k 0).toNat, by have := HR.out k hlt; omega⟩
      have htc : t ≤ cntN pl k := by have := (HR.out k hlt).2; rw [ht] at this; omega
      have hcl := cnt_le pl k
      have hcs : cntN pl (k + 1) = if pl.getD k 0 = (cntN pl k : Int) then cntN pl k + 1 else cntN pl k := rfl
      have hnew : tb (faN (houF ps) pl k) (cntN pl k) ++ [0] = tb (faN (houF ps) pl k) (cntN pl k + 1) := fa_new (fun j hj => HR.out j (by omega))
      have hrow := fun m (hm : t < m) => fa_row (f := houF ps) ht hm
      have hval : houF ps k = (ps.getD k (0, 0)).1 := rfl
      obtain ⟨y, hy⟩ : ∃ y, faN (houF ps) pl k t = y := ⟨_, rfl⟩
      have hyb := fa_in (pl := pl) (k := k) (M := 100) (by omega) (fun j _ => good_hou hg j) t
      have hpb := good_hou hg k
      have z0 : (0 : Int) ≤ (k : Int) := by omega
      have z1 : (k : Int) < (pl.length : Int) := by omega
      have z2 : (k : Int) < (ps.length : Int) := by omega
      rw [hval] at hrow hpb
      rw [ht] at e0 hcs
      rw [hy] at hyb hrow
      have HY := Lib.hid hy
      have HNEW := Lib.hid hnew
      have HRW := Lib.hid hrow
      have E1 := Lib.hid (HC.out k (by omega)).1
      clear hval hnew hrow hy
      generalize (ps.getD k (0, 0)).1 = x at *
      have HB := Lib.hid hb'
      by_cases hq : t = cntN pl k
      · subst hq
        rw [if_pos rfl] at hcs
        have HCS := Lib.hid hcs
        have HROW := Lib.hid (HRW.out (cntN pl k + 1) (by omega))
        have htl := tb_len (faN (houF ps) pl k) (cntN pl k)
        obtain ⟨A5, c5, rfl, o5⟩ := o5.eta
        rw [htl] at o5
        rw [htl]
        have O5 := Lib.hid o5
        have HTL := Lib.hid htl
        clear hcs o5 htl hb' HRW
        rw [← HCS.out] at HROW
        go_wp2_with (first | (at_builtin; refine wpList_app1J rfl _ _ 29 rfl Try.underlying29 Try.infoI2 w.heap.size _ _ rfl O5.out 0 rfl (by rw [HTL.out]; omega) (by have := HB.out.size; omega) ?_; intro v5 wx ho bx gx sx ax))
        rw [HNEW.out, ← HCS.out] at ho
        rcases ho.view with ⟨hbad, _⟩ | ⟨_, g5, c6, rfl, hg5, _, _, _, _⟩
        · exfalso; have := congrArg List.length hbad; rw [tb_len, HCS.out] at this; simp at this
        have hho := ho
        rw [tb_len] at hho ⊢
        clear ho
        have BXX := HB.out.trans bx
        have E1' := cell_k2 BXX E1.out
        have HOG := hg5
        have hmlen : cntN pl (k + 1) = cntN pl k + 1 := HCS.out
        have c0 := (hho).at (tb_len _ _) (cntN pl k) (by omega)
        rw [tb_get _ _ _ (by omega)] at c0
        have q0 := gr_all (Gr.refl wx) c0.1
        have q1 := gr_all_f (Gr.refl wx) (World.block_lt_of_cell? _ _ c0.1) c0.2
        have q2 := gr_all (Gr.refl wx) E1'
        have HOX := Lib.hid (hho)
        have HBX := Lib.hid (BXX)
        have tz0 : (0 : Int) ≤ ((cntN pl k : Nat) : Int) := by omega
        have tz1 : ((cntN pl k : Nat) : Int) < ((cntN pl (k + 1) : Nat) : Int) := by omega
        have HMO := Lib.hid (fun W => Try.l1MostB y x W)
        clear c0 hho hmlen
        rw [HY.out] at q0
        (refine wp_region_grown_tail 13 mixed (by kernel_rfl) ?_; simp only [List.take_succ_cons, List.take_zero, List.drop_succ_cons, List.drop_zero]; (repeat (first | go_big_quiet_step ((first | (go_at_call 92; exact Calls.grown_of (same_gr (HMO.out _))))) | quiet_step ((first | (go_at_call 92; exact Calls.grown_of (same_gr (HMO.out _))))))); refine wpQuiet_nil ?_; intro _ hw'; obtain ⟨⟨nq, osq⟩, hw''⟩ := hw'; subst hw'')
        have q0' := q0 nq osq
        have q1' := q1 nq osq
        clear q0 q1 q2
        go_wp2
        have gg : Gr wx (Go.Sort.grow ((wx).drewN nq) osq) := Gr.grow (Gr.drewN (Gr.refl _) nq) osq
        go_roundw
        case rel =>
          refine ⟨_, _, _, _, ?_, rfl, rfl, rfl, rfl⟩; refine ⟨k + 1, by omega, by go_num, ?_, Below.setCell (HBX.out.trans (gg.below.mono HBX.out.size)) HOG _⟩
          have := OwnI.set (HOX.out.gr gg) (tb_len _ _) (cntN pl k) (max y x)
          rw [HROW.out] at this
          exact this
        case measure => simp [intOf]; omega
      · rw [if_neg (by omega)] at hcs
        have HCS := Lib.hid hcs
        have HROW := Lib.hid (HRW.out (cntN pl k) (by omega))
        rw [← HCS.out] at HROW
        have hqq : ((t : Int) == (cntN pl k : Int)) = false := by simp; omega
        rcases o5.view with ⟨hbad, _⟩ | ⟨_, g5, c6, rfl, hg5, _, _, _, _⟩
        · exfalso; have := congrArg List.length hbad; rw [tb_len] at this; simp at this; omega
        have hho := o5
        rw [tb_len] at hho ⊢
        have hgen : cntN pl k = cntN pl (k + 1) := HCS.out.symm
        have HOG := hg5
        clear o5 hb' HRW hcs
        go_wp2
        rw [hgen] at hho ⊢
        rw [hgen] at hqq
        have hmlen : t < cntN pl (k + 1) := by omega
        have c0 := (hho).at (tb_len _ _) (t) (by omega)
        rw [tb_get _ _ _ (by omega)] at c0
        have q0 := gr_all (Gr.refl wr) c0.1
        have q1 := gr_all_f (Gr.refl wr) (World.block_lt_of_cell? _ _ c0.1) c0.2
        have q2 := gr_all (Gr.refl wr) e1
        have HOX := Lib.hid (hho)
        have HBX := Lib.hid (HB.out)
        have tz0 : (0 : Int) ≤ ((t : Nat) : Int) := by omega
        have tz1 : ((t : Nat) : Int) < ((cntN pl (k + 1) : Nat) : Int) := by omega
        have HMO := Lib.hid (fun W => Try.l1MostB y x W)
        clear c0 hho hmlen
        rw [HY.out] at q0
        (refine wp_region_grown_tail 13 mixed (by kernel_rfl) ?_; simp only [List.take_succ_cons, List.take_zero, List.drop_succ_cons, List.drop_zero]; (repeat (first | go_big_quiet_step ((first | (go_at_call 92; exact Calls.grown_of (same_gr (HMO.out _))))) | quiet_step ((first | (go_at_call 92; exact Calls.grown_of (same_gr (HMO.out _))))))); refine wpQuiet_nil ?_; intro _ hw'; obtain ⟨⟨nq, osq⟩, hw''⟩ := hw'; subst hw'')
        have q0' := q0 nq osq
        have q1' := q1 nq osq
        clear q0 q1 q2
        go_wp2
        have gg : Gr wr (Go.Sort.grow ((wr).drewN nq) osq) := Gr.grow (Gr.drewN (Gr.refl _) nq) osq
        go_roundw
        case rel =>
          refine ⟨k + 1, by omega, by go_num, ?_, Below.setCell (HBX.out.trans (gg.below.mono HBX.out.size)) HOG _⟩
          have := OwnI.set (HOX.out.gr gg) (tb_len _ _) (t) (max y x)
          rw [HROW.out] at this
          exact this
        case measure => simp [intOf]; omega
    · obtain rfl : k = pl.length := by omega
      have O5 := Lib.hid o5
      have HB := Lib.hid hb'
      clear o5 hb'
      go_wp2
      go_ret
      exact ⟨_, rfl, O5.out, HB.out⟩
end Go.Proofs
