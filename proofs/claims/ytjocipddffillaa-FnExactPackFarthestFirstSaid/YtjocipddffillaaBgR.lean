/-
  Chapter 8, the model: parcels put in an order into the first trip in which there is room (spec.bgPack).
-/
import Derived.Test.YtjocipddffillaaBgP
import Derived.Test.YtjocipddffillaaBgK
namespace Go.Proofs
open Go.RowKit Bg
set_option linter.unusedVariables false
set_option linter.unusedSimpArgs false
def ordF (ps : List Pi2) (ord : List Int) (k : Nat) : Int := weiF ps (ord.getD k 0).toNat
theorem ask_wei {ps : List Pi2} {bag : Int} (h : AskB ps bag) (j : Nat) : 0 ≤ weiF ps j ∧ weiF ps j ≤ bag := by
  refine ⟨(good_wei h.1 j).1, ?_⟩
  by_cases c : j < ps.length
  · exact h.2.2 j c
  · unfold weiF
    rw [List.getD, List.getElem?_eq_none (by omega)]
    have := h.2.1
    simp
    omega
def PkRel (f : Nat → Int) (bag : Int) (ord : List Int) (n : Nat) (w : World) (s i : Value) (wr : World) : Prop := ∃ k : Nat, k ≤ n ∧ i = .int .i64 k ∧ OwnI wr w.heap.size (.slice (some ⟨w.heap.size, 0, none⟩) n n) (plnN f bag ord n k) ∧ OwnI wr (w.heap.size + 1) s (lefN f bag k) ∧ Below w.heap.size w wr
def PjRel (lf : List Int) (x : Int) (W : World) (s : Value) (wr : World) : Prop := Gr W wr ∧ ∃ m : Nat, m ≤ lf.length ∧ s = .int .i64 m ∧ ∀ j, j < m → lf.getD j 0 < x
set_option maxRecDepth 100000 in
set_option maxHeartbeats 3200000 in
theorem Try.bgPack (w : World) (B B' : Nat) (v v' : Value) (ps : List Pi2) (bag : Int) (ord : List Int) (n : Nat) (f : Nat → Int) (hask : AskB ps bag) (hn : ps.length = n) (hlen : ord.length = n) (hord : ∀ k, k < n → 0 ≤ ord.getD k 0 ∧ ord.getD k 0 < (n : Int))
    (hf : ∀ k, k < n → f k = weiF ps (ord.getD k 0).toNat) (hfb : ∀ j, 0 ≤ f j ∧ f j ≤ bag) (h : OwnP 55 w B v ps) (h' : OwnI w B' v' ord) :
    Calls Try.prog 68 #[v, .int .i64 bag, v'] w fun e w' => ∃ u, e = .returned u ∧ OwnI w' w.heap.size u (named (plnN f bag ord n n)) ∧ Below w.heap.size w w' := by
  have mixed : Try.prog.follows .mixedOrders = true := by kernel_rfl
  have hl8 := hask.1.1
  have hbag := hask.2.1
  obtain ⟨A', c', rfl, h'⟩ := h'.eta
  rw [hlen] at h' ⊢
  obtain ⟨g', rfl⟩ := h'.addr (by omega)
  rcases h.view with ⟨rfl, _⟩ | ⟨hpos, g, c, rfl, _, _, _, _, hc, _⟩
  · simp at hl8
  rw [hn] at hc hl8 hpos ⊢
  obtain ⟨i0, hi, hz0, hz1, hz2⟩ := info_parts Try.infoI2
  have HII := Lib.hid hi
  have HO := Lib.hid h'
  have HC := Lib.hid hc
  have HORD := Lib.hid hord
  have HF := Lib.hid hf
  have HFB := Lib.hid hfb
  have HLEN := Lib.hid hlen
  have HPW := Lib.hid (fun k => pkW_in (f := f) (bag := bag) hfb k)
  have HNM := Lib.hid (fun W u (o : OwnI W w.heap.size u (plnN f bag ord n n)) => Try.bgNamed W w.heap.size u (plnN f bag ord n n) (by rw [pln_len]; omega) o)
  clear h h' hc hi hord hf hfb hlen hn hask
  go_enter Try.func68, Try.ntmps68
  go_wp2_with (at_make; refine wpList_make_full _ rfl _ _ 29 rfl w.heap.size 3 i0 (.int .i64 0) 1 Try.underlying29 HII.out hz0 hz1 .i64 .i64 _ _ n rfl rfl (by rfl) (by rfl) (by rw [hz2]; omega) (by unfold maxLen; omega) (Nat.le_refl _) ?_; intro w1 hown1 hgr1)
  have hb1 : Below w.heap.size w w1 := (Below.refl _ w).grown hgr1 (Nat.le_refl _) (by simp)
  have ho1 : OwnI w1 w.heap.size (.slice (some ⟨w.heap.size, 0, none⟩) n n) (plnN f bag ord n 0) := by
    unfold OwnI
    simp only [plnN, List.length_replicate]
    simpa [Value.cells, toList_madeCells_one] using hown1
  have HO1 := Lib.hid ho1
  have HB1 := Lib.hid hb1
  clear hown1 hgr1 ho1 hb1
  go_loopw [8, 10, 11, 17] (fun s _ _ i wr => PkRel f bag ord n w s i wr) (fun _ _ _ i _ => (n - intOf i).toNat)
  case atStart => exact ⟨0, Nat.zero_le _, rfl, HO1.out, OwnI.nil2 _ _, HB1.out⟩
  case round =>
    obtain ⟨k, hk, rfl, op, o8, hb'⟩ := hrel
    by_cases hlt : k < n
    · have e0 := cell_k2 hb' (HO.out.at HLEN.out k hlt).1
      obtain ⟨q, hq⟩ : ∃ q : Nat, ord.getD k 0 = (q : Int) := ⟨(ord.getD k 0).toNat, by have := HORD.out k hlt; omega⟩
      have hqn : q < n := by have := (HORD.out k hlt).2; rw [hq] at this; omega
      have e1 := cell_k2 hb' (HC.out q hqn).2
      have hfk : f k = (ps.getD q (0, 0)).2 := by rw [HF.out k hlt, hq, Int.toNat_natCast]; rfl
      have hxb := HFB.out k
      have E1 := Lib.hid (HC.out q hqn).2
      rw [hq] at e0
      rw [hfk] at hxb
      have HFK := Lib.hid hfk
      have HQ := Lib.hid hq
      clear hfk hq
      generalize (ps.getD q (0, 0)).2 = x at *
      have hll := lef_len f bag k
      have hpl := pkW_le f bag k
      have z0 : (0 : Int) ≤ (k : Int) := by omega
      have z1 : (k : Int) < (n : Int) := by omega
      have zq0 : (0 : Int) ≤ (q : Int) := by omega
      have zq1 : (q : Int) < (n : Int) := by omega
      have hfind := fun m (hm : m ≤ (pkW f bag k).length) h e => lef_find (f := f) (bag := bag) (k := k) (m := m) hm h e
      have hnew := fun c => lef_new (f := f) (bag := bag) (k := k) c
      have hold := fun c => lef_old (f := f) (bag := bag) (k := k) c
      have hlb : ∀ j, j < (pkW f bag k).length → 0 ≤ (lefN f bag k).getD j 0 ∧ (lefN f bag k).getD j 0 ≤ bag := fun j hj => by
        rw [lef_get _ _ _ _ hj]
        have := HPW.out k j hj
        omega
      rw [HFK.out] at hfind hnew hold
      obtain ⟨L, hL⟩ : ∃ L, (pkW f bag k).length = L := ⟨_, rfl⟩
      rw [hL] at hll hpl hfind hnew hold hlb
      obtain ⟨A8, c8, rfl, o8⟩ := o8.eta
      rw [hll] at o8 ⊢
      have hcap := o8.capBB
      have HFIND := Lib.hid hfind
      have HNEW := Lib.hid hnew
      have HOLD := Lib.hid hold
      have HLB := Lib.hid hlb
      have HLL := Lib.hid hll
      have OP := Lib.hid op
      have O8 := Lib.hid o8
      have HB := Lib.hid hb'
      clear hfind hnew hold hlb hL op o8 hb'
      obtain ⟨T, hT⟩ : ∃ T, pkT f bag (pkW f bag k) k = T := ⟨_, rfl⟩
      rw [hT] at HNEW HOLD HFIND
      have HTT := Lib.hid hT
      clear hT
      generalize lefN f bag k = lf at *
      rename World => X
      go_wp2
      go_loopw [11] (fun s wr' => PjRel lf x X s wr') (fun s _ => (L - intOf s).toNat)
      case atStart => exact ⟨by repeat (first | exact Gr.refl _ | refine Gr.alloc ?_ _ | refine Gr.trans ?_ (by assumption) | refine Gr.drew ?_ | refine Gr.drewN ?_ _ | refine Gr.grow ?_ _ | refine Gr.setCell ?_ (by (try simp); (try omega)) _), 0, Nat.zero_le _, rfl, fun j hj => absurd hj (Nat.not_lt_zero _)⟩
      case round =>
        obtain ⟨gr, m, hm, rfl, hall⟩ := hrel
        rw [hll] at hm
        have HGR := Lib.hid gr
        have f1 := gr.keep0 e1
        have y0 : (0 : Int) ≤ (m : Int) := by omega
        by_cases hmL : m < L
        · obtain ⟨g8, rfl⟩ := O8.out.addr (by rw [hll]; omega)
          have e8 := ((O8.out.gr gr).at hll m hmL).1
          have y1 : (m : Int) < (L : Int) := by omega
          obtain ⟨y, hy⟩ : ∃ y, lf.getD m 0 = y := ⟨_, rfl⟩
          rw [hy] at e8
          have hyb := HLB.out m hmL
          rw [hy] at hyb
          by_cases hyx : y < x
          · have HS := Lib.hid (all_snocD (q := fun j => lf.getD j 0 < x) hall (by rw [hy]; exact hyx))
            clear hall hll gr hy
            go_wp2
            go_quiet (fail)
            go_wp2
            go_roundw
            case rel => exact ⟨Gr.drewN HGR.out nq, m + 1, by rw [HLL.out]; omega, by go_num, HS.out⟩
            case measure => simp [intOf]; omega
          · have hTm : T = m := HFIND.out m hm hall (.inr (by rw [hy]; omega))
            have HOLD2 := Lib.hid (HOLD.out (by omega))
            obtain rfl : m = T := hTm.symm
            have HY := Lib.hid hy
            have HOG : w.heap.size + 1 ≤ g8 := (World.ownsRow.lt O8.out g8 rfl).1
            have wxy : IntKind.i64.wrap (y - x) = y - x := IntWalk.i64_in _ (by omega)
            have hmne : ((m : Int) == (L : Int)) = false := by simp; omega
            clear hall hll gr hy hTm
            go_wp2
            go_quiet (fail)
            have gz : Gr X (wr.drewN nq) := Gr.drewN HGR.out nq
            go_wp2
            obtain ⟨Y, hY⟩ : ∃ Y, wr.drewN nq = Y := ⟨_, rfl⟩
            rw [hY] at gz ⊢
            have rfl_len := HLL.out
            clear hY
            have c0 := (O8.out.gr gz).at HLL.out (m) (by omega)
            rw [HY.out] at c0
            have q0 := gr_all (Gr.refl Y) c0.1
            have q1 := gr_all_f (Gr.refl Y) (World.block_lt_of_cell? _ _ c0.1) c0.2
            have q2 := gr_all (Gr.refl Y) (gz.keep0 e1)
            have HOX := Lib.hid (O8.out.gr gz)
            have HOPX := Lib.hid (OP.out.gr gz)
            have HBX := Lib.hid (HB.out.trans (gz.below.mono HB.out.size))
            clear c0
            clear rfl_len
            (refine wp_region_grown_tail 11 mixed (by kernel_rfl) ?_; simp only [List.take_succ_cons, List.take_zero, List.drop_succ_cons, List.drop_zero]; (repeat (first | go_big_quiet_step ((fail)) | quiet_step ((fail)))); refine wpQuiet_nil ?_; intro _ hw'; obtain ⟨⟨nq, osq⟩, hw''⟩ := hw'; subst hw'')
            have q0' := q0 nq osq
            have q1' := q1 nq osq
            clear q0 q1 q2
            have gg : Gr Y (Go.Sort.grow ((Y).drewN nq) osq) := Gr.grow (Gr.drewN (Gr.refl _) nq) osq
            have bset : Below (w.heap.size + 1) (Go.Sort.grow ((Y).drewN nq) osq) ((Go.Sort.grow ((Y).drewN nq) osq).setCell ⟨g8, m, none⟩ (.int .i64 (y - x))) := Below.setCell (Below.refl _ _) HOG _
            have hpz : OwnI ((Go.Sort.grow ((Y).drewN nq) osq).setCell ⟨g8, m, none⟩ (.int .i64 (y - x))) w.heap.size (.slice (some ⟨w.heap.size, 0, none⟩) n n) (plnN f bag ord n k) := (HOPX.out.gr gg).under bset (fun b hb => by simp [Value.ownBlock] at hb; omega)
            have hlz := OwnI.set (HOX.out.gr gg) HLL.out (m) (y - x)
            rw [show lf.set m (y - x) = lefN f bag (k + 1) by rw [← HY.out]; exact HOLD2.out] at hlz
            obtain ⟨pz0, pz1⟩ := hpz.at (pln_len _ _ _ _ _) q (by omega)
            have HPZ := Lib.hid hpz
            have HLZ := Lib.hid hlz
            have hBZ : Below w.heap.size w ((Go.Sort.grow ((Y).drewN nq) osq).setCell ⟨g8, m, none⟩ (.int .i64 (y - x))) := Below.setCell (HBX.out.trans (gg.below.mono HBX.out.size)) (Nat.le_of_succ_le HOG) _
            have HBZ := Lib.hid hBZ
            clear hpz hlz hBZ bset
            go_wp2
            go_roundw
            case rel =>
              first | exact ⟨k + 1, by omega, by go_num, by have := OwnI.set HPZ.out (pln_len _ _ _ _ _) q (((m : Nat)) : Int); rw [show (plnN f bag ord n k).set q (((m : Nat)) : Int) = plnN f bag ord n (k + 1) by simp only [plnN]; rw [HQ.out, Int.toNat_natCast, HTT.out]] at this; exact this, HLZ.out.grown (grownBy_set (World.grownBy.refl _ _)) (.inr (by simp [Value.ownBlock]; omega)), Below.setCell HBZ.out (Nat.le_refl _) _⟩
            case measure => simp [intOf]; omega
        · obtain rfl : m = L := by omega
          have hTm : T = m := HFIND.out m hm hall (.inl rfl)
          have HNEW2 := Lib.hid (HNEW.out hTm)
          have wxy : IntKind.i64.wrap (bag - x) = bag - x := IntWalk.i64_in _ (by omega)
          have HTT : RowKit.Hid (pkT f bag (pkW f bag k) k = m) := Lib.hid (HTT.out.trans hTm)
          clear hall gr hTm
          go_wp2
          go_quiet (fail)
          have gz : Gr X (wr.drewN nq) := Gr.drewN HGR.out nq
          have BZ0 := HB.out.trans (gz.below.mono HB.out.size)
          have O8b := Lib.hid (O8.out.gr gz)
          have OPb := Lib.hid (OP.out.gr gz)
          obtain ⟨Y, hY⟩ : ∃ Y, wr.drewN nq = Y := ⟨_, rfl⟩
          rw [hY] at gz BZ0 O8b OPb ⊢
          have hYs : w.heap.size + 1 ≤ Y.heap.size := by have := OPb.out.lt w.heap.size rfl; omega
          clear hY
          go_wp2_with (first | (at_builtin; refine wpList_app1J rfl _ _ 29 rfl Try.underlying29 Try.infoI2 (w.heap.size + 1) _ _ rfl O8b.out bag rfl (by rw [HLL.out]; omega) hYs ?_; intro v5 wx ho bx gx sx ax))
          have hl1 : (lf ++ [bag]).length = m + 1 := by simp [HLL.out]
          obtain ⟨A9, c9, rfl, ho⟩ := ho.eta
          rw [hl1] at ho ⊢
          obtain ⟨g8, rfl⟩ := ho.addr (by omega)
          have hho := ho
          clear ho
          have HOG : w.heap.size + 1 ≤ g8 := (World.ownsRow.lt hho g8 rfl).1
          have BXX : Below w.heap.size w wx := BZ0.trans (bx.mono (Nat.le_succ _))
          have f1' := cell_k2 BXX E1.out
          have OPX : OwnI wx w.heap.size (.slice (some ⟨w.heap.size, 0, none⟩) n n) (plnN f bag ord n k) := OPb.out.under bx (fun b hb => by simp [Value.ownBlock] at hb; omega)
          have HY : RowKit.Hid ((lf ++ [bag]).getD m 0 = bag) := Lib.hid (by rw [getD_app, if_neg (by rw [HLL.out]; omega), if_pos HLL.out.symm])
          have tz1 : (m : Int) < ((m + 1 : Nat) : Int) := by omega
          have rfl_len := hl1
          have c0 := (hho).at rfl_len (m) (by omega)
          rw [HY.out] at c0
          have q0 := gr_all (Gr.refl wx) c0.1
          have q1 := gr_all_f (Gr.refl wx) (World.block_lt_of_cell? _ _ c0.1) c0.2
          have q2 := gr_all (Gr.refl wx) f1'
          have HOX := Lib.hid (hho)
          have HOPX := Lib.hid (OPX)
          have HBX := Lib.hid (BXX)
          clear c0
          (refine wp_region_grown_tail 11 mixed (by kernel_rfl) ?_; simp only [List.take_succ_cons, List.take_zero, List.drop_succ_cons, List.drop_zero]; (repeat (first | go_big_quiet_step ((fail)) | quiet_step ((fail)))); refine wpQuiet_nil ?_; intro _ hw'; obtain ⟨⟨nq, osq⟩, hw''⟩ := hw'; subst hw'')
          have q0' := q0 nq osq
          have q1' := q1 nq osq
          clear q0 q1 q2
          have gg : Gr wx (Go.Sort.grow ((wx).drewN nq) osq) := Gr.grow (Gr.drewN (Gr.refl _) nq) osq
          have bset : Below (w.heap.size + 1) (Go.Sort.grow ((wx).drewN nq) osq) ((Go.Sort.grow ((wx).drewN nq) osq).setCell ⟨g8, m, none⟩ (.int .i64 (bag - x))) := Below.setCell (Below.refl _ _) HOG _
          have hpz : OwnI ((Go.Sort.grow ((wx).drewN nq) osq).setCell ⟨g8, m, none⟩ (.int .i64 (bag - x))) w.heap.size (.slice (some ⟨w.heap.size, 0, none⟩) n n) (plnN f bag ord n k) := (HOPX.out.gr gg).under bset (fun b hb => by simp [Value.ownBlock] at hb; omega)
          have hlz := OwnI.set (HOX.out.gr gg) rfl_len (m) (bag - x)
          rw [show (lf ++ [bag]).set m (bag - x) = lefN f bag (k + 1) by exact HNEW2.out] at hlz
          obtain ⟨pz0, pz1⟩ := hpz.at (pln_len _ _ _ _ _) q (by omega)
          have HPZ := Lib.hid hpz
          have HLZ := Lib.hid hlz
          have hBZ : Below w.heap.size w ((Go.Sort.grow ((wx).drewN nq) osq).setCell ⟨g8, m, none⟩ (.int .i64 (bag - x))) := Below.setCell (HBX.out.trans (gg.below.mono HBX.out.size)) (Nat.le_of_succ_le HOG) _
          have HBZ := Lib.hid hBZ
          clear hpz hlz hBZ bset
          go_wp2
          go_roundw
          case rel =>
            first | exact ⟨k + 1, by omega, by go_num, by have := OwnI.set HPZ.out (pln_len _ _ _ _ _) q (((m : Nat)) : Int); rw [show (plnN f bag ord n k).set q (((m : Nat)) : Int) = plnN f bag ord n (k + 1) by simp only [plnN]; rw [HQ.out, Int.toNat_natCast, HTT.out]] at this; exact this, HLZ.out.grown (grownBy_set (World.grownBy.refl _ _)) (.inr (by simp [Value.ownBlock]; omega)), Below.setCell HBZ.out (Nat.le_refl _) _⟩
          case measure => simp [intOf]; omega
    · obtain rfl : k = n := by omega
      have OP := Lib.hid op
      have HB := Lib.hid hb'
      clear o8 op hb'
      go_wp2_with (go_at_call 82; refine (HNM.out _ _ OP.out).mono ?_; rintro e w2 ⟨v2, rfl, o2, b2⟩)
      go_ret
      exact ⟨_, rfl, o2.mono HB.out.size, HB.out.trans (b2.mono HB.out.size)⟩
end Go.Proofs
