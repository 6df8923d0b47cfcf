/-
  The farthest one of the corners that are reached (impl.farthest), in a seat of chapter 6.
-/
import Derived.Test.YtmklniikhdfaiaaDoorLgR
import Derived.Test.YtmklniikhdfaiaaDoorLgM
import Derived.BigRegion
namespace Go.Proofs
open Go.RowKit Av Gm Go.Maps
set_option linter.unusedVariables false
set_option linter.unusedSimpArgs false
/-- two cells of a block that can be written -/
def Pr2 (w : World) (n : Nat) (p : Int × Int) : Prop := w.cell? ⟨n, 0, none⟩ = some (.int .i64 p.1) ∧ w.cell? ⟨n, 1, none⟩ = some (.int .i64 p.2) ∧ w.frozen? ⟨n, 0, none⟩ = false ∧ w.frozen? ⟨n, 1, none⟩ = false
theorem Pr2.below {w w' : World} {n C : Nat} {p : Int × Int} (h : Pr2 w n p) (g : Below C w w') (hC : w.heap.size ≤ C) : Pr2 w' n p := by
  obtain ⟨a, b, c, d⟩ := h
  have hn := World.block_lt_of_cell? _ _ a
  have hn' : n < C := Nat.lt_of_lt_of_le hn hC
  exact ⟨(g.cell (p := ⟨n, 0, none⟩) hn').trans a, (g.cell (p := ⟨n, 1, none⟩) hn').trans b, (g.frozen (p := ⟨n, 0, none⟩) hn').trans c, (g.frozen (p := ⟨n, 1, none⟩) hn').trans d⟩
theorem Pr2.other {w : World} {n m o : Nat} {p : Int × Int} (h : Pr2 w n p) (hm : m ≠ n) (u : Value) : Pr2 (w.setCell ⟨m, o, none⟩ u) n p := by
  obtain ⟨a, b, c, d⟩ := h
  have e : ∀ i, (⟨m, o, none⟩ : Addr) ≠ ⟨n, i, none⟩ := fun i q => by injection q with q1; exact hm q1
  exact ⟨(World.cell?_setCell_other _ _ _ _ (e 0)).trans a, (World.cell?_setCell_other _ _ _ _ (e 1)).trans b, by rw [World.frozen?_setCell]; exact c, by rw [World.frozen?_setCell]; exact d⟩
theorem Pr2.set {w : World} {n : Nat} {p : Int × Int} (h : Pr2 w n p) (x y : Int) : Pr2 ((w.setCell ⟨n, 0, none⟩ (.int .i64 x)).setCell ⟨n, 1, none⟩ (.int .i64 y)) n (x, y) := by
  obtain ⟨a, b, c, d⟩ := h
  have d01 : (⟨n, 0, none⟩ : Addr) ≠ ⟨n, 1, none⟩ := by intro q; injection q with _ q2 _; cases q2
  have s0 : (w.setCell ⟨n, 0, none⟩ (.int .i64 x)).cell? ⟨n, 0, none⟩ = some (.int .i64 x) := World.cell?_setCell_same _ _ _ a
  have s1 : (w.setCell ⟨n, 0, none⟩ (.int .i64 x)).cell? ⟨n, 1, none⟩ = some (.int .i64 p.2) := (World.cell?_setCell_other _ _ _ _ d01).trans b
  exact ⟨(World.cell?_setCell_other _ _ _ _ (Ne.symm d01)).trans s0, World.cell?_setCell_same _ _ _ s1, by rw [World.frozen?_setCell, World.frozen?_setCell]; exact c, by rw [World.frozen?_setCell, World.frozen?_setCell]; exact d⟩
def FpC (Hn N : Nat) (lv : Value) (B1 : Nat) (p : Int × Int) (w wr : World) : Prop :=
  Pr2 wr (w.heap.size + 1) (0, 0) ∧ Pr2 wr (w.heap.size + 1 + 1) p ∧ OwnE 48 2 (ccs Hn) wr B1 lv (List.range N) ∧ Below w.heap.size w wr
theorem FpC.gr {Hn N B1 : Nat} {lv : Value} {p : Int × Int} {w wr W : World} (h : FpC Hn N lv B1 p w wr) (g : Gr wr W) : FpC Hn N lv B1 p w W :=
  ⟨h.1.below g.below (Nat.le_refl _), h.2.1.below g.below (Nat.le_refl _), OwnE.below h.2.2.1 g.below (Nat.le_refl _), h.2.2.2.trans (g.below.mono h.2.2.2.size)⟩
theorem FpC.set {Hn N B1 : Nat} {lv : Value} {p : Int × Int} {w wr : World} (h : FpC Hn N lv B1 p w wr) (hB : w.heap.size + 1 + 1 < B1) (x y : Int) :
    FpC Hn N lv B1 (x, y) w ((wr.setCell ⟨w.heap.size + 1 + 1, 0, none⟩ (.int .i64 x)).setCell ⟨w.heap.size + 1 + 1, 1, none⟩ (.int .i64 y)) :=
  ⟨(h.1.other (by omega) _).other (by omega) _, h.2.1.set x y, OwnE.setOther (OwnE.setOther h.2.2.1 hB _) hB _, (h.2.2.2.setCell (by show w.heap.size ≤ w.heap.size + 1 + 1; omega) _).setCell (by show w.heap.size ≤ w.heap.size + 1 + 1; omega) _⟩
set_option maxRecDepth 100000 in
set_option maxHeartbeats 3200000 in
theorem Tryd.farthest (w : World) (Wn Hn : Nat) (A : Option Addr) (n c : Nat) (hW : 1 ≤ Wn ∧ Wn ≤ 8) (hH : 1 ≤ Hn ∧ Hn ≤ 8) (b nn : Nat) (D : DataW Unit) (st : St) (hown : w.ownsMap Tryd.prog 48 rElem b nn D) (hM : MapIs Hn (Wn * Hn) D st)
    (R : Nat × Int) (hR : bsF st.far (Wn * Hn) = R) :
    Calls Tryd.prog 21 #[.agg #[.int .i64 Wn, .int .i64 Hn, .slice A n c], .map (some b)] w fun e w' => e = .returned (.tuple #[.agg #[.int .i64 (crn Hn R.1).1, .int .i64 (crn Hn R.1).2], .int .i64 R.2]) ∧ Below w.heap.size w w' := by
  have mixed : Tryd.prog.follows .mixedOrders = true := by kernel_rfl
  have HOW := Lib.hid hown
  have HM := Lib.hid hM
  have HR := Lib.hid hR
  have hN : Wn * Hn ≤ 64 := Nat.mul_le_mul hW.2 hH.2
  have hpos : 0 < Wn * Hn := Nat.mul_pos (by omega) (by omega)
  have HLK := Lib.hid (fun (wr W : World) (k : Nat) (hk : k < Wn * Hn) (hb : Below w.heap.size w wr) (g : Gr wr W) => Tryd.lookOk hW.2 hH.2 (ownsMap_ofBelow hown hb (Nat.le_refl _)) hM hk W g)
  have HC := Lib.hid (fun (X : World) => (Tryd.corners X Wn Hn A n c hW hH).mono (R' := fun e w' => ∃ A1 cc1, e = .returned (.slice A1 (Wn * Hn) cc1) ∧ OwnE 48 2 (ccs Hn) w' X.heap.size (.slice A1 (Wn * Hn) cc1) (List.range (Wn * Hn)) ∧ Below X.heap.size X w') (by
    rintro e w' ⟨v, rfl, ov, bv⟩
    obtain ⟨A1, cc1, rfl, ov⟩ := OwnE.eta ov
    simp only [List.length_range] at ov ⊢
    exact ⟨A1, cc1, rfl, ov, bv⟩))
  generalize hNN : Wn * Hn = N at *
  have HNN := Lib.hid hNN
  clear hNN
  obtain ⟨W0, hW0⟩ : ∃ W0, ((w.alloc (.cells #[.int .i64 Wn, .int .i64 Hn, .slice A n c] 44)).alloc (.cells #[.int .i64 0, .int .i64 0] 48)).alloc (.cells #[.int .i64 0, .int .i64 0] 48) = W0 := ⟨_, rfl⟩
  have HP1 := Lib.hid (show Pr2 W0 (w.heap.size + 1) (0, 0) by subst hW0; exact ⟨by simp [go_sem], by simp [go_sem], by simp [go_sem], by simp [go_sem]⟩)
  have HP2 := Lib.hid (show Pr2 W0 (w.heap.size + 1 + 1) (0, 0) by subst hW0; exact ⟨by simp [go_sem], by simp [go_sem], by simp [go_sem], by simp [go_sem]⟩)
  have HG0 := Lib.hid (show Gr w W0 by subst hW0; exact by repeat (first | exact Gr.refl _ | refine Gr.alloc ?_ _ | refine Gr.trans ?_ (by assumption) | refine Gr.drew ?_ | refine Gr.drewN ?_ _ | refine Gr.grow ?_ _ | refine Gr.setCell ?_ (by (try simp); (try omega)) _))
  have HS0 := Lib.hid (show W0.heap.size = w.heap.size + 1 + 1 + 1 by subst hW0; simp)
  have c0 : W0.cell? ⟨w.heap.size, 0, none⟩ = some (.int .i64 Wn) := by subst hW0; simp [go_sem]
  have c1 : W0.cell? ⟨w.heap.size, 1, none⟩ = some (.int .i64 Hn) := by subst hW0; simp [go_sem]
  have c2 : W0.cell? ⟨w.heap.size, 2, none⟩ = some (.slice A n c) := by subst hW0; simp [go_sem]
  clear hown hM hR
  go_enter Tryd.func21, Tryd.ntmps21
  go_wp2_with (first | (go_at_call 20; refine (HC.out _).mono ?_; rintro e w1 ⟨A1, cc1, rfl, ov1, bv1⟩; have HOV := Lib.hid ov1; have HBV := Lib.hid bv1; clear ov1 bv1))
  have HB1 := Lib.hid (show W0.heap.size ≤ w1.heap.size from HBV.out.size)
  have HF0 := Lib.hid (show FpC Hn N (.slice A1 N cc1) W0.heap.size (0, 0) w w1 from
    ⟨HP1.out.below HBV.out (Nat.le_refl _), HP2.out.below HBV.out (Nat.le_refl _), HOV.out, HG0.out.below.trans (HBV.out.mono HG0.out.below.size)⟩)
  have hlt0 : w.heap.size + 1 + 1 < W0.heap.size := by rw [HS0.out]; omega
  clear hW0 c0 c1 c2
  generalize hfr : st.far = fr at *
  have HFR := Lib.hid hfr
  clear hfr
  generalize W0.heap.size = B1 at *
  rename World => w2
  go_loopw [7, 15] (fun mv iv wr => ∃ k : Nat, iv = .int .i64 k ∧ k ≤ N ∧ mv = .int .i64 (bsF fr k).2 ∧ FpC Hn N (.slice A1 N cc1) B1 (crn Hn (bsF fr k).1) w wr) (fun _ i _ => N - (intOf i).toNat)
  case atStart => exact ⟨0, rfl, Nat.zero_le _, rfl, by have := HF0.out; simpa [bsF, crn] using this⟩
  case round =>
    obtain ⟨k, rfl, hk, rfl, hfp⟩ := hrel
    have HFP := Lib.hid hfp
    by_cases hlt : k < N
    · have z0 : (0 : Int) ≤ (k : Int) := by omega
      have z1 : (k : Int) < (N : Int) := by omega
      rcases hfp.2.2.1.view (ccs_len Hn) 0 with ⟨hx, _⟩ | ⟨_, gl, cl, hvl, _, gl2, hcl1, hcl2, hcell, _⟩
      · have : (List.range N).length = 0 := by rw [hx]; rfl
        simp at this; omega
      have hkr : (List.range N).getD k 0 = k := by simp [List.getD, hlt]
      have r0 := hcell k 0 (by simpa using hlt) (by decide)
      have r1 := hcell k 1 (by simpa using hlt) (by decide)
      rw [hkr] at r0 r1
      change _ = some (Value.int .i64 (crn Hn k).1) at r0
      change _ = some (Value.int .i64 (crn Hn k).2) at r1
      rw [Nat.add_zero] at r0
      simp only [List.length_range, Value.slice.injEq] at hvl
      obtain ⟨rfl, -, rfl⟩ := hvl
      have hlk := HLK.out wr (wr.alloc (.cells #[.int .i64 (crn Hn k).1, .int .i64 (crn Hn k).2] 48)) k hlt hfp.2.2.2 (Gr.alloc (Gr.refl _) _)
      have hst : bsF fr (k + 1) = if (bsF fr k).2 < fr.getD k 0 then (k, fr.getD k 0) else bsF fr k := rfl
      have hge := bsF_ge fr k
      have hf : f st k = fr.getD k 0 := by unfold f; rw [HFR.out]
      rw [hf] at hlk
      have HST := Lib.hid hst
      have p1 := hfp.1
      have p2 := hfp.2.1
      have HP1 := Lib.hid p1
      have HP2 := Lib.hid p2
      clear hfp hcell hst hf p1 p2
      generalize (g st k) = gk at *
      generalize fr.getD k 0 = d at *
      generalize bsF fr k = pr at *
      obtain ⟨pb, pm⟩ := pr
      simp only at HST hge HFP HP2 ⊢
      generalize hck : crn Hn k = ck at *
      have HCK := Lib.hid hck
      clear hck
      obtain ⟨x1, y1⟩ := ck
      simp only at r0 r1 hlk
      by_cases hd0 : 0 ≤ d
      · rw [if_pos hd0, if_pos hd0, decide_eq_true hd0] at hlk
        by_cases hd : pm < d
        · rw [if_pos hd] at HST
          go_wp2_with fail
          obtain ⟨X, hX⟩ : ∃ X, ((wr.alloc (.cells #[.int .i64 x1, .int .i64 y1] 48)).alloc (.cells #[.int .i64 d, .int .i64 gk] 61)) = X := ⟨_, rfl⟩
          have HGX := Lib.hid (show Gr wr X by rw [← hX]; exact by repeat (first | exact Gr.refl _ | refine Gr.alloc ?_ _ | refine Gr.trans ?_ (by assumption) | refine Gr.drew ?_ | refine Gr.drewN ?_ _ | refine Gr.grow ?_ _ | refine Gr.setCell ?_ (by (try simp); (try omega)) _))
          have q0 : X.cell? ⟨wr.heap.size, 0, none⟩ = some (.int .i64 x1) := by rw [← hX]; simp [go_sem]
          have q1 : X.cell? ⟨wr.heap.size, 1, none⟩ = some (.int .i64 y1) := by rw [← hX]; simp [go_sem]
          have q2 : X.cell? ⟨wr.heap.size + 1, 0, none⟩ = some (.int .i64 d) := by rw [← hX]; simp [go_sem]
          have hp2 := HP2.out.below HGX.out.below (Nat.le_refl _)
          have hbx : w.heap.size + 1 + 1 < X.heap.size := World.block_lt_of_cell? _ _ hp2.1
          obtain ⟨k3, k4, k5, k6⟩ := hp2
          (try simp only at k3 k4)
          simp only [hX]
          clear hX r0 r1 hlk
          go_region
          go_wp2_with fail
          go_roundw
          case rel => exact ⟨k + 1, by go_num, by omega, by rw [HST.out], by rw [HST.out, HCK.out]; exact FpC.gr (FpC.set (FpC.gr HFP.out HGX.out) hlt0 x1 y1) (Gr.drew (Gr.refl _))⟩
          case measure => simp [intOf]; omega
        · rw [if_neg hd] at HST
          go_wp2_with fail
          go_roundw
          case rel => exact ⟨k + 1, by go_num, by omega, by rw [HST.out], by rw [HST.out]; exact FpC.gr HFP.out (by repeat (first | exact Gr.refl _ | refine Gr.alloc ?_ _ | refine Gr.trans ?_ (by assumption) | refine Gr.drew ?_ | refine Gr.drewN ?_ _ | refine Gr.grow ?_ _ | refine Gr.setCell ?_ (by (try simp); (try omega)) _))⟩
          case measure => simp [intOf]; omega
      · rw [if_neg hd0, if_neg hd0, decide_eq_false hd0] at hlk
        have hd : ¬ pm < d := by omega
        rw [if_neg hd] at HST
        go_wp2_with fail
        go_roundw
        case rel => exact ⟨k + 1, by go_num, by omega, by rw [HST.out], by rw [HST.out]; exact FpC.gr HFP.out (by repeat (first | exact Gr.refl _ | refine Gr.alloc ?_ _ | refine Gr.trans ?_ (by assumption) | refine Gr.drew ?_ | refine Gr.drewN ?_ _ | refine Gr.grow ?_ _ | refine Gr.setCell ?_ (by (try simp); (try omega)) _))⟩
        case measure => simp [intOf]; omega
    · obtain rfl : k = N := by omega
      have p1 := hfp.1
      have p2 := hfp.2.1
      have HX := Lib.hid (show bsF fr k = R from HR.out)
      rw [HX.out] at p2 ⊢
      obtain ⟨m0, m1, m2, m3⟩ := p1
      obtain ⟨m4, m5, m6, m7⟩ := p2
      obtain ⟨R1, R2⟩ := R
      simp only at m4 m5 ⊢
      obtain ⟨x1, hx1⟩ : ∃ x, (crn Hn R1).1 = x := ⟨_, rfl⟩
      obtain ⟨y1, hy1⟩ : ∃ x, (crn Hn R1).2 = x := ⟨_, rfl⟩
      rw [hx1] at m4
      rw [hy1] at m5
      have HXY := Lib.hid (And.intro hx1 hy1)
      clear hx1 hy1
      have HB := Lib.hid (hfp.2.2.2)
      have HS := Lib.hid (Pr2.set (w := wr) (n := w.heap.size + 1) (p := (0, 0)) ⟨m0, m1, m2, m3⟩ x1 y1)
      clear hfp
      go_wp2_with fail
      obtain ⟨s0, s1, _, _⟩ := HS.out
      simp only at s0 s1
      refine bodyPost_ret (v := .tuple #[.agg #[.int .i64 x1, .int .i64 y1], .int .i64 R2]) ?_ rfl ⟨by rw [HXY.out.1, HXY.out.2], ?_⟩
      · simp [results, Tryd.results21, go_sem, s0, s1]
      · exact (HB.out.setCell (by show w.heap.size ≤ w.heap.size + 1; omega) _).setCell (by show w.heap.size ≤ w.heap.size + 1; omega) _
end Go.Proofs
