/-
  Chapter 9: a puzzle out of a text, the model's.
-/
import Derived.Test.YtopmclaphcnmbaaDoorPpM
import Derived.Test.YtopmclaphcnmbaaDoorRead
import Derived.Test.YtopmclaphcnmbaaDoorQTail
import Derived.Deep.DeepCutAuto
namespace Go.Proofs
open Go.RowKit Sp
set_option linter.unusedVariables false
set_option linter.unusedSimpArgs false
/-- what the reading of a puzzle hands back: if it has failed, whatever puzzle -/
def RetQ (w : World) (t : ByteArray) (e : Ending) (w' : World) : Prop := ∃ W H A n c, e = .returned (.tuple #[.agg #[.int .i64 W, .int .i64 H, .slice A n c], .bool (ppB t)]) ∧ (ppB t = true → W = ppK t ∧ H = ppP t ∧ OwnC w' w.heap.size (.slice A n c) (ppL t)) ∧ Below w.heap.size w w'
theorem Below.set3s {n b : Nat} {a w : World} {v1 v2 v3 : Value} (h : Below n a w) (hb : n ≤ b) : Below n a (((w.setCell ⟨b, 0, none⟩ v1).setCell ⟨b, 1, none⟩ v2).setCell ⟨b, 2, none⟩ v3) :=
  ((h.setCell (p := ⟨b, 0, none⟩) hb _).setCell (p := ⟨b, 1, none⟩) hb _).setCell (p := ⟨b, 2, none⟩) hb _
/-- three cells of a box, none frozen -/
def Bz (w : World) (n : Nat) (a b c : Value) : Prop := w.cell? ⟨n, 0, none⟩ = some a ∧ w.cell? ⟨n, 1, none⟩ = some b ∧ w.cell? ⟨n, 2, none⟩ = some c ∧ ∀ o, w.frozen? ⟨n, o, none⟩ = false
theorem Bz.bel {w w' : World} {n m : Nat} {a b c : Value} (h : Bz w n a b c) (g : Below m w w') (hn : n < m) : Bz w' n a b c :=
  ⟨(g.cell (p := ⟨n, 0, none⟩) hn).trans h.1, (g.cell (p := ⟨n, 1, none⟩) hn).trans h.2.1, (g.cell (p := ⟨n, 2, none⟩) hn).trans h.2.2.1, fun o => (g.frozen (p := ⟨n, o, none⟩) hn).trans (h.2.2.2 o)⟩
theorem Bz.lt {w : World} {n : Nat} {a b c : Value} (h : Bz w n a b c) : n < w.heap.size := World.block_lt_of_cell? _ _ h.1
theorem Bz.gr {w w' : World} {n : Nat} {a b c : Value} (h : Bz w n a b c) (g : Gr w w') : Bz w' n a b c := h.bel g.below h.lt
theorem Bz.set1 {w : World} {n m : Nat} {a b c x : Value} (h : Bz w n a b c) (hne : n ≠ m) (o : Nat) : Bz (w.setCell ⟨m, o, none⟩ x) n a b c := by
  have k : ∀ (i : Nat) (v : Value), w.cell? ⟨n, i, none⟩ = some v → (w.setCell ⟨m, o, none⟩ x).cell? ⟨n, i, none⟩ = some v := fun i v q => (World.cell?_setCell_other _ _ _ _ (by intro e; cases e; exact hne rfl)).trans q
  exact ⟨k _ _ h.1, k _ _ h.2.1, k _ _ h.2.2.1, fun i => (World.frozen?_setCell _ _ _ _).trans (h.2.2.2 i)⟩
theorem Bz.own2 {w : World} {n : Nat} {a b c z : Value} (h : Bz w n a b c) : Bz (w.setCell ⟨n, 2, none⟩ z) n a b z :=
  ⟨(World.cell?_setCell_other _ _ _ _ (by simp)).trans h.1, (World.cell?_setCell_other _ _ _ _ (by simp)).trans h.2.1, World.cell?_setCell_same _ _ _ h.2.2.1, fun i => (World.frozen?_setCell _ _ _ _).trans (h.2.2.2 i)⟩
theorem Bz.own {w : World} {n : Nat} {a b c x y z : Value} (h : Bz w n a b c) : Bz (((w.setCell ⟨n, 0, none⟩ x).setCell ⟨n, 1, none⟩ y).setCell ⟨n, 2, none⟩ z) n x y z := by
  obtain ⟨h0, h1, h2, hf⟩ := h
  exact ⟨(World.cell?_setCell_other _ _ _ _ (by simp)).trans ((World.cell?_setCell_other _ _ _ _ (by simp)).trans (World.cell?_setCell_same _ _ _ h0)), (World.cell?_setCell_other _ _ _ _ (by simp)).trans (World.cell?_setCell_same _ _ _ ((World.cell?_setCell_other _ _ _ _ (by simp)).trans h1)), World.cell?_setCell_same _ _ _ ((World.cell?_setCell_other _ _ _ _ (by simp)).trans ((World.cell?_setCell_other _ _ _ _ (by simp)).trans h2)), fun o => by simpa using hf o⟩
theorem OwnC.set3s {w : World} {B m : Nat} {v x y z : Value} {ps : List Clu} (h : OwnC w B v ps) (hm : m < B) : OwnC (((w.setCell ⟨m, 0, none⟩ x).setCell ⟨m, 1, none⟩ y).setCell ⟨m, 2, none⟩ z) B v ps :=
  OwnE.setOther (a := ⟨m, 2, none⟩) (OwnE.setOther (a := ⟨m, 1, none⟩) (OwnE.setOther (a := ⟨m, 0, none⟩) h hm _) hm _) hm _
theorem three_kz {w w' : World} {a b c : Addr} {x y z : Value} (h : w.cell? a = some x ∧ w.cell? b = some y ∧ w.cell? c = some z) (g : Below w.heap.size w w') : w'.cell? a = some x ∧ w'.cell? b = some y ∧ w'.cell? c = some z := ⟨cell_k2 g h.1, cell_k2 g h.2.1, cell_k2 g h.2.2⟩
theorem three_gb {w w' : World} {row : Option Nat} (d : w.grownBy w' row) {n i j k : Nat} {x y z : Value} (h : w.cell? ⟨n, i, none⟩ = some x ∧ w.cell? ⟨n, j, none⟩ = some y ∧ w.cell? ⟨n, k, none⟩ = some z) (hn : some n ≠ row) : w'.cell? ⟨n, i, none⟩ = some x ∧ w'.cell? ⟨n, j, none⟩ = some y ∧ w'.cell? ⟨n, k, none⟩ = some z :=
  ⟨d.cell h.1 hn, d.cell h.2.1 hn, d.cell h.2.2 hn⟩
theorem three_s1 {w : World} {n s i j k o : Nat} {x y z v : Value} (h : w.cell? ⟨n, i, none⟩ = some x ∧ w.cell? ⟨n, j, none⟩ = some y ∧ w.cell? ⟨n, k, none⟩ = some z) (hn : n ≠ s) : (w.setCell ⟨s, o, none⟩ v).cell? ⟨n, i, none⟩ = some x ∧ (w.setCell ⟨s, o, none⟩ v).cell? ⟨n, j, none⟩ = some y ∧ (w.setCell ⟨s, o, none⟩ v).cell? ⟨n, k, none⟩ = some z := by
  have m : ∀ (q : Nat) (u : Value), w.cell? ⟨n, q, none⟩ = some u → (w.setCell ⟨s, o, none⟩ v).cell? ⟨n, q, none⟩ = some u := fun q u e => (World.cell?_setCell_other _ _ _ _ (by intro e; cases e; exact hn rfl)).trans e
  exact ⟨m _ _ h.1, m _ _ h.2.1, m _ _ h.2.2⟩
theorem three_sz {w : World} {n s : Nat} {x y z v0 v1 v2 : Value} (h : w.cell? ⟨n, 0, none⟩ = some x ∧ w.cell? ⟨n, 1, none⟩ = some y ∧ w.cell? ⟨n, 2, none⟩ = some z) (hn : n ≠ s) : (((w.setCell ⟨s, 0, none⟩ v0).setCell ⟨s, 1, none⟩ v1).setCell ⟨s, 2, none⟩ v2).cell? ⟨n, 0, none⟩ = some x ∧ (((w.setCell ⟨s, 0, none⟩ v0).setCell ⟨s, 1, none⟩ v1).setCell ⟨s, 2, none⟩ v2).cell? ⟨n, 1, none⟩ = some y ∧ (((w.setCell ⟨s, 0, none⟩ v0).setCell ⟨s, 1, none⟩ v1).setCell ⟨s, 2, none⟩ v2).cell? ⟨n, 2, none⟩ = some z :=
  three_s1 (three_s1 (three_s1 h hn) hn) hn
def QRel (xs : List ByteArray) (w W3 : World) (g N : Nat) (W H : Int) (i : Value) (wr : World) : Prop := ∃ k : Nat, k ≤ xs.length ∧ i = .int .i64 k ∧ (∀ j, j < k → ∀ x, xs[j]? = some x → (spl 46 x).length = 3) ∧ ∃ A c, OwnC wr W3.heap.size (.slice A k c) ((xs.take k).map mcl) ∧ Bz wr N (.int .i64 W) (.int .i64 H) (.slice A k c) ∧ Bz wr w.heap.size (.int .i64 0) (.int .i64 0) (.slice none 0 0) ∧ (∀ o, wr.cell? ⟨g, o, none⟩ = W3.cell? ⟨g, o, none⟩) ∧ Below w.heap.size w wr ∧ W3.heap.size ≤ wr.heap.size
set_option maxRecDepth 100000 in
set_option maxHeartbeats 1600000 in
theorem Tryd.pzParse (t : ByteArray) (w : World) (ht : t.size ≤ 1048576) :
    Calls Tryd.prog 9 #[.string t] w (RetQ w t) := by
  have mixed : Tryd.prog.follows .mixedOrders = true := by kernel_rfl
  have HSP := Lib.hid (fun (X : World) => Tryd.l1SplitB 59 t X ht)
  have hpos := spl_pos 59 t
  have hsz := spl_size 59 t
  have hlen := spl_len 59 t
  obtain ⟨ys, hys⟩ : ∃ ys, spl 59 t = ys := ⟨_, rfl⟩
  rw [hys] at HSP hpos hsz hlen
  have zt : (t.size : Int) ≤ 1048576 := by omega
  by_cases h2 : t.size ≤ 100 ∧ ys.length = 2
  · obtain ⟨h1, h2⟩ := h2
    obtain ⟨y0, y1, rfl⟩ : ∃ y0 y1, ys = [y0, y1] := by
      match ys, h2 with
      | [a, b], _ => exact ⟨a, b, rfl⟩
    have d1 : ¬ (100 : Int) < (t.size : Int) := by omega
    have s0 : y0.size ≤ 100 := Nat.le_trans (hsz y0 (by simp)) h1
    have s1 : y1.size ≤ 100 := Nat.le_trans (hsz y1 (by simp)) h1
    have eS : ppS t = y0 := by unfold ppS; rw [hys]; rfl
    have eK : ppC t = y1 := by unfold ppC; rw [hys]; rfl
    have HN := Lib.hid (fun (X : World) => Tryd.nuParse y0 X (by unfold maxLen; omega))
    have HC3 := Lib.hid (show ppL t = (if 0 < y1.size then (spl 44 y1).map mcl else []) ∧ pp3 t = (if 0 < y1.size then (spl 44 y1).all (fun x => (spl 46 x).length == 3) else true) by unfold ppL pp3; rw [eK]; exact ⟨rfl, rfl⟩)
    have HS3 := Lib.hid (fun (X : World) => Tryd.l1SplitB 44 y1 X (by omega))
    clear hsz hlen h2 hpos
    have hpos : 0 < [y0, y1].length := by simp
    cases hps : psB y0.data.toList
    · have HB := Lib.hid (show ppB t = false by unfold ppB; rw [eS, hps]; simp)
      rw [hps] at HN
      generalize psK y0.data.toList = RW at *
      generalize psP y0.data.toList = RH at *
      clear HC3 HS3 eS eK hys h1 hps
      go_enter Tryd.func9, Tryd.ntmps9
      go_wp2_with (first | (go_at_call_of 19 (Value.string t); refine (HSP.out _).mono ?_; rintro e W ⟨v, rfl, ho, hb⟩; obtain ⟨g, c, rfl, hg, hc, hcell⟩ := ho.view hpos; have Z0 : Bz W w.heap.size (.int .i64 0) (.int .i64 0) (.slice none 0 0) := ⟨cell_k2 hb (by simp [go_sem]), cell_k2 hb (by simp [go_sem]), cell_k2 hb (by simp [go_sem]), fun o => ((bcell hb).2 _ _ (by simp)).trans (by simp [go_sem])⟩; have u0 := hcell 0 y0 rfl; have u1 := hcell 1 y1 rfl; have z5 : (2 : Int) ≤ (c : Int) := (by simp at hc; omega); clear hcell ho) | (go_at_call 20; refine (HN.out _).mono ?_; rintro e W2 ⟨rfl, g2⟩; have Z2 := Z0.gr g2; obtain ⟨r0, r1, r2, rf⟩ := Z2; have zz2 := World.block_lt_of_cell? _ _ r0))
      have HB0 : Below w.heap.size w W2 := (((Gr.alloc (Gr.refl w) _).below).trans (hb.mono (by simp))).trans (g2.below.mono (Nat.le_trans (by simp) hb.size))
      refine bodyPost_ret (v := .tuple #[.agg #[.int .i64 0, .int .i64 0, .slice none 0 0], .bool false]) (by simp [results, Tryd.results9, go_sem, r0, r1, r2, zz2]) rfl ⟨0, 0, none, 0, 0, by rw [HB.out], fun q => absurd (HB.out.symm.trans q) (by decide), ?_⟩
      first | exact (Below.set3s HB0 (Nat.le_refl _)).alloc (by simp; exact HB0.size) _ | exact Below.set3s (HB0.alloc HB0.size _) (Nat.le_refl _)
    · have HWW := Lib.hid (show ppK t = psK y0.data.toList ∧ ppP t = psP y0.data.toList by unfold ppK ppP; rw [eS]; exact ⟨rfl, rfl⟩)
      have HB := Lib.hid (show ppB t = (pp3 t && (pgood (psK y0.data.toList) (psP y0.data.toList) (ppL t) && decide (ZtT (psK y0.data.toList) (psP y0.data.toList) (ppL t) = t))) by
        have e := HWW.out
        unfold ppB
        rw [eS, hps, hys, decide_eq_true h1, e.1, e.2]; simp)
      rw [hps] at HN
      generalize psK y0.data.toList = RW at *
      generalize psP y0.data.toList = RH at *
      clear eS eK hys h1 hps
      go_enter Tryd.func9, Tryd.ntmps9
      go_upto_region 8 with (first | (go_at_call_of 19 (Value.string t); refine (HSP.out _).mono ?_; rintro e W ⟨v, rfl, ho, hb⟩; obtain ⟨g, c, rfl, hg, hc, hcell⟩ := ho.view hpos; have Z0 : Bz W w.heap.size (.int .i64 0) (.int .i64 0) (.slice none 0 0) := ⟨cell_k2 hb (by simp [go_sem]), cell_k2 hb (by simp [go_sem]), cell_k2 hb (by simp [go_sem]), fun o => ((bcell hb).2 _ _ (by simp)).trans (by simp [go_sem])⟩; have u0 := hcell 0 y0 rfl; have u1 := hcell 1 y1 rfl; have z5 : (2 : Int) ≤ (c : Int) := (by simp at hc; omega); clear hcell ho) | (go_at_call 20; refine (HN.out _).mono ?_; rintro e W2 ⟨rfl, g2⟩; have Z2 := Z0.gr g2; have u1' := g2.keep0 u1; have gg2 : g < W2.heap.size := Nat.lt_of_lt_of_le hg g2.below.size; clear u0 u1))
      have ZZ := Lib.hid Z2
      have UU := Lib.hid u1'
      have BB := Lib.hid (show Below w.heap.size w W2 from (((Gr.alloc (Gr.refl w) (.cells #[.int .i64 0, .int .i64 0, .slice none 0 0] 26)).below).trans (hb.mono (by simp))).trans (g2.below.mono (Nat.le_trans (by simp) hb.size)))
      have s2' : w.heap.size < W2.heap.size := Z2.lt
      clear hb g2 Z0 Z2 u1'
      obtain ⟨Z, hZ⟩ : ∃ Z, (W2.alloc (.cells #[.int .i64 RW, .int .i64 RH] 23)).alloc (.cells #[.int .i64 RW, .int .i64 RH, .slice none 0 0] 26) = Z := ⟨_, rfl⟩
      rw [hZ]
      have gZ : Gr W2 Z := by rw [← hZ]; exact Gr.alloc (Gr.alloc (Gr.refl _) _) _
      have C0 : Bz Z (W2.heap.size + 1) (.int .i64 RW) (.int .i64 RH) (.slice none 0 0) := by rw [← hZ]; exact ⟨by simp [go_sem], by simp [go_sem], by simp [go_sem], fun o => by simp [go_sem]⟩
      have uZ := gZ.keep0 UU.out
      have HV := Lib.hid (And.intro C0 (And.intro (ZZ.out.gr gZ) (BB.out.trans (gZ.below.mono BB.out.size))))
      have hzz : Z.heap.size = W2.heap.size + 1 + 1 := by rw [← hZ]; simp
      have HZZ := Lib.hid hzz
      have z7 : (2 : Int) ≤ (c : Int) := z5
      have s2 : w.heap.size < W2.heap.size + 1 := Nat.lt_succ_of_lt s2'
      clear hZ gZ C0 hzz UU ZZ BB s2'
      generalize hNN : W2.heap.size + 1 = N at *
      clear hNN
      by_cases hk : 0 < y1.size
      · have d8 : (0 : Int) < (y1.size : Int) := by omega
        have hC := HC3.out
        rw [if_pos hk, if_pos hk] at hC
        have HCQ := Lib.hid hC
        have hp3 := spl_pos 44 y1
        have hl3 := spl_len 44 y1
        have HSY := Lib.hid (spl_size 44 y1)
        generalize spl 44 y1 = xs at *
        clear hC HC3 hk
        go_wp2_with (first | (go_at_call_of 19 (Value.string y1); refine (HS3.out _).mono ?_; rintro e W3 ⟨v3, rfl, ho3, hb3⟩; obtain ⟨g3, c3, rfl, hg3, hc3, hcell3⟩ := ho3.view hp3; have hge := ownS_ge ho3 hp3 rfl; have HC := Lib.hid hcell3; have HV3 := Lib.hid (And.intro (HV.out.1.bel hb3 HV.out.1.lt) (And.intro (HV.out.2.1.bel hb3 HV.out.2.1.lt) (HV.out.2.2.trans (hb3.mono HV.out.2.2.size)))); have z9 := hb3.size; clear ho3 hb3 hcell3))
        have zN : N < g3 := by have := HZZ.out; omega
        have zx : (xs.length : Int) ≤ (c3 : Int) := by omega
        have HLX := Lib.hid (show xs.length ≤ 101 by omega)
        have HX := Lib.hid hc3
        have zM : N < W3.heap.size := by omega
        clear HV hl3 z9 hge
        go_loopw [9, 10, 44] (fun _ _ i wr => QRel xs w W3 g3 N RW RH i wr) (fun _ _ i _ => (xs.length - intOf i).toNat)
        case atStart => exact ⟨0, Nat.zero_le _, rfl, fun j hj => absurd hj (Nat.not_lt_zero _), none, 0, OwnE.nil _ _ _ _ _, HV3.out.1, HV3.out.2.1, fun _ => rfl, HV3.out.2.2, Nat.le_refl _⟩
        case round =>
          obtain ⟨k, hk, rfl, hall, A, cq, ho, x1, x2, hcg, hbw, hsz⟩ := hrel
          have z0' : (0 : Int) ≤ (k : Int) := by omega
          have HA := Lib.hid hall
          have HO := Lib.hid ho
          have HX1 := Lib.hid x1
          have HX2 := Lib.hid x2
          have HCG := Lib.hid hcg
          have HBW := Lib.hid hbw
          clear hall ho hcg hbw
          by_cases hlt : k < xs.length
          · obtain ⟨x, hx⟩ : ∃ x, xs[k]? = some x := ⟨xs[k], by simp [hlt]⟩
            have e0 := (HCG.out (0 + k)).trans (HC.out k x hx)
            rw [Nat.zero_add] at e0
            have z1' : (k : Int) < (xs.length : Int) := by omega
            have z2' : (k : Int) < (c3 : Int) := by omega
            have z3' : (xs.length : Int) ≤ 101 := by have := HLX.out; omega
            have HLT := Lib.hid hlt
            have hxz : x.size ≤ 100 := Nat.le_trans (HSY.out x (List.mem_of_getElem? hx)) s1
            have HSX := Lib.hid (fun (X : World) => Tryd.l1SplitB 46 x X (by omega))
            have hp5 := spl_pos 46 x
            have hz5 := spl_size 46 x
            have hl5 := spl_len 46 x
            have hmc : mcl x = (Rd.rd (nthB (spl 46 x) 0).data.toList, Rd.rd (nthB (spl 46 x) 1).data.toList, Rd.rd (nthB (spl 46 x) 2).data.toList) := rfl
            have hALL := Lib.hid (show (spl 46 x).length = 3 → ∀ j, j < k + 1 → ∀ y, xs[j]? = some y → (spl 46 y).length = 3 from fun hp j hj y hy => by
                rcases (show j < k ∨ j = k by omega) with q | q
                · exact HA.out j q y hy
                · rw [q, hx] at hy; cases hy; exact hp)
            have hBad := Lib.hid (show ¬ (spl 46 x).length = 3 → xs.all (fun x => (spl 46 x).length == 3) = false from fun hp => List.all_eq_false.2 ⟨x, List.mem_of_getElem? hx, by simpa using hp⟩)
            generalize spl 46 x = ys at *
            by_cases hx3 : ys.length = 3
            · obtain ⟨m0, m1, m2, rfl⟩ : ∃ m0 m1 m2, ys = [m0, m1, m2] := by
                match ys, hx3 with
                | [a, b, c], _ => exact ⟨a, b, c, rfl⟩
              have HR0 := Lib.hid (fun (X : World) => Tryd.l1Read m0 X (by have := hz5 m0 (by simp); unfold maxLen; omega))
              have HR1 := Lib.hid (fun (X : World) => Tryd.l1Read m1 X (by have := hz5 m1 (by simp); unfold maxLen; omega))
              have HR2 := Lib.hid (fun (X : World) => Tryd.l1Read m2 X (by have := hz5 m2 (by simp); unfold maxLen; omega))
              have hALL := Lib.hid (hALL.out rfl)
              have hN := Lib.hid (show (xs.take (k + 1)).map mcl = (xs.take k).map mcl ++ [(Rd.rd m0.data.toList, Rd.rd m1.data.toList, Rd.rd m2.data.toList)] by rw [List.take_add_one, hx]; simp [hmc, nthB])
              generalize Rd.rd m0.data.toList = R0 at *
              generalize Rd.rd m1.data.toList = R1 at *
              generalize Rd.rd m2.data.toList = R2 at *
              have LK := Lib.hid (show ((xs.take k).map mcl).length ≤ 1000000000 by have := HLX.out; simp; omega)
              clear hx hx3 hz5 hmc hBad hl5
              have hp5 : 0 < [m0, m1, m2].length := by simp
              go_upto_region 15 with (first | (go_at_call_of 19 (Value.string x); refine (HSX.out _).mono ?_; rintro e W5 ⟨v5, rfl, ho5, hb5⟩; obtain ⟨g5, c5', rfl, hg5, hc5, hcell5⟩ := ho5.view hp5; have hge5 := ownS_ge ho5 hp5 rfl; have Hb5 := Lib.hid hb5; clear hb5))
              have u0 := hcell5 0 m0 rfl
              have u1 := hcell5 1 m1 rfl
              have u2 := hcell5 2 m2 rfl
              have z5' : (3 : Int) ≤ (c5' : Int) := by simp at hc5; omega
              have VV := Lib.hid (And.intro u0 (And.intro u1 u2))
              have hneB : some g5 ≠ (Value.slice A k cq).ownBlock := fun e => by have := (World.ownsRow.lt HO.out _ e.symm).2; omega
              have X5 := HX1.out.bel Hb5.out HX1.out.lt
              obtain ⟨n0, n1, n2, nf⟩ := X5
              have nz : N < W5.heap.size := World.block_lt_of_cell? _ _ n0
              have zNg : N < g5 := by have := HX1.out.lt; omega
              clear u0 u1 u2 hcell5 ho5
              refine wp_region_held_drew (S := fun W' => W'.cell? ⟨g5, 0 + 0, none⟩ = some (.string m0) ∧ W'.cell? ⟨g5, 0 + 1, none⟩ = some (.string m1) ∧ W'.cell? ⟨g5, 0 + 2, none⟩ = some (.string m2)) (by kernel_rfl) (three_kz VV.out (Below.drew (Below.refl _ _))) (fun hHeld => ?_)
              (refine wpAnyH_take (i := 0) (v := ?_) (by simp only [List.getElem?_toArray, List.getElem?_cons_succ, List.getElem?_cons_zero]; exact rfl) (by kernel_rfl) (by kernel_rfl) (by kernel_rfl) (by intro _ _ _ h; exact h) (Or.inl ⟨by rfl, ?_⟩) (by assumption) ?_; rotate_left; (focus (intro w' hSw; (try dsimp only at hSw); go_simp; (try with_reducible rfl))); try simp only [Act.put, List.setIfInBounds_toArray, List.set_cons_zero, List.set_cons_succ])
              (refine wpAnyH_take (i := 2) (v := ?_) (by simp only [List.getElem?_toArray, List.getElem?_cons_succ, List.getElem?_cons_zero]; exact rfl) (by kernel_rfl) (by kernel_rfl) (by kernel_rfl) (by intro _ _ _ h; exact h) (Or.inl ⟨by rfl, ?_⟩) (by assumption) ?_; rotate_left; (focus (intro w' hSw; (try dsimp only at hSw); go_simp; (try with_reducible rfl))); try simp only [Act.put, List.setIfInBounds_toArray, List.set_cons_zero, List.set_cons_succ])
              (refine wpAnyH_take (i := 3) (v := ?_) (by simp only [List.getElem?_toArray, List.getElem?_cons_succ, List.getElem?_cons_zero]; exact rfl) (by kernel_rfl) (by kernel_rfl) (by kernel_rfl) (by intro _ _ _ h; exact h) (Or.inl ⟨by rfl, ?_⟩) (by assumption) ?_; rotate_left; (focus (intro w' hSw; (try dsimp only at hSw); go_simp; (try with_reducible rfl))); try simp only [Act.put, List.setIfInBounds_toArray, List.set_cons_zero, List.set_cons_succ])
              (refine wpAnyH_take (i := 4) (v := ?_) (by simp only [List.getElem?_toArray, List.getElem?_cons_succ, List.getElem?_cons_zero]; exact rfl) (by kernel_rfl) (by kernel_rfl) (by kernel_rfl) (by intro _ _ _ h; exact h) (Or.inl ⟨by rfl, ?_⟩) (by assumption) ?_; rotate_left; (focus (intro w' hSw; (try dsimp only at hSw); go_simp; (try with_reducible rfl))); try simp only [Act.put, List.setIfInBounds_toArray, List.set_cons_zero, List.set_cons_succ])
              (refine wpAnyH_take (i := 6) (v := ?_) (by simp only [List.getElem?_toArray, List.getElem?_cons_succ, List.getElem?_cons_zero]; exact rfl) (by kernel_rfl) (by kernel_rfl) (by kernel_rfl) (by intro _ _ _ h; exact h) (Or.inl ⟨by rfl, ?_⟩) (by assumption) ?_; rotate_left; (focus (intro w' hSw; (try dsimp only at hSw); go_simp; (try with_reducible rfl))); try simp only [Act.put, List.setIfInBounds_toArray, List.set_cons_zero, List.set_cons_succ])
              (refine wpAnyH_take (i := 7) (v := ?_) (by simp only [List.getElem?_toArray, List.getElem?_cons_succ, List.getElem?_cons_zero]; exact rfl) (by kernel_rfl) (by kernel_rfl) (by kernel_rfl) (by intro _ _ _ h; exact h) (Or.inl ⟨by rfl, ?_⟩) (by assumption) ?_; rotate_left; (focus (intro w' hSw; (try dsimp only at hSw); go_simp; (try with_reducible rfl))); try simp only [Act.put, List.setIfInBounds_toArray, List.set_cons_zero, List.set_cons_succ])
              (refine wpAnyH_take (i := 8) (v := ?_) (by simp only [List.getElem?_toArray, List.getElem?_cons_succ, List.getElem?_cons_zero]; exact rfl) (by kernel_rfl) (by kernel_rfl) (by kernel_rfl) (by intro _ _ _ h; exact h) (Or.inl ⟨by rfl, ?_⟩) (by assumption) ?_; rotate_left; (focus (intro w' hSw; (try dsimp only at hSw); go_simp; (try with_reducible rfl))); try simp only [Act.put, List.setIfInBounds_toArray, List.set_cons_zero, List.set_cons_succ])
              (refine wpAnyH_take (i := 10) (v := ?_) (by simp only [List.getElem?_toArray, List.getElem?_cons_succ, List.getElem?_cons_zero]; exact rfl) (by kernel_rfl) (by kernel_rfl) (by kernel_rfl) (by intro _ _ _ h; exact h) (Or.inl ⟨by rfl, ?_⟩) (by assumption) ?_; rotate_left; (focus (intro w' hSw; (try dsimp only at hSw); go_simp; (try with_reducible rfl))); try simp only [Act.put, List.setIfInBounds_toArray, List.set_cons_zero, List.set_cons_succ])
              (refine wpAnyH_take (i := 11) (v := ?_) (by simp only [List.getElem?_toArray, List.getElem?_cons_succ, List.getElem?_cons_zero]; exact rfl) (by kernel_rfl) (by kernel_rfl) (by kernel_rfl) (by intro _ _ _ h; exact h) (Or.inl ⟨by rfl, ?_⟩) (by assumption) ?_; rotate_left; (focus (intro w' hSw; (try dsimp only at hSw); go_simp; (try with_reducible rfl))); try simp only [Act.put, List.setIfInBounds_toArray, List.set_cons_zero, List.set_cons_succ])
              (refine wpAnyH_take (i := 12) (v := ?_) (by simp only [List.getElem?_toArray, List.getElem?_cons_succ, List.getElem?_cons_zero]; exact rfl) (by kernel_rfl) (by kernel_rfl) (by kernel_rfl) (by intro _ _ _ h; exact h) (Or.inl ⟨by rfl, ?_⟩) (by assumption) ?_; rotate_left; (focus (intro w' hSw; (try dsimp only at hSw); go_simp; (try with_reducible rfl))); try simp only [Act.put, List.setIfInBounds_toArray, List.set_cons_zero, List.set_cons_succ])
              refine wpAnyH_ready (rs := [1, 5]) (by kernel_rfl) (by simp) (AllReadyH.cons (by simp only [List.getElem?_toArray, List.getElem?_cons_succ, List.getElem?_cons_zero]; exact rfl) (fun K' hK => ?_) (AllReadyH.cons (by simp only [List.getElem?_toArray, List.getElem?_cons_succ, List.getElem?_cons_zero]; exact rfl) (fun K' hK => ?_) AllReadyH.nil))
              · go_simp
                (refine hK.out _ _ (three_kz VV.out (Below.drew (Below.refl _ _))) (fun hHeld => ?_); clear hK K'; try simp only [Act.put, List.setIfInBounds_toArray, List.set_cons_zero, List.set_cons_succ])
                refine wpAnyH_ready (rs := [5]) (by kernel_rfl) (by simp) (AllReadyH.cons (by simp only [List.getElem?_toArray, List.getElem?_cons_succ, List.getElem?_cons_zero]; exact rfl) (fun K' hK => ?_) AllReadyH.nil)
                go_simp
                (go_at_call_of 21 (Value.string m0); refine (HR0.out _).mono ?_; rintro e q0 ⟨rfl, rfl⟩)
                (refine hK.out _ _ (three_kz VV.out (Below.drew (Below.refl _ _))) (fun hHeld => ?_); clear hK K'; try simp only [Act.put, List.setIfInBounds_toArray, List.set_cons_zero, List.set_cons_succ])
                refine wpAnyH_ready (rs := [9]) (by kernel_rfl) (by simp) (AllReadyH.cons (by simp only [List.getElem?_toArray, List.getElem?_cons_succ, List.getElem?_cons_zero]; exact rfl) (fun K' hK => ?_) AllReadyH.nil)
                go_simp
                (go_at_call_of 21 (Value.string m1); refine (HR1.out _).mono ?_; rintro e q1 ⟨rfl, rfl⟩)
                (refine hK.out _ _ (three_kz VV.out (Below.drew (Below.refl _ _))) (fun hHeld => ?_); clear hK K'; try simp only [Act.put, List.setIfInBounds_toArray, List.set_cons_zero, List.set_cons_succ])
                refine wpAnyH_ready (rs := [13]) (by kernel_rfl) (by simp) (AllReadyH.cons (by simp only [List.getElem?_toArray, List.getElem?_cons_succ, List.getElem?_cons_zero]; exact rfl) (fun K' hK => ?_) AllReadyH.nil)
                go_simp
                (go_at_call_of 21 (Value.string m2); refine (HR2.out _).mono ?_; rintro e q2 ⟨rfl, rfl⟩)
                (refine hK.out _ _ (three_kz VV.out (Below.drew (Below.refl _ _))) (fun hHeld => ?_); clear hK K'; try simp only [Act.put, List.setIfInBounds_toArray, List.set_cons_zero, List.set_cons_succ])
                (refine wpAnyH_take (i := 14) (v := ?_) (by simp only [List.getElem?_toArray, List.getElem?_cons_succ, List.getElem?_cons_zero]; exact rfl) (by kernel_rfl) (by kernel_rfl) (by kernel_rfl) (by intro _ _ _ h; exact h) (Or.inl ⟨by rfl, ?_⟩) (by assumption) ?_; rotate_left; (focus (intro w' hSw; (try dsimp only at hSw); go_simp; (try with_reducible rfl))); try simp only [Act.put, List.setIfInBounds_toArray, List.set_cons_zero, List.set_cons_succ])
                refine wpAnyH_ready (rs := [15]) (by kernel_rfl) (by simp) (AllReadyH.cons (by simp only [List.getElem?_toArray, List.getElem?_cons_succ, List.getElem?_cons_zero]; exact rfl) (fun K' hK => ?_) AllReadyH.nil)
                go_simp
                (refine hK.out _ _ (three_kz VV.out (Gr.alloc (Gr.drew (Gr.refl W5)) _).below) (fun hHeld => ?_); clear hK K'; try simp only [Act.put, List.setIfInBounds_toArray, List.set_cons_zero, List.set_cons_succ])
                refine wpAnyH_ready (rs := [16]) (by kernel_rfl) (by simp) (AllReadyH.cons (by simp only [List.getElem?_toArray, List.getElem?_cons_succ, List.getElem?_cons_zero]; exact rfl) (fun K' hK => ?_) AllReadyH.nil)
                refine step_appE ccs_len ccs_one rfl (.tmp 55) (.tmp 69) 24 rfl 40 Tryd.underlying24 Tryd.infoC rfl (by decide) (by decide) W3.heap.size _ _ rfl (OwnE.gr (OwnE.below HO.out Hb5.out (Nat.le_refl _)) (Gr.alloc (Gr.drew (Gr.refl W5)) _)) ⟨W5.heap.size, 0, none⟩ 1 1 [(R0, R1, R2)] rfl rfl (fun j u hu => alloc_cells (by simpa [ecs, ccs] using hu)) LK.out (by simp) (by have := Hb5.out.size; simp; omega) ?_; intro v4 w4 ho4 hb4 gb4 _; rw [← hN.out] at ho4; obtain ⟨A5, c5, rfl, ho4⟩ := OwnE.eta ho4; rw [List.length_map, List.length_take, Nat.min_eq_left (show k + 1 ≤ xs.length by omega)] at ho4 ⊢
                have bz : Below W3.heap.size wr w4 := (Hb5.out.mono hsz).trans (((Gr.alloc (Gr.drew (Gr.refl W5)) _).below.mono (by have := Hb5.out.size; omega)).trans hb4)
                have X4 := Lib.hid (And.intro (HX1.out.bel bz zM) (HX2.out.bel bz (Nat.lt_trans s2 zM)))
                have S4 := three_gb gb4 (three_kz VV.out (Gr.alloc (Gr.drew (Gr.refl W5)) (.cells #[.int .i64 R0, .int .i64 R1, .int .i64 R2] 40)).below) hneB
                obtain ⟨n0', n1', p4, f4⟩ := X4.out.1
                have O4 := Lib.hid ho4
                have BZ := Lib.hid bz
                clear ho4 hb4 gb4 bz
                (refine hK.out _ _ (S4) (fun hHeld => ?_); clear hK K'; try simp only [Act.put, List.setIfInBounds_toArray, List.set_cons_zero, List.set_cons_succ])
                refine wpAnyH_ready (rs := [17]) (by kernel_rfl) (by simp) (AllReadyH.cons (by simp only [List.getElem?_toArray, List.getElem?_cons_succ, List.getElem?_cons_zero]; exact rfl) (fun K' hK => ?_) AllReadyH.nil)
                go_simp
                (refine hK.out _ _ (S4) (fun hHeld => ?_); clear hK K'; try simp only [Act.put, List.setIfInBounds_toArray, List.set_cons_zero, List.set_cons_succ])
                refine wpAnyH_ready (rs := [18]) (by kernel_rfl) (by simp) (AllReadyH.cons (by simp only [List.getElem?_toArray, List.getElem?_cons_succ, List.getElem?_cons_zero]; exact rfl) (fun K' hK => ?_) AllReadyH.nil)
                go_simp
                (refine hK.out _ _ (three_s1 S4 (by omega)) (fun hHeld => ?_); clear hK K'; try simp only [Act.put, List.setIfInBounds_toArray, List.set_cons_zero, List.set_cons_succ])
                refine wpAnyH_done (by kernel_rfl) ?_ _
                go_wp2
                go_roundw
                case rel => exact ⟨k + 1, HLT.out, by go_num, hALL.out, A5, c5, OwnE.setOther (a := ⟨N, 2, none⟩) O4.out zM _, Bz.own2 X4.out.1, Bz.set1 X4.out.2 (by omega) _, fun o => (World.cell?_setCell_other _ _ _ _ (by intro e; cases e; omega)).trans ((BZ.out.cell (p := ⟨g3, o, none⟩) hg3).trans (HCG.out o)), (HBW.out.trans (BZ.out.mono (by omega))).setCell (by simp; omega) _, by have := BZ.out.size; simp; omega⟩
                case measure => have := HLT.out; have := HLX.out; simp [intOf]; omega
              · go_simp
                (go_at_call_of 21 (Value.string m0); refine (HR0.out _).mono ?_; rintro e q0 ⟨rfl, rfl⟩)
                (refine hK.out _ _ (three_kz VV.out (Below.drew (Below.refl _ _))) (fun hHeld => ?_); clear hK K'; try simp only [Act.put, List.setIfInBounds_toArray, List.set_cons_zero, List.set_cons_succ])
                refine wpAnyH_ready (rs := [1, 9]) (by kernel_rfl) (by simp) (AllReadyH.cons (by simp only [List.getElem?_toArray, List.getElem?_cons_succ, List.getElem?_cons_zero]; exact rfl) (fun K' hK => ?_) (AllReadyH.cons (by simp only [List.getElem?_toArray, List.getElem?_cons_succ, List.getElem?_cons_zero]; exact rfl) (fun K' hK => ?_) AllReadyH.nil))
                · go_simp
                  (refine hK.out _ _ (three_kz VV.out (Below.drew (Below.refl _ _))) (fun hHeld => ?_); clear hK K'; try simp only [Act.put, List.setIfInBounds_toArray, List.set_cons_zero, List.set_cons_succ])
                  refine wpAnyH_ready (rs := [9]) (by kernel_rfl) (by simp) (AllReadyH.cons (by simp only [List.getElem?_toArray, List.getElem?_cons_succ, List.getElem?_cons_zero]; exact rfl) (fun K' hK => ?_) AllReadyH.nil)
                  go_simp
                  (go_at_call_of 21 (Value.string m1); refine (HR1.out _).mono ?_; rintro e q1 ⟨rfl, rfl⟩)
                  (refine hK.out _ _ (three_kz VV.out (Below.drew (Below.refl _ _))) (fun hHeld => ?_); clear hK K'; try simp only [Act.put, List.setIfInBounds_toArray, List.set_cons_zero, List.set_cons_succ])
                  refine wpAnyH_ready (rs := [13]) (by kernel_rfl) (by simp) (AllReadyH.cons (by simp only [List.getElem?_toArray, List.getElem?_cons_succ, List.getElem?_cons_zero]; exact rfl) (fun K' hK => ?_) AllReadyH.nil)
                  go_simp
                  (go_at_call_of 21 (Value.string m2); refine (HR2.out _).mono ?_; rintro e q2 ⟨rfl, rfl⟩)
                  (refine hK.out _ _ (three_kz VV.out (Below.drew (Below.refl _ _))) (fun hHeld => ?_); clear hK K'; try simp only [Act.put, List.setIfInBounds_toArray, List.set_cons_zero, List.set_cons_succ])
                  (refine wpAnyH_take (i := 14) (v := ?_) (by simp only [List.getElem?_toArray, List.getElem?_cons_succ, List.getElem?_cons_zero]; exact rfl) (by kernel_rfl) (by kernel_rfl) (by kernel_rfl) (by intro _ _ _ h; exact h) (Or.inl ⟨by rfl, ?_⟩) (by assumption) ?_; rotate_left; (focus (intro w' hSw; (try dsimp only at hSw); go_simp; (try with_reducible rfl))); try simp only [Act.put, List.setIfInBounds_toArray, List.set_cons_zero, List.set_cons_succ])
                  refine wpAnyH_ready (rs := [15]) (by kernel_rfl) (by simp) (AllReadyH.cons (by simp only [List.getElem?_toArray, List.getElem?_cons_succ, List.getElem?_cons_zero]; exact rfl) (fun K' hK => ?_) AllReadyH.nil)
                  go_simp
                  (refine hK.out _ _ (three_kz VV.out (Gr.alloc (Gr.drew (Gr.refl W5)) _).below) (fun hHeld => ?_); clear hK K'; try simp only [Act.put, List.setIfInBounds_toArray, List.set_cons_zero, List.set_cons_succ])
                  refine wpAnyH_ready (rs := [16]) (by kernel_rfl) (by simp) (AllReadyH.cons (by simp only [List.getElem?_toArray, List.getElem?_cons_succ, List.getElem?_cons_zero]; exact rfl) (fun K' hK => ?_) AllReadyH.nil)
                  refine step_appE ccs_len ccs_one rfl (.tmp 55) (.tmp 69) 24 rfl 40 Tryd.underlying24 Tryd.infoC rfl (by decide) (by decide) W3.heap.size _ _ rfl (OwnE.gr (OwnE.below HO.out Hb5.out (Nat.le_refl _)) (Gr.alloc (Gr.drew (Gr.refl W5)) _)) ⟨W5.heap.size, 0, none⟩ 1 1 [(R0, R1, R2)] rfl rfl (fun j u hu => alloc_cells (by simpa [ecs, ccs] using hu)) LK.out (by simp) (by have := Hb5.out.size; simp; omega) ?_; intro v4 w4 ho4 hb4 gb4 _; rw [← hN.out] at ho4; obtain ⟨A5, c5, rfl, ho4⟩ := OwnE.eta ho4; rw [List.length_map, List.length_take, Nat.min_eq_left (show k + 1 ≤ xs.length by omega)] at ho4 ⊢
                  have bz : Below W3.heap.size wr w4 := (Hb5.out.mono hsz).trans (((Gr.alloc (Gr.drew (Gr.refl W5)) _).below.mono (by have := Hb5.out.size; omega)).trans hb4)
                  have X4 := Lib.hid (And.intro (HX1.out.bel bz zM) (HX2.out.bel bz (Nat.lt_trans s2 zM)))
                  have S4 := three_gb gb4 (three_kz VV.out (Gr.alloc (Gr.drew (Gr.refl W5)) (.cells #[.int .i64 R0, .int .i64 R1, .int .i64 R2] 40)).below) hneB
                  obtain ⟨n0', n1', p4, f4⟩ := X4.out.1
                  have O4 := Lib.hid ho4
                  have BZ := Lib.hid bz
                  clear ho4 hb4 gb4 bz
                  (refine hK.out _ _ (S4) (fun hHeld => ?_); clear hK K'; try simp only [Act.put, List.setIfInBounds_toArray, List.set_cons_zero, List.set_cons_succ])
                  refine wpAnyH_ready (rs := [17]) (by kernel_rfl) (by simp) (AllReadyH.cons (by simp only [List.getElem?_toArray, List.getElem?_cons_succ, List.getElem?_cons_zero]; exact rfl) (fun K' hK => ?_) AllReadyH.nil)
                  go_simp
                  (refine hK.out _ _ (S4) (fun hHeld => ?_); clear hK K'; try simp only [Act.put, List.setIfInBounds_toArray, List.set_cons_zero, List.set_cons_succ])
                  refine wpAnyH_ready (rs := [18]) (by kernel_rfl) (by simp) (AllReadyH.cons (by simp only [List.getElem?_toArray, List.getElem?_cons_succ, List.getElem?_cons_zero]; exact rfl) (fun K' hK => ?_) AllReadyH.nil)
                  go_simp
                  (refine hK.out _ _ (three_s1 S4 (by omega)) (fun hHeld => ?_); clear hK K'; try simp only [Act.put, List.setIfInBounds_toArray, List.set_cons_zero, List.set_cons_succ])
                  refine wpAnyH_done (by kernel_rfl) ?_ _
                  go_wp2
                  go_roundw
                  case rel => exact ⟨k + 1, HLT.out, by go_num, hALL.out, A5, c5, OwnE.setOther (a := ⟨N, 2, none⟩) O4.out zM _, Bz.own2 X4.out.1, Bz.set1 X4.out.2 (by omega) _, fun o => (World.cell?_setCell_other _ _ _ _ (by intro e; cases e; omega)).trans ((BZ.out.cell (p := ⟨g3, o, none⟩) hg3).trans (HCG.out o)), (HBW.out.trans (BZ.out.mono (by omega))).setCell (by simp; omega) _, by have := BZ.out.size; simp; omega⟩
                  case measure => have := HLT.out; have := HLX.out; simp [intOf]; omega
                · go_simp
                  (go_at_call_of 21 (Value.string m1); refine (HR1.out _).mono ?_; rintro e q1 ⟨rfl, rfl⟩)
                  (refine hK.out _ _ (three_kz VV.out (Below.drew (Below.refl _ _))) (fun hHeld => ?_); clear hK K'; try simp only [Act.put, List.setIfInBounds_toArray, List.set_cons_zero, List.set_cons_succ])
                  refine wpAnyH_ready (rs := [1, 13]) (by kernel_rfl) (by simp) (AllReadyH.cons (by simp only [List.getElem?_toArray, List.getElem?_cons_succ, List.getElem?_cons_zero]; exact rfl) (fun K' hK => ?_) (AllReadyH.cons (by simp only [List.getElem?_toArray, List.getElem?_cons_succ, List.getElem?_cons_zero]; exact rfl) (fun K' hK => ?_) AllReadyH.nil))
                  · go_simp
                    (refine hK.out _ _ (three_kz VV.out (Below.drew (Below.refl _ _))) (fun hHeld => ?_); clear hK K'; try simp only [Act.put, List.setIfInBounds_toArray, List.set_cons_zero, List.set_cons_succ])
                    refine wpAnyH_ready (rs := [13]) (by kernel_rfl) (by simp) (AllReadyH.cons (by simp only [List.getElem?_toArray, List.getElem?_cons_succ, List.getElem?_cons_zero]; exact rfl) (fun K' hK => ?_) AllReadyH.nil)
                    go_simp
                    (go_at_call_of 21 (Value.string m2); refine (HR2.out _).mono ?_; rintro e q2 ⟨rfl, rfl⟩)
                    (refine hK.out _ _ (three_kz VV.out (Below.drew (Below.refl _ _))) (fun hHeld => ?_); clear hK K'; try simp only [Act.put, List.setIfInBounds_toArray, List.set_cons_zero, List.set_cons_succ])
                    (refine wpAnyH_take (i := 14) (v := ?_) (by simp only [List.getElem?_toArray, List.getElem?_cons_succ, List.getElem?_cons_zero]; exact rfl) (by kernel_rfl) (by kernel_rfl) (by kernel_rfl) (by intro _ _ _ h; exact h) (Or.inl ⟨by rfl, ?_⟩) (by assumption) ?_; rotate_left; (focus (intro w' hSw; (try dsimp only at hSw); go_simp; (try with_reducible rfl))); try simp only [Act.put, List.setIfInBounds_toArray, List.set_cons_zero, List.set_cons_succ])
                    refine wpAnyH_ready (rs := [15]) (by kernel_rfl) (by simp) (AllReadyH.cons (by simp only [List.getElem?_toArray, List.getElem?_cons_succ, List.getElem?_cons_zero]; exact rfl) (fun K' hK => ?_) AllReadyH.nil)
                    go_simp
                    (refine hK.out _ _ (three_kz VV.out (Gr.alloc (Gr.drew (Gr.refl W5)) _).below) (fun hHeld => ?_); clear hK K'; try simp only [Act.put, List.setIfInBounds_toArray, List.set_cons_zero, List.set_cons_succ])
                    refine wpAnyH_ready (rs := [16]) (by kernel_rfl) (by simp) (AllReadyH.cons (by simp only [List.getElem?_toArray, List.getElem?_cons_succ, List.getElem?_cons_zero]; exact rfl) (fun K' hK => ?_) AllReadyH.nil)
                    refine step_appE ccs_len ccs_one rfl (.tmp 55) (.tmp 69) 24 rfl 40 Tryd.underlying24 Tryd.infoC rfl (by decide) (by decide) W3.heap.size _ _ rfl (OwnE.gr (OwnE.below HO.out Hb5.out (Nat.le_refl _)) (Gr.alloc (Gr.drew (Gr.refl W5)) _)) ⟨W5.heap.size, 0, none⟩ 1 1 [(R0, R1, R2)] rfl rfl (fun j u hu => alloc_cells (by simpa [ecs, ccs] using hu)) LK.out (by simp) (by have := Hb5.out.size; simp; omega) ?_; intro v4 w4 ho4 hb4 gb4 _; rw [← hN.out] at ho4; obtain ⟨A5, c5, rfl, ho4⟩ := OwnE.eta ho4; rw [List.length_map, List.length_take, Nat.min_eq_left (show k + 1 ≤ xs.length by omega)] at ho4 ⊢
                    have bz : Below W3.heap.size wr w4 := (Hb5.out.mono hsz).trans (((Gr.alloc (Gr.drew (Gr.refl W5)) _).below.mono (by have := Hb5.out.size; omega)).trans hb4)
                    have X4 := Lib.hid (And.intro (HX1.out.bel bz zM) (HX2.out.bel bz (Nat.lt_trans s2 zM)))
                    have S4 := three_gb gb4 (three_kz VV.out (Gr.alloc (Gr.drew (Gr.refl W5)) (.cells #[.int .i64 R0, .int .i64 R1, .int .i64 R2] 40)).below) hneB
                    obtain ⟨n0', n1', p4, f4⟩ := X4.out.1
                    have O4 := Lib.hid ho4
                    have BZ := Lib.hid bz
                    clear ho4 hb4 gb4 bz
                    (refine hK.out _ _ (S4) (fun hHeld => ?_); clear hK K'; try simp only [Act.put, List.setIfInBounds_toArray, List.set_cons_zero, List.set_cons_succ])
                    refine wpAnyH_ready (rs := [17]) (by kernel_rfl) (by simp) (AllReadyH.cons (by simp only [List.getElem?_toArray, List.getElem?_cons_succ, List.getElem?_cons_zero]; exact rfl) (fun K' hK => ?_) AllReadyH.nil)
                    go_simp
                    (refine hK.out _ _ (S4) (fun hHeld => ?_); clear hK K'; try simp only [Act.put, List.setIfInBounds_toArray, List.set_cons_zero, List.set_cons_succ])
                    refine wpAnyH_ready (rs := [18]) (by kernel_rfl) (by simp) (AllReadyH.cons (by simp only [List.getElem?_toArray, List.getElem?_cons_succ, List.getElem?_cons_zero]; exact rfl) (fun K' hK => ?_) AllReadyH.nil)
                    go_simp
                    (refine hK.out _ _ (three_s1 S4 (by omega)) (fun hHeld => ?_); clear hK K'; try simp only [Act.put, List.setIfInBounds_toArray, List.set_cons_zero, List.set_cons_succ])
                    refine wpAnyH_done (by kernel_rfl) ?_ _
                    go_wp2
                    go_roundw
                    case rel => exact ⟨k + 1, HLT.out, by go_num, hALL.out, A5, c5, OwnE.setOther (a := ⟨N, 2, none⟩) O4.out zM _, Bz.own2 X4.out.1, Bz.set1 X4.out.2 (by omega) _, fun o => (World.cell?_setCell_other _ _ _ _ (by intro e; cases e; omega)).trans ((BZ.out.cell (p := ⟨g3, o, none⟩) hg3).trans (HCG.out o)), (HBW.out.trans (BZ.out.mono (by omega))).setCell (by simp; omega) _, by have := BZ.out.size; simp; omega⟩
                    case measure => have := HLT.out; have := HLX.out; simp [intOf]; omega
                  · go_simp
                    (go_at_call_of 21 (Value.string m2); refine (HR2.out _).mono ?_; rintro e q2 ⟨rfl, rfl⟩)
                    (refine hK.out _ _ (three_kz VV.out (Below.drew (Below.refl _ _))) (fun hHeld => ?_); clear hK K'; try simp only [Act.put, List.setIfInBounds_toArray, List.set_cons_zero, List.set_cons_succ])
                    (refine wpAnyH_take (i := 14) (v := ?_) (by simp only [List.getElem?_toArray, List.getElem?_cons_succ, List.getElem?_cons_zero]; exact rfl) (by kernel_rfl) (by kernel_rfl) (by kernel_rfl) (by intro _ _ _ h; exact h) (Or.inl ⟨by rfl, ?_⟩) (by assumption) ?_; rotate_left; (focus (intro w' hSw; (try dsimp only at hSw); go_simp; (try with_reducible rfl))); try simp only [Act.put, List.setIfInBounds_toArray, List.set_cons_zero, List.set_cons_succ])
                    refine wpAnyH_ready (rs := [1, 15]) (by kernel_rfl) (by simp) (AllReadyH.cons (by simp only [List.getElem?_toArray, List.getElem?_cons_succ, List.getElem?_cons_zero]; exact rfl) (fun K' hK => ?_) (AllReadyH.cons (by simp only [List.getElem?_toArray, List.getElem?_cons_succ, List.getElem?_cons_zero]; exact rfl) (fun K' hK => ?_) AllReadyH.nil))
                    · go_simp
                      (refine hK.out _ _ (three_kz VV.out (Below.drew (Below.refl _ _))) (fun hHeld => ?_); clear hK K'; try simp only [Act.put, List.setIfInBounds_toArray, List.set_cons_zero, List.set_cons_succ])
                      refine wpAnyH_ready (rs := [15]) (by kernel_rfl) (by simp) (AllReadyH.cons (by simp only [List.getElem?_toArray, List.getElem?_cons_succ, List.getElem?_cons_zero]; exact rfl) (fun K' hK => ?_) AllReadyH.nil)
                      go_simp
                      (refine hK.out _ _ (three_kz VV.out (Gr.alloc (Gr.drew (Gr.refl W5)) _).below) (fun hHeld => ?_); clear hK K'; try simp only [Act.put, List.setIfInBounds_toArray, List.set_cons_zero, List.set_cons_succ])
                      refine wpAnyH_ready (rs := [16]) (by kernel_rfl) (by simp) (AllReadyH.cons (by simp only [List.getElem?_toArray, List.getElem?_cons_succ, List.getElem?_cons_zero]; exact rfl) (fun K' hK => ?_) AllReadyH.nil)
                      refine step_appE ccs_len ccs_one rfl (.tmp 55) (.tmp 69) 24 rfl 40 Tryd.underlying24 Tryd.infoC rfl (by decide) (by decide) W3.heap.size _ _ rfl (OwnE.gr (OwnE.below HO.out Hb5.out (Nat.le_refl _)) (Gr.alloc (Gr.drew (Gr.refl W5)) _)) ⟨W5.heap.size, 0, none⟩ 1 1 [(R0, R1, R2)] rfl rfl (fun j u hu => alloc_cells (by simpa [ecs, ccs] using hu)) LK.out (by simp) (by have := Hb5.out.size; simp; omega) ?_; intro v4 w4 ho4 hb4 gb4 _; rw [← hN.out] at ho4; obtain ⟨A5, c5, rfl, ho4⟩ := OwnE.eta ho4; rw [List.length_map, List.length_take, Nat.min_eq_left (show k + 1 ≤ xs.length by omega)] at ho4 ⊢
                      have bz : Below W3.heap.size wr w4 := (Hb5.out.mono hsz).trans (((Gr.alloc (Gr.drew (Gr.refl W5)) _).below.mono (by have := Hb5.out.size; omega)).trans hb4)
                      have X4 := Lib.hid (And.intro (HX1.out.bel bz zM) (HX2.out.bel bz (Nat.lt_trans s2 zM)))
                      have S4 := three_gb gb4 (three_kz VV.out (Gr.alloc (Gr.drew (Gr.refl W5)) (.cells #[.int .i64 R0, .int .i64 R1, .int .i64 R2] 40)).below) hneB
                      obtain ⟨n0', n1', p4, f4⟩ := X4.out.1
                      have O4 := Lib.hid ho4
                      have BZ := Lib.hid bz
                      clear ho4 hb4 gb4 bz
                      (refine hK.out _ _ (S4) (fun hHeld => ?_); clear hK K'; try simp only [Act.put, List.setIfInBounds_toArray, List.set_cons_zero, List.set_cons_succ])
                      refine wpAnyH_ready (rs := [17]) (by kernel_rfl) (by simp) (AllReadyH.cons (by simp only [List.getElem?_toArray, List.getElem?_cons_succ, List.getElem?_cons_zero]; exact rfl) (fun K' hK => ?_) AllReadyH.nil)
                      go_simp
                      (refine hK.out _ _ (S4) (fun hHeld => ?_); clear hK K'; try simp only [Act.put, List.setIfInBounds_toArray, List.set_cons_zero, List.set_cons_succ])
                      refine wpAnyH_ready (rs := [18]) (by kernel_rfl) (by simp) (AllReadyH.cons (by simp only [List.getElem?_toArray, List.getElem?_cons_succ, List.getElem?_cons_zero]; exact rfl) (fun K' hK => ?_) AllReadyH.nil)
                      go_simp
                      (refine hK.out _ _ (three_s1 S4 (by omega)) (fun hHeld => ?_); clear hK K'; try simp only [Act.put, List.setIfInBounds_toArray, List.set_cons_zero, List.set_cons_succ])
                      refine wpAnyH_done (by kernel_rfl) ?_ _
                      go_wp2
                      go_roundw
                      case rel => exact ⟨k + 1, HLT.out, by go_num, hALL.out, A5, c5, OwnE.setOther (a := ⟨N, 2, none⟩) O4.out zM _, Bz.own2 X4.out.1, Bz.set1 X4.out.2 (by omega) _, fun o => (World.cell?_setCell_other _ _ _ _ (by intro e; cases e; omega)).trans ((BZ.out.cell (p := ⟨g3, o, none⟩) hg3).trans (HCG.out o)), (HBW.out.trans (BZ.out.mono (by omega))).setCell (by simp; omega) _, by have := BZ.out.size; simp; omega⟩
                      case measure => have := HLT.out; have := HLX.out; simp [intOf]; omega
                    · go_simp
                      (refine hK.out _ _ (three_kz VV.out (Gr.alloc (Gr.drew (Gr.refl W5)) _).below) (fun hHeld => ?_); clear hK K'; try simp only [Act.put, List.setIfInBounds_toArray, List.set_cons_zero, List.set_cons_succ])
                      refine wpAnyH_ready (rs := [1]) (by kernel_rfl) (by simp) (AllReadyH.cons (by simp only [List.getElem?_toArray, List.getElem?_cons_succ, List.getElem?_cons_zero]; exact rfl) (fun K' hK => ?_) AllReadyH.nil)
                      go_simp
                      (refine hK.out _ _ (three_kz VV.out (Gr.alloc (Gr.drew (Gr.refl W5)) _).below) (fun hHeld => ?_); clear hK K'; try simp only [Act.put, List.setIfInBounds_toArray, List.set_cons_zero, List.set_cons_succ])
                      refine wpAnyH_ready (rs := [16]) (by kernel_rfl) (by simp) (AllReadyH.cons (by simp only [List.getElem?_toArray, List.getElem?_cons_succ, List.getElem?_cons_zero]; exact rfl) (fun K' hK => ?_) AllReadyH.nil)
                      refine step_appE ccs_len ccs_one rfl (.tmp 55) (.tmp 69) 24 rfl 40 Tryd.underlying24 Tryd.infoC rfl (by decide) (by decide) W3.heap.size _ _ rfl (OwnE.gr (OwnE.below HO.out Hb5.out (Nat.le_refl _)) (Gr.alloc (Gr.drew (Gr.refl W5)) _)) ⟨W5.heap.size, 0, none⟩ 1 1 [(R0, R1, R2)] rfl rfl (fun j u hu => alloc_cells (by simpa [ecs, ccs] using hu)) LK.out (by simp) (by have := Hb5.out.size; simp; omega) ?_; intro v4 w4 ho4 hb4 gb4 _; rw [← hN.out] at ho4; obtain ⟨A5, c5, rfl, ho4⟩ := OwnE.eta ho4; rw [List.length_map, List.length_take, Nat.min_eq_left (show k + 1 ≤ xs.length by omega)] at ho4 ⊢
                      have bz : Below W3.heap.size wr w4 := (Hb5.out.mono hsz).trans (((Gr.alloc (Gr.drew (Gr.refl W5)) _).below.mono (by have := Hb5.out.size; omega)).trans hb4)
                      have X4 := Lib.hid (And.intro (HX1.out.bel bz zM) (HX2.out.bel bz (Nat.lt_trans s2 zM)))
                      have S4 := three_gb gb4 (three_kz VV.out (Gr.alloc (Gr.drew (Gr.refl W5)) (.cells #[.int .i64 R0, .int .i64 R1, .int .i64 R2] 40)).below) hneB
                      obtain ⟨n0', n1', p4, f4⟩ := X4.out.1
                      have O4 := Lib.hid ho4
                      have BZ := Lib.hid bz
                      clear ho4 hb4 gb4 bz
                      (refine hK.out _ _ (S4) (fun hHeld => ?_); clear hK K'; try simp only [Act.put, List.setIfInBounds_toArray, List.set_cons_zero, List.set_cons_succ])
                      refine wpAnyH_ready (rs := [17]) (by kernel_rfl) (by simp) (AllReadyH.cons (by simp only [List.getElem?_toArray, List.getElem?_cons_succ, List.getElem?_cons_zero]; exact rfl) (fun K' hK => ?_) AllReadyH.nil)
                      go_simp
                      (refine hK.out _ _ (S4) (fun hHeld => ?_); clear hK K'; try simp only [Act.put, List.setIfInBounds_toArray, List.set_cons_zero, List.set_cons_succ])
                      refine wpAnyH_ready (rs := [18]) (by kernel_rfl) (by simp) (AllReadyH.cons (by simp only [List.getElem?_toArray, List.getElem?_cons_succ, List.getElem?_cons_zero]; exact rfl) (fun K' hK => ?_) AllReadyH.nil)
                      go_simp
                      (refine hK.out _ _ (three_s1 S4 (by omega)) (fun hHeld => ?_); clear hK K'; try simp only [Act.put, List.setIfInBounds_toArray, List.set_cons_zero, List.set_cons_succ])
                      refine wpAnyH_done (by kernel_rfl) ?_ _
                      go_wp2
                      go_roundw
                      case rel => exact ⟨k + 1, HLT.out, by go_num, hALL.out, A5, c5, OwnE.setOther (a := ⟨N, 2, none⟩) O4.out zM _, Bz.own2 X4.out.1, Bz.set1 X4.out.2 (by omega) _, fun o => (World.cell?_setCell_other _ _ _ _ (by intro e; cases e; omega)).trans ((BZ.out.cell (p := ⟨g3, o, none⟩) hg3).trans (HCG.out o)), (HBW.out.trans (BZ.out.mono (by omega))).setCell (by simp; omega) _, by have := BZ.out.size; simp; omega⟩
                      case measure => have := HLT.out; have := HLX.out; simp [intOf]; omega
            · have HBF := Lib.hid (show ppB t = false by rw [HB.out, HCQ.out.2, hBad.out hx3]; rfl)
              have d2 : ¬ (ys.length : Int) = 3 := by omega
              have d3 : ((ys.length : Int) == 3) = false := by simpa using d2
              have d4 : ((ys.length : Int) != 3) = true := by simpa using d2
              clear hz5 hmc hBad hALL
              go_wp2_with (first | (go_at_call_of 19 (Value.string x); refine (HSX.out _).mono ?_; rintro e W5 ⟨v5, rfl, ho5, hb5⟩; obtain ⟨g5, c5', rfl, hg5, hc5, hcell5⟩ := ho5.view hp5; have hge5 := ownS_ge ho5 hp5 rfl; have Hb5 := Lib.hid hb5; clear hb5; have X6 := HX2.out.bel Hb5.out HX2.out.lt; obtain ⟨r0, r1, r2, rf⟩ := X6))
              refine bodyPost_ret (v := .tuple #[.agg #[.int .i64 0, .int .i64 0, .slice none 0 0], .bool false]) (by simp [results, Tryd.results9, go_sem, r0, r1, r2]) rfl ⟨0, 0, none, 0, 0, by rw [HBF.out], fun q => absurd (HBF.out.symm.trans q) (by decide), ?_⟩
              exact Below.set3s (HBW.out.trans (Hb5.out.mono HBW.out.size)) (Nat.le_refl _)
          · obtain rfl : k = xs.length := by omega
            have z1' : ¬ ((xs.length : Int) < (xs.length : Int)) := by omega
            have ho := HO.out
            rw [List.take_length] at ho
            have hall : xs.all (fun x => (spl 46 x).length == 3) = true := by
              rw [List.all_eq_true]
              intro x hx
              obtain ⟨j, hj, rfl⟩ := List.getElem_of_mem hx
              have := HA.out j hj xs[j] (by simp [hj])
              simp [this]
            have HCC := Lib.hid HCQ.out.1
            have HQ := Lib.hid (show ppB t = (pgood RW RH (xs.map mcl) && decide (ZtT RW RH (xs.map mcl) = t)) by rw [HB.out, HCQ.out.2, hall, HCQ.out.1]; rfl)
            have HL := Lib.hid (show (xs.map mcl).length ≤ 1048576 by have := HLX.out; simp; omega)
            have HV := Lib.hid (And.intro HX1.out (And.intro (OwnE.mono ho (show N + 1 ≤ W3.heap.size from zM)) (And.intro HX2.out HBW.out)))
            have hlm : (xs.map mcl).length = xs.length := List.length_map _
            clear ho hall HB HO HCQ x1 x2
            generalize xs.map mcl = cs at *
            rw [← hlm] at HV
            have HLM := Lib.hid hlm
            clear hlm
            go_upto_region 17 with fail
            rw [← HLM.out]
            have HRW := Lib.hid (OwnC.row HV.out.2.1 (by have := HL.out; unfold maxLen; omega))
            cases hok : pgood RW RH cs
            · have HGD := Lib.hid (fun (X : World) (g : Gr wr X) => Tryd.pzGood X RW RH _ cs _ hok (CluRow.gr HRW.out g))
              have HBF := Lib.hid (show ppB t = false by rw [HQ.out, hok]; rfl)
              clear hok
              refine wp_region_held_drew (S := fun W' => W'.cell? ⟨N, 0, none⟩ = some (.int .i64 RW) ∧ W'.cell? ⟨N, 1, none⟩ = some (.int .i64 RH) ∧ W'.cell? ⟨N, 2, none⟩ = some (.slice A cs.length cq)) (by kernel_rfl) (three_kz ⟨HV.out.1.1, HV.out.1.2.1, HV.out.1.2.2.1⟩ (Below.drew (Below.refl _ _))) (fun hHeld => ?_)
              (refine wpAnyH_take (i := 0) (v := ?_) (by simp only [List.getElem?_toArray, List.getElem?_cons_succ, List.getElem?_cons_zero]; exact rfl) (by kernel_rfl) (by kernel_rfl) (by kernel_rfl) (by intro _ _ _ h; exact h) (Or.inl ⟨by rfl, ?_⟩) (by assumption) ?_; rotate_left; (focus (intro w' hSw; (try dsimp only at hSw); go_simp; (try with_reducible rfl))); try simp only [Act.put, List.setIfInBounds_toArray, List.set_cons_zero, List.set_cons_succ])
              (refine wpAnyH_take (i := 1) (v := ?_) (by simp only [List.getElem?_toArray, List.getElem?_cons_succ, List.getElem?_cons_zero]; exact rfl) (by kernel_rfl) (by kernel_rfl) (by kernel_rfl) (by intro _ _ _ h; exact h) (Or.inl ⟨by rfl, ?_⟩) (by assumption) ?_; rotate_left; (focus (intro w' hSw; (try dsimp only at hSw); go_simp; (try with_reducible rfl))); try simp only [Act.put, List.setIfInBounds_toArray, List.set_cons_zero, List.set_cons_succ])
              refine wpAnyH_ready (rs := [2]) (by kernel_rfl) (by simp) (AllReadyH.cons (by simp only [List.getElem?_toArray, List.getElem?_cons_succ, List.getElem?_cons_zero]; exact rfl) (fun K' hK => ?_) AllReadyH.nil)
              go_simp
              (go_at_call 22; refine (HGD.out _ (Gr.drew (Gr.refl wr))).mono ?_; rintro e q1 ⟨rfl, g1⟩)
              have G1 : Gr wr q1 := (Gr.drew (Gr.refl _)).trans g1
              (refine hK.out _ _ (three_kz ⟨HV.out.1.1, HV.out.1.2.1, HV.out.1.2.2.1⟩ G1.below) (fun hHeld => ?_); clear hK K'; try simp only [Act.put, List.setIfInBounds_toArray, List.set_cons_zero, List.set_cons_succ])
              (refine wpAnyH_take (i := 3) (v := ?_) (by simp only [List.getElem?_toArray, List.getElem?_cons_succ, List.getElem?_cons_zero]; exact rfl) (by kernel_rfl) (by kernel_rfl) (by kernel_rfl) (by intro _ _ _ h; exact h) (Or.inl ⟨by rfl, ?_⟩) (by assumption) ?_; rotate_left; (focus (intro w' hSw; (try dsimp only at hSw); go_simp; (try with_reducible rfl))); try simp only [Act.put, List.setIfInBounds_toArray, List.set_cons_zero, List.set_cons_succ])
              (refine wpAnyH_take (i := 4) (v := undef) (by simp only [List.getElem?_toArray, List.getElem?_cons_succ, List.getElem?_cons_zero]; exact rfl) (by kernel_rfl) (by kernel_rfl) (by kernel_rfl) (by intro _ _ _ h; exact h) (Or.inr ⟨by rfl, rfl⟩) (by assumption) ?_; try simp only [Act.put, List.setIfInBounds_toArray, List.set_cons_zero, List.set_cons_succ])
              (refine wpAnyH_take (i := 5) (v := undef) (by simp only [List.getElem?_toArray, List.getElem?_cons_succ, List.getElem?_cons_zero]; exact rfl) (by kernel_rfl) (by kernel_rfl) (by kernel_rfl) (by intro _ _ _ h; exact h) (Or.inr ⟨by rfl, rfl⟩) (by assumption) ?_; try simp only [Act.put, List.setIfInBounds_toArray, List.set_cons_zero, List.set_cons_succ])
              (refine wpAnyH_take (i := 6) (v := undef) (by simp only [List.getElem?_toArray, List.getElem?_cons_succ, List.getElem?_cons_zero]; exact rfl) (by kernel_rfl) (by kernel_rfl) (by kernel_rfl) (by intro _ _ _ h; exact h) (Or.inr ⟨by rfl, rfl⟩) (by assumption) ?_; try simp only [Act.put, List.setIfInBounds_toArray, List.set_cons_zero, List.set_cons_succ])
              (refine wpAnyH_take (i := 7) (v := undef) (by simp only [List.getElem?_toArray, List.getElem?_cons_succ, List.getElem?_cons_zero]; exact rfl) (by kernel_rfl) (by kernel_rfl) (by kernel_rfl) (by intro _ _ _ h; exact h) (Or.inr ⟨by rfl, rfl⟩) (by assumption) ?_; try simp only [Act.put, List.setIfInBounds_toArray, List.set_cons_zero, List.set_cons_succ])
              (refine wpAnyH_take (i := 8) (v := ?_) (by simp only [List.getElem?_toArray, List.getElem?_cons_succ, List.getElem?_cons_zero]; exact rfl) (by kernel_rfl) (by kernel_rfl) (by kernel_rfl) (by intro _ _ _ h; exact h) (Or.inl ⟨by rfl, ?_⟩) (by assumption) ?_; rotate_left; (focus (intro w' hSw; (try dsimp only at hSw); go_simp; (try with_reducible rfl))); try simp only [Act.put, List.setIfInBounds_toArray, List.set_cons_zero, List.set_cons_succ])
              refine wpAnyH_ready (rs := [9]) (by kernel_rfl) (by simp) (AllReadyH.cons (by simp only [List.getElem?_toArray, List.getElem?_cons_succ, List.getElem?_cons_zero]; exact rfl) (fun K' hK => ?_) AllReadyH.nil)
              have Sx := HV.out.2.2.1.gr G1
              obtain ⟨r0, r1, r2, rf⟩ := Sx
              have zs : w.heap.size < q1.heap.size := World.block_lt_of_cell? _ _ r0
              go_simp
              (refine hK.out _ _ (three_sz ⟨(G1).keep0 HV.out.1.1, (G1).keep0 HV.out.1.2.1, (G1).keep0 HV.out.1.2.2.1⟩ (by omega)) (fun hHeld => ?_); clear hK K'; try simp only [Act.put, List.setIfInBounds_toArray, List.set_cons_zero, List.set_cons_succ])
              refine wpAnyH_ready (rs := [10]) (by kernel_rfl) (by simp) (AllReadyH.cons (by simp only [List.getElem?_toArray, List.getElem?_cons_succ, List.getElem?_cons_zero]; exact rfl) (fun K' hK => ?_) AllReadyH.nil)
              go_simp
              (refine hK.out _ _ (three_sz ⟨(G1).keep0 HV.out.1.1, (G1).keep0 HV.out.1.2.1, (G1).keep0 HV.out.1.2.2.1⟩ (by omega)) (fun hHeld => ?_); clear hK K'; try simp only [Act.put, List.setIfInBounds_toArray, List.set_cons_zero, List.set_cons_succ])
              refine wpAnyH_done (by kernel_rfl) ?_ _
              go_wp2
              refine bodyPost_ret (v := .tuple #[.agg #[.int .i64 RW, .int .i64 RH, .slice A cs.length cq], .bool false]) (by simp [results, Tryd.results9, go_sem, r0, r1, r2]) rfl ⟨RW, RH, A, cs.length, cq, by rw [HBF.out], fun _ => ⟨HWW.out.1.symm, HWW.out.2.symm, ?_⟩, ?_⟩
              · rw [HCC.out]; exact OwnE.mono (OwnC.set3s (OwnE.gr HV.out.2.1 G1) (by omega)) (by omega)
              · exact Below.set3s (HV.out.2.2.2.trans (G1.below.mono HV.out.2.2.2.size)) (Nat.le_refl _)
            · have HGD := Lib.hid (fun (X : World) (g : Gr wr X) => Tryd.pzGood X RW RH _ cs _ hok (CluRow.gr HRW.out g))
              have HTX := Lib.hid (fun (X : World) (g : Gr wr X) => Tryd.pzText X RW RH _ cs hok (CluRow.gr HRW.out g))
              rw [show (hdZ RW RH ++ ⟨(jtZ cs).toArray⟩ : ByteArray) = ZtT RW RH cs from rfl] at HTX
              by_cases hT : ZtT RW RH cs = t
              · have HBF := Lib.hid (show ppB t = true by rw [HQ.out, hok, decide_eq_true hT]; rfl)
                rw [hT] at HTX
                clear hok hT
                refine wp_region_held_drew (S := fun W' => W'.cell? ⟨N, 0, none⟩ = some (.int .i64 RW) ∧ W'.cell? ⟨N, 1, none⟩ = some (.int .i64 RH) ∧ W'.cell? ⟨N, 2, none⟩ = some (.slice A cs.length cq)) (by kernel_rfl) (three_kz ⟨HV.out.1.1, HV.out.1.2.1, HV.out.1.2.2.1⟩ (Below.drew (Below.refl _ _))) (fun hHeld => ?_)
                (refine wpAnyH_take (i := 0) (v := ?_) (by simp only [List.getElem?_toArray, List.getElem?_cons_succ, List.getElem?_cons_zero]; exact rfl) (by kernel_rfl) (by kernel_rfl) (by kernel_rfl) (by intro _ _ _ h; exact h) (Or.inl ⟨by rfl, ?_⟩) (by assumption) ?_; rotate_left; (focus (intro w' hSw; (try dsimp only at hSw); go_simp; (try with_reducible rfl))); try simp only [Act.put, List.setIfInBounds_toArray, List.set_cons_zero, List.set_cons_succ])
                (refine wpAnyH_take (i := 1) (v := ?_) (by simp only [List.getElem?_toArray, List.getElem?_cons_succ, List.getElem?_cons_zero]; exact rfl) (by kernel_rfl) (by kernel_rfl) (by kernel_rfl) (by intro _ _ _ h; exact h) (Or.inl ⟨by rfl, ?_⟩) (by assumption) ?_; rotate_left; (focus (intro w' hSw; (try dsimp only at hSw); go_simp; (try with_reducible rfl))); try simp only [Act.put, List.setIfInBounds_toArray, List.set_cons_zero, List.set_cons_succ])
                refine wpAnyH_ready (rs := [2]) (by kernel_rfl) (by simp) (AllReadyH.cons (by simp only [List.getElem?_toArray, List.getElem?_cons_succ, List.getElem?_cons_zero]; exact rfl) (fun K' hK => ?_) AllReadyH.nil)
                go_simp
                (go_at_call 22; refine (HGD.out _ (Gr.drew (Gr.refl wr))).mono ?_; rintro e q1 ⟨rfl, g1⟩)
                have G1 : Gr wr q1 := (Gr.drew (Gr.refl _)).trans g1
                (refine hK.out _ _ (three_kz ⟨HV.out.1.1, HV.out.1.2.1, HV.out.1.2.2.1⟩ G1.below) (fun hHeld => ?_); clear hK K'; try simp only [Act.put, List.setIfInBounds_toArray, List.set_cons_zero, List.set_cons_succ])
                (refine wpAnyH_take (i := 3) (v := ?_) (by simp only [List.getElem?_toArray, List.getElem?_cons_succ, List.getElem?_cons_zero]; exact rfl) (by kernel_rfl) (by kernel_rfl) (by kernel_rfl) (by intro _ _ _ h; exact h) (Or.inl ⟨by rfl, ?_⟩) (by assumption) ?_; rotate_left; (focus (intro w' hSw; (try dsimp only at hSw); go_simp; (try with_reducible rfl))); try simp only [Act.put, List.setIfInBounds_toArray, List.set_cons_zero, List.set_cons_succ])
                (refine wpAnyH_take (i := 4) (v := ?_) (by simp only [List.getElem?_toArray, List.getElem?_cons_succ, List.getElem?_cons_zero]; exact rfl) (by kernel_rfl) (by kernel_rfl) (by kernel_rfl) (by intro _ _ _ h; exact h) (Or.inl ⟨by rfl, ?_⟩) (by assumption) ?_; rotate_left; (focus (intro w' hSw; (try dsimp only at hSw); go_simp; (try with_reducible rfl))); try simp only [Act.put, List.setIfInBounds_toArray, List.set_cons_zero, List.set_cons_succ])
                (refine wpAnyH_take (i := 6) (v := ?_) (by simp only [List.getElem?_toArray, List.getElem?_cons_succ, List.getElem?_cons_zero]; exact rfl) (by kernel_rfl) (by kernel_rfl) (by kernel_rfl) (by intro _ _ _ h; exact h) (Or.inl ⟨by rfl, ?_⟩) (by assumption) ?_; rotate_left; (focus (intro w' hSw; (try dsimp only at hSw); go_simp; (try with_reducible rfl))); try simp only [Act.put, List.setIfInBounds_toArray, List.set_cons_zero, List.set_cons_succ])
                refine wpAnyH_ready (rs := [5]) (by kernel_rfl) (by simp) (AllReadyH.cons (by simp only [List.getElem?_toArray, List.getElem?_cons_succ, List.getElem?_cons_zero]; exact rfl) (fun K' hK => ?_) AllReadyH.nil)
                go_simp
                (go_at_call 23; refine (HTX.out _ G1).mono ?_; rintro e q2 ⟨rfl, g2⟩)
                have G2 : Gr wr q2 := G1.trans g2
                (refine hK.out _ _ (three_kz ⟨HV.out.1.1, HV.out.1.2.1, HV.out.1.2.2.1⟩ G2.below) (fun hHeld => ?_); clear hK K'; try simp only [Act.put, List.setIfInBounds_toArray, List.set_cons_zero, List.set_cons_succ])
                (refine wpAnyH_take (i := 7) (v := ?_) (by simp only [List.getElem?_toArray, List.getElem?_cons_succ, List.getElem?_cons_zero]; exact rfl) (by kernel_rfl) (by kernel_rfl) (by kernel_rfl) (by intro _ _ _ h; exact h) (Or.inl ⟨by rfl, ?_⟩) (by assumption) ?_; rotate_left; (focus (intro w' hSw; (try dsimp only at hSw); go_simp; (try with_reducible rfl))); try simp only [Act.put, List.setIfInBounds_toArray, List.set_cons_zero, List.set_cons_succ])
                (refine wpAnyH_take (i := 8) (v := ?_) (by simp only [List.getElem?_toArray, List.getElem?_cons_succ, List.getElem?_cons_zero]; exact rfl) (by kernel_rfl) (by kernel_rfl) (by kernel_rfl) (by intro _ _ _ h; exact h) (Or.inl ⟨by rfl, ?_⟩) (by assumption) ?_; rotate_left; (focus (intro w' hSw; (try dsimp only at hSw); go_simp; (try with_reducible rfl))); try simp only [Act.put, List.setIfInBounds_toArray, List.set_cons_zero, List.set_cons_succ])
                refine wpAnyH_ready (rs := [9]) (by kernel_rfl) (by simp) (AllReadyH.cons (by simp only [List.getElem?_toArray, List.getElem?_cons_succ, List.getElem?_cons_zero]; exact rfl) (fun K' hK => ?_) AllReadyH.nil)
                have Sx := HV.out.2.2.1.gr G2
                obtain ⟨r0, r1, r2, rf⟩ := Sx
                have zs : w.heap.size < q2.heap.size := World.block_lt_of_cell? _ _ r0
                go_simp
                (refine hK.out _ _ (three_sz ⟨(G2).keep0 HV.out.1.1, (G2).keep0 HV.out.1.2.1, (G2).keep0 HV.out.1.2.2.1⟩ (by omega)) (fun hHeld => ?_); clear hK K'; try simp only [Act.put, List.setIfInBounds_toArray, List.set_cons_zero, List.set_cons_succ])
                refine wpAnyH_ready (rs := [10]) (by kernel_rfl) (by simp) (AllReadyH.cons (by simp only [List.getElem?_toArray, List.getElem?_cons_succ, List.getElem?_cons_zero]; exact rfl) (fun K' hK => ?_) AllReadyH.nil)
                go_simp
                (refine hK.out _ _ (three_sz ⟨(G2).keep0 HV.out.1.1, (G2).keep0 HV.out.1.2.1, (G2).keep0 HV.out.1.2.2.1⟩ (by omega)) (fun hHeld => ?_); clear hK K'; try simp only [Act.put, List.setIfInBounds_toArray, List.set_cons_zero, List.set_cons_succ])
                refine wpAnyH_done (by kernel_rfl) ?_ _
                go_wp2
                refine bodyPost_ret (v := .tuple #[.agg #[.int .i64 RW, .int .i64 RH, .slice A cs.length cq], .bool true]) (by simp [results, Tryd.results9, go_sem, r0, r1, r2]) rfl ⟨RW, RH, A, cs.length, cq, by rw [HBF.out], fun _ => ⟨HWW.out.1.symm, HWW.out.2.symm, ?_⟩, ?_⟩
                · rw [HCC.out]; exact OwnE.mono (OwnC.set3s (OwnE.gr HV.out.2.1 G2) (by omega)) (by omega)
                · exact Below.set3s (HV.out.2.2.2.trans (G2.below.mono HV.out.2.2.2.size)) (Nat.le_refl _)
              · have HBF := Lib.hid (show ppB t = false by rw [HQ.out, hok, decide_eq_false hT]; rfl)
                have d9 : ((ZtT RW RH cs).toList == t.toList) = false := ne_txt hT
                generalize ZtT RW RH cs = TT at *
                clear hok hT
                refine wp_region_held_drew (S := fun W' => W'.cell? ⟨N, 0, none⟩ = some (.int .i64 RW) ∧ W'.cell? ⟨N, 1, none⟩ = some (.int .i64 RH) ∧ W'.cell? ⟨N, 2, none⟩ = some (.slice A cs.length cq)) (by kernel_rfl) (three_kz ⟨HV.out.1.1, HV.out.1.2.1, HV.out.1.2.2.1⟩ (Below.drew (Below.refl _ _))) (fun hHeld => ?_)
                (refine wpAnyH_take (i := 0) (v := ?_) (by simp only [List.getElem?_toArray, List.getElem?_cons_succ, List.getElem?_cons_zero]; exact rfl) (by kernel_rfl) (by kernel_rfl) (by kernel_rfl) (by intro _ _ _ h; exact h) (Or.inl ⟨by rfl, ?_⟩) (by assumption) ?_; rotate_left; (focus (intro w' hSw; (try dsimp only at hSw); go_simp; (try with_reducible rfl))); try simp only [Act.put, List.setIfInBounds_toArray, List.set_cons_zero, List.set_cons_succ])
                (refine wpAnyH_take (i := 1) (v := ?_) (by simp only [List.getElem?_toArray, List.getElem?_cons_succ, List.getElem?_cons_zero]; exact rfl) (by kernel_rfl) (by kernel_rfl) (by kernel_rfl) (by intro _ _ _ h; exact h) (Or.inl ⟨by rfl, ?_⟩) (by assumption) ?_; rotate_left; (focus (intro w' hSw; (try dsimp only at hSw); go_simp; (try with_reducible rfl))); try simp only [Act.put, List.setIfInBounds_toArray, List.set_cons_zero, List.set_cons_succ])
                refine wpAnyH_ready (rs := [2]) (by kernel_rfl) (by simp) (AllReadyH.cons (by simp only [List.getElem?_toArray, List.getElem?_cons_succ, List.getElem?_cons_zero]; exact rfl) (fun K' hK => ?_) AllReadyH.nil)
                go_simp
                (go_at_call 22; refine (HGD.out _ (Gr.drew (Gr.refl wr))).mono ?_; rintro e q1 ⟨rfl, g1⟩)
                have G1 : Gr wr q1 := (Gr.drew (Gr.refl _)).trans g1
                (refine hK.out _ _ (three_kz ⟨HV.out.1.1, HV.out.1.2.1, HV.out.1.2.2.1⟩ G1.below) (fun hHeld => ?_); clear hK K'; try simp only [Act.put, List.setIfInBounds_toArray, List.set_cons_zero, List.set_cons_succ])
                (refine wpAnyH_take (i := 3) (v := ?_) (by simp only [List.getElem?_toArray, List.getElem?_cons_succ, List.getElem?_cons_zero]; exact rfl) (by kernel_rfl) (by kernel_rfl) (by kernel_rfl) (by intro _ _ _ h; exact h) (Or.inl ⟨by rfl, ?_⟩) (by assumption) ?_; rotate_left; (focus (intro w' hSw; (try dsimp only at hSw); go_simp; (try with_reducible rfl))); try simp only [Act.put, List.setIfInBounds_toArray, List.set_cons_zero, List.set_cons_succ])
                (refine wpAnyH_take (i := 4) (v := ?_) (by simp only [List.getElem?_toArray, List.getElem?_cons_succ, List.getElem?_cons_zero]; exact rfl) (by kernel_rfl) (by kernel_rfl) (by kernel_rfl) (by intro _ _ _ h; exact h) (Or.inl ⟨by rfl, ?_⟩) (by assumption) ?_; rotate_left; (focus (intro w' hSw; (try dsimp only at hSw); go_simp; (try with_reducible rfl))); try simp only [Act.put, List.setIfInBounds_toArray, List.set_cons_zero, List.set_cons_succ])
                (refine wpAnyH_take (i := 6) (v := ?_) (by simp only [List.getElem?_toArray, List.getElem?_cons_succ, List.getElem?_cons_zero]; exact rfl) (by kernel_rfl) (by kernel_rfl) (by kernel_rfl) (by intro _ _ _ h; exact h) (Or.inl ⟨by rfl, ?_⟩) (by assumption) ?_; rotate_left; (focus (intro w' hSw; (try dsimp only at hSw); go_simp; (try with_reducible rfl))); try simp only [Act.put, List.setIfInBounds_toArray, List.set_cons_zero, List.set_cons_succ])
                refine wpAnyH_ready (rs := [5]) (by kernel_rfl) (by simp) (AllReadyH.cons (by simp only [List.getElem?_toArray, List.getElem?_cons_succ, List.getElem?_cons_zero]; exact rfl) (fun K' hK => ?_) AllReadyH.nil)
                go_simp
                (go_at_call 23; refine (HTX.out _ G1).mono ?_; rintro e q2 ⟨rfl, g2⟩)
                have G2 : Gr wr q2 := G1.trans g2
                (refine hK.out _ _ (three_kz ⟨HV.out.1.1, HV.out.1.2.1, HV.out.1.2.2.1⟩ G2.below) (fun hHeld => ?_); clear hK K'; try simp only [Act.put, List.setIfInBounds_toArray, List.set_cons_zero, List.set_cons_succ])
                (refine wpAnyH_take (i := 7) (v := ?_) (by simp only [List.getElem?_toArray, List.getElem?_cons_succ, List.getElem?_cons_zero]; exact rfl) (by kernel_rfl) (by kernel_rfl) (by kernel_rfl) (by intro _ _ _ h; exact h) (Or.inl ⟨by rfl, ?_⟩) (by assumption) ?_; rotate_left; (focus (intro w' hSw; (try dsimp only at hSw); go_simp; (try with_reducible rfl))); try simp only [Act.put, List.setIfInBounds_toArray, List.set_cons_zero, List.set_cons_succ])
                (refine wpAnyH_take (i := 8) (v := ?_) (by simp only [List.getElem?_toArray, List.getElem?_cons_succ, List.getElem?_cons_zero]; exact rfl) (by kernel_rfl) (by kernel_rfl) (by kernel_rfl) (by intro _ _ _ h; exact h) (Or.inl ⟨by rfl, ?_⟩) (by assumption) ?_; rotate_left; (focus (intro w' hSw; (try dsimp only at hSw); go_simp; (try with_reducible rfl))); try simp only [Act.put, List.setIfInBounds_toArray, List.set_cons_zero, List.set_cons_succ])
                refine wpAnyH_ready (rs := [9]) (by kernel_rfl) (by simp) (AllReadyH.cons (by simp only [List.getElem?_toArray, List.getElem?_cons_succ, List.getElem?_cons_zero]; exact rfl) (fun K' hK => ?_) AllReadyH.nil)
                have Sx := HV.out.2.2.1.gr G2
                obtain ⟨r0, r1, r2, rf⟩ := Sx
                have zs : w.heap.size < q2.heap.size := World.block_lt_of_cell? _ _ r0
                go_simp
                (refine hK.out _ _ (three_sz ⟨(G2).keep0 HV.out.1.1, (G2).keep0 HV.out.1.2.1, (G2).keep0 HV.out.1.2.2.1⟩ (by omega)) (fun hHeld => ?_); clear hK K'; try simp only [Act.put, List.setIfInBounds_toArray, List.set_cons_zero, List.set_cons_succ])
                refine wpAnyH_ready (rs := [10]) (by kernel_rfl) (by simp) (AllReadyH.cons (by simp only [List.getElem?_toArray, List.getElem?_cons_succ, List.getElem?_cons_zero]; exact rfl) (fun K' hK => ?_) AllReadyH.nil)
                go_simp
                (refine hK.out _ _ (three_sz ⟨(G2).keep0 HV.out.1.1, (G2).keep0 HV.out.1.2.1, (G2).keep0 HV.out.1.2.2.1⟩ (by omega)) (fun hHeld => ?_); clear hK K'; try simp only [Act.put, List.setIfInBounds_toArray, List.set_cons_zero, List.set_cons_succ])
                refine wpAnyH_done (by kernel_rfl) ?_ _
                go_wp2
                refine bodyPost_ret (v := .tuple #[.agg #[.int .i64 RW, .int .i64 RH, .slice A cs.length cq], .bool false]) (by simp [results, Tryd.results9, go_sem, r0, r1, r2]) rfl ⟨RW, RH, A, cs.length, cq, by rw [HBF.out], fun _ => ⟨HWW.out.1.symm, HWW.out.2.symm, ?_⟩, ?_⟩
                · rw [HCC.out]; exact OwnE.mono (OwnC.set3s (OwnE.gr HV.out.2.1 G2) (by omega)) (by omega)
                · exact Below.set3s (HV.out.2.2.2.trans (G2.below.mono HV.out.2.2.2.size)) (Nat.le_refl _)
      · have d8 : ¬ (0 : Int) < (y1.size : Int) := by omega
        have hC := HC3.out
        rw [if_neg hk, if_neg hk] at hC
        have HCC := Lib.hid hC.1
        have HQ := Lib.hid (show ppB t = (pgood RW RH [] && decide (ZtT RW RH [] = t)) by rw [HB.out, hC.1, hC.2]; rfl)
        have HL := Lib.hid (show ([] : List Clu).length ≤ 1048576 by simp)
        have HV := Lib.hid (And.intro HV.out.1 (And.intro (OwnE.nil 40 3 ccs Z (N + 1)) (And.intro HV.out.2.1 HV.out.2.2)))
        clear hC HC3 hk HB
        generalize ([] : List Clu) = cs at *
        go_upto_region 17 with fail
        have HRW := Lib.hid (OwnC.row HV.out.2.1 (by have := HL.out; unfold maxLen; omega))
        cases hok : pgood RW RH cs
        · have HGD := Lib.hid (fun (X : World) (g : Gr Z X) => Tryd.pzGood X RW RH _ cs _ hok (CluRow.gr HRW.out g))
          have HBF := Lib.hid (show ppB t = false by rw [HQ.out, hok]; rfl)
          clear hok
          refine wp_region_held_drew (S := fun W' => W'.cell? ⟨N, 0, none⟩ = some (.int .i64 RW) ∧ W'.cell? ⟨N, 1, none⟩ = some (.int .i64 RH) ∧ W'.cell? ⟨N, 2, none⟩ = some (.slice none 0 0)) (by kernel_rfl) (three_kz ⟨HV.out.1.1, HV.out.1.2.1, HV.out.1.2.2.1⟩ (Below.drew (Below.refl _ _))) (fun hHeld => ?_)
          (refine wpAnyH_take (i := 0) (v := ?_) (by simp only [List.getElem?_toArray, List.getElem?_cons_succ, List.getElem?_cons_zero]; exact rfl) (by kernel_rfl) (by kernel_rfl) (by kernel_rfl) (by intro _ _ _ h; exact h) (Or.inl ⟨by rfl, ?_⟩) (by assumption) ?_; rotate_left; (focus (intro w' hSw; (try dsimp only at hSw); go_simp; (try with_reducible rfl))); try simp only [Act.put, List.setIfInBounds_toArray, List.set_cons_zero, List.set_cons_succ])
          (refine wpAnyH_take (i := 1) (v := ?_) (by simp only [List.getElem?_toArray, List.getElem?_cons_succ, List.getElem?_cons_zero]; exact rfl) (by kernel_rfl) (by kernel_rfl) (by kernel_rfl) (by intro _ _ _ h; exact h) (Or.inl ⟨by rfl, ?_⟩) (by assumption) ?_; rotate_left; (focus (intro w' hSw; (try dsimp only at hSw); go_simp; (try with_reducible rfl))); try simp only [Act.put, List.setIfInBounds_toArray, List.set_cons_zero, List.set_cons_succ])
          refine wpAnyH_ready (rs := [2]) (by kernel_rfl) (by simp) (AllReadyH.cons (by simp only [List.getElem?_toArray, List.getElem?_cons_succ, List.getElem?_cons_zero]; exact rfl) (fun K' hK => ?_) AllReadyH.nil)
          go_simp
          (go_at_call 22; refine (HGD.out _ (Gr.drew (Gr.refl Z))).mono ?_; rintro e q1 ⟨rfl, g1⟩)
          have G1 : Gr Z q1 := (Gr.drew (Gr.refl _)).trans g1
          (refine hK.out _ _ (three_kz ⟨HV.out.1.1, HV.out.1.2.1, HV.out.1.2.2.1⟩ G1.below) (fun hHeld => ?_); clear hK K'; try simp only [Act.put, List.setIfInBounds_toArray, List.set_cons_zero, List.set_cons_succ])
          (refine wpAnyH_take (i := 3) (v := ?_) (by simp only [List.getElem?_toArray, List.getElem?_cons_succ, List.getElem?_cons_zero]; exact rfl) (by kernel_rfl) (by kernel_rfl) (by kernel_rfl) (by intro _ _ _ h; exact h) (Or.inl ⟨by rfl, ?_⟩) (by assumption) ?_; rotate_left; (focus (intro w' hSw; (try dsimp only at hSw); go_simp; (try with_reducible rfl))); try simp only [Act.put, List.setIfInBounds_toArray, List.set_cons_zero, List.set_cons_succ])
          (refine wpAnyH_take (i := 4) (v := undef) (by simp only [List.getElem?_toArray, List.getElem?_cons_succ, List.getElem?_cons_zero]; exact rfl) (by kernel_rfl) (by kernel_rfl) (by kernel_rfl) (by intro _ _ _ h; exact h) (Or.inr ⟨by rfl, rfl⟩) (by assumption) ?_; try simp only [Act.put, List.setIfInBounds_toArray, List.set_cons_zero, List.set_cons_succ])
          (refine wpAnyH_take (i := 5) (v := undef) (by simp only [List.getElem?_toArray, List.getElem?_cons_succ, List.getElem?_cons_zero]; exact rfl) (by kernel_rfl) (by kernel_rfl) (by kernel_rfl) (by intro _ _ _ h; exact h) (Or.inr ⟨by rfl, rfl⟩) (by assumption) ?_; try simp only [Act.put, List.setIfInBounds_toArray, List.set_cons_zero, List.set_cons_succ])
          (refine wpAnyH_take (i := 6) (v := undef) (by simp only [List.getElem?_toArray, List.getElem?_cons_succ, List.getElem?_cons_zero]; exact rfl) (by kernel_rfl) (by kernel_rfl) (by kernel_rfl) (by intro _ _ _ h; exact h) (Or.inr ⟨by rfl, rfl⟩) (by assumption) ?_; try simp only [Act.put, List.setIfInBounds_toArray, List.set_cons_zero, List.set_cons_succ])
          (refine wpAnyH_take (i := 7) (v := undef) (by simp only [List.getElem?_toArray, List.getElem?_cons_succ, List.getElem?_cons_zero]; exact rfl) (by kernel_rfl) (by kernel_rfl) (by kernel_rfl) (by intro _ _ _ h; exact h) (Or.inr ⟨by rfl, rfl⟩) (by assumption) ?_; try simp only [Act.put, List.setIfInBounds_toArray, List.set_cons_zero, List.set_cons_succ])
          (refine wpAnyH_take (i := 8) (v := ?_) (by simp only [List.getElem?_toArray, List.getElem?_cons_succ, List.getElem?_cons_zero]; exact rfl) (by kernel_rfl) (by kernel_rfl) (by kernel_rfl) (by intro _ _ _ h; exact h) (Or.inl ⟨by rfl, ?_⟩) (by assumption) ?_; rotate_left; (focus (intro w' hSw; (try dsimp only at hSw); go_simp; (try with_reducible rfl))); try simp only [Act.put, List.setIfInBounds_toArray, List.set_cons_zero, List.set_cons_succ])
          refine wpAnyH_ready (rs := [9]) (by kernel_rfl) (by simp) (AllReadyH.cons (by simp only [List.getElem?_toArray, List.getElem?_cons_succ, List.getElem?_cons_zero]; exact rfl) (fun K' hK => ?_) AllReadyH.nil)
          have Sx := HV.out.2.2.1.gr G1
          obtain ⟨r0, r1, r2, rf⟩ := Sx
          have zs : w.heap.size < q1.heap.size := World.block_lt_of_cell? _ _ r0
          go_simp
          (refine hK.out _ _ (three_sz ⟨(G1).keep0 HV.out.1.1, (G1).keep0 HV.out.1.2.1, (G1).keep0 HV.out.1.2.2.1⟩ (by omega)) (fun hHeld => ?_); clear hK K'; try simp only [Act.put, List.setIfInBounds_toArray, List.set_cons_zero, List.set_cons_succ])
          refine wpAnyH_ready (rs := [10]) (by kernel_rfl) (by simp) (AllReadyH.cons (by simp only [List.getElem?_toArray, List.getElem?_cons_succ, List.getElem?_cons_zero]; exact rfl) (fun K' hK => ?_) AllReadyH.nil)
          go_simp
          (refine hK.out _ _ (three_sz ⟨(G1).keep0 HV.out.1.1, (G1).keep0 HV.out.1.2.1, (G1).keep0 HV.out.1.2.2.1⟩ (by omega)) (fun hHeld => ?_); clear hK K'; try simp only [Act.put, List.setIfInBounds_toArray, List.set_cons_zero, List.set_cons_succ])
          refine wpAnyH_done (by kernel_rfl) ?_ _
          go_wp2
          refine bodyPost_ret (v := .tuple #[.agg #[.int .i64 RW, .int .i64 RH, .slice none 0 0], .bool false]) (by simp [results, Tryd.results9, go_sem, r0, r1, r2]) rfl ⟨RW, RH, none, 0, 0, by rw [HBF.out], fun _ => ⟨HWW.out.1.symm, HWW.out.2.symm, ?_⟩, ?_⟩
          · rw [HCC.out]; exact OwnE.mono (OwnC.set3s (OwnE.gr HV.out.2.1 G1) (by omega)) (by omega)
          · exact Below.set3s (HV.out.2.2.2.trans (G1.below.mono HV.out.2.2.2.size)) (Nat.le_refl _)
        · have HGD := Lib.hid (fun (X : World) (g : Gr Z X) => Tryd.pzGood X RW RH _ cs _ hok (CluRow.gr HRW.out g))
          have HTX := Lib.hid (fun (X : World) (g : Gr Z X) => Tryd.pzText X RW RH _ cs hok (CluRow.gr HRW.out g))
          rw [show (hdZ RW RH ++ ⟨(jtZ cs).toArray⟩ : ByteArray) = ZtT RW RH cs from rfl] at HTX
          by_cases hT : ZtT RW RH cs = t
          · have HBF := Lib.hid (show ppB t = true by rw [HQ.out, hok, decide_eq_true hT]; rfl)
            rw [hT] at HTX
            clear hok hT
            refine wp_region_held_drew (S := fun W' => W'.cell? ⟨N, 0, none⟩ = some (.int .i64 RW) ∧ W'.cell? ⟨N, 1, none⟩ = some (.int .i64 RH) ∧ W'.cell? ⟨N, 2, none⟩ = some (.slice none 0 0)) (by kernel_rfl) (three_kz ⟨HV.out.1.1, HV.out.1.2.1, HV.out.1.2.2.1⟩ (Below.drew (Below.refl _ _))) (fun hHeld => ?_)
            (refine wpAnyH_take (i := 0) (v := ?_) (by simp only [List.getElem?_toArray, List.getElem?_cons_succ, List.getElem?_cons_zero]; exact rfl) (by kernel_rfl) (by kernel_rfl) (by kernel_rfl) (by intro _ _ _ h; exact h) (Or.inl ⟨by rfl, ?_⟩) (by assumption) ?_; rotate_left; (focus (intro w' hSw; (try dsimp only at hSw); go_simp; (try with_reducible rfl))); try simp only [Act.put, List.setIfInBounds_toArray, List.set_cons_zero, List.set_cons_succ])
            (refine wpAnyH_take (i := 1) (v := ?_) (by simp only [List.getElem?_toArray, List.getElem?_cons_succ, List.getElem?_cons_zero]; exact rfl) (by kernel_rfl) (by kernel_rfl) (by kernel_rfl) (by intro _ _ _ h; exact h) (Or.inl ⟨by rfl, ?_⟩) (by assumption) ?_; rotate_left; (focus (intro w' hSw; (try dsimp only at hSw); go_simp; (try with_reducible rfl))); try simp only [Act.put, List.setIfInBounds_toArray, List.set_cons_zero, List.set_cons_succ])
            refine wpAnyH_ready (rs := [2]) (by kernel_rfl) (by simp) (AllReadyH.cons (by simp only [List.getElem?_toArray, List.getElem?_cons_succ, List.getElem?_cons_zero]; exact rfl) (fun K' hK => ?_) AllReadyH.nil)
            go_simp
            (go_at_call 22; refine (HGD.out _ (Gr.drew (Gr.refl Z))).mono ?_; rintro e q1 ⟨rfl, g1⟩)
            have G1 : Gr Z q1 := (Gr.drew (Gr.refl _)).trans g1
            (refine hK.out _ _ (three_kz ⟨HV.out.1.1, HV.out.1.2.1, HV.out.1.2.2.1⟩ G1.below) (fun hHeld => ?_); clear hK K'; try simp only [Act.put, List.setIfInBounds_toArray, List.set_cons_zero, List.set_cons_succ])
            (refine wpAnyH_take (i := 3) (v := ?_) (by simp only [List.getElem?_toArray, List.getElem?_cons_succ, List.getElem?_cons_zero]; exact rfl) (by kernel_rfl) (by kernel_rfl) (by kernel_rfl) (by intro _ _ _ h; exact h) (Or.inl ⟨by rfl, ?_⟩) (by assumption) ?_; rotate_left; (focus (intro w' hSw; (try dsimp only at hSw); go_simp; (try with_reducible rfl))); try simp only [Act.put, List.setIfInBounds_toArray, List.set_cons_zero, List.set_cons_succ])
            (refine wpAnyH_take (i := 4) (v := ?_) (by simp only [List.getElem?_toArray, List.getElem?_cons_succ, List.getElem?_cons_zero]; exact rfl) (by kernel_rfl) (by kernel_rfl) (by kernel_rfl) (by intro _ _ _ h; exact h) (Or.inl ⟨by rfl, ?_⟩) (by assumption) ?_; rotate_left; (focus (intro w' hSw; (try dsimp only at hSw); go_simp; (try with_reducible rfl))); try simp only [Act.put, List.setIfInBounds_toArray, List.set_cons_zero, List.set_cons_succ])
            (refine wpAnyH_take (i := 6) (v := ?_) (by simp only [List.getElem?_toArray, List.getElem?_cons_succ, List.getElem?_cons_zero]; exact rfl) (by kernel_rfl) (by kernel_rfl) (by kernel_rfl) (by intro _ _ _ h; exact h) (Or.inl ⟨by rfl, ?_⟩) (by assumption) ?_; rotate_left; (focus (intro w' hSw; (try dsimp only at hSw); go_simp; (try with_reducible rfl))); try simp only [Act.put, List.setIfInBounds_toArray, List.set_cons_zero, List.set_cons_succ])
            refine wpAnyH_ready (rs := [5]) (by kernel_rfl) (by simp) (AllReadyH.cons (by simp only [List.getElem?_toArray, List.getElem?_cons_succ, List.getElem?_cons_zero]; exact rfl) (fun K' hK => ?_) AllReadyH.nil)
            go_simp
            (go_at_call 23; refine (HTX.out _ G1).mono ?_; rintro e q2 ⟨rfl, g2⟩)
            have G2 : Gr Z q2 := G1.trans g2
            (refine hK.out _ _ (three_kz ⟨HV.out.1.1, HV.out.1.2.1, HV.out.1.2.2.1⟩ G2.below) (fun hHeld => ?_); clear hK K'; try simp only [Act.put, List.setIfInBounds_toArray, List.set_cons_zero, List.set_cons_succ])
            (refine wpAnyH_take (i := 7) (v := ?_) (by simp only [List.getElem?_toArray, List.getElem?_cons_succ, List.getElem?_cons_zero]; exact rfl) (by kernel_rfl) (by kernel_rfl) (by kernel_rfl) (by intro _ _ _ h; exact h) (Or.inl ⟨by rfl, ?_⟩) (by assumption) ?_; rotate_left; (focus (intro w' hSw; (try dsimp only at hSw); go_simp; (try with_reducible rfl))); try simp only [Act.put, List.setIfInBounds_toArray, List.set_cons_zero, List.set_cons_succ])
            (refine wpAnyH_take (i := 8) (v := ?_) (by simp only [List.getElem?_toArray, List.getElem?_cons_succ, List.getElem?_cons_zero]; exact rfl) (by kernel_rfl) (by kernel_rfl) (by kernel_rfl) (by intro _ _ _ h; exact h) (Or.inl ⟨by rfl, ?_⟩) (by assumption) ?_; rotate_left; (focus (intro w' hSw; (try dsimp only at hSw); go_simp; (try with_reducible rfl))); try simp only [Act.put, List.setIfInBounds_toArray, List.set_cons_zero, List.set_cons_succ])
            refine wpAnyH_ready (rs := [9]) (by kernel_rfl) (by simp) (AllReadyH.cons (by simp only [List.getElem?_toArray, List.getElem?_cons_succ, List.getElem?_cons_zero]; exact rfl) (fun K' hK => ?_) AllReadyH.nil)
            have Sx := HV.out.2.2.1.gr G2
            obtain ⟨r0, r1, r2, rf⟩ := Sx
            have zs : w.heap.size < q2.heap.size := World.block_lt_of_cell? _ _ r0
            go_simp
            (refine hK.out _ _ (three_sz ⟨(G2).keep0 HV.out.1.1, (G2).keep0 HV.out.1.2.1, (G2).keep0 HV.out.1.2.2.1⟩ (by omega)) (fun hHeld => ?_); clear hK K'; try simp only [Act.put, List.setIfInBounds_toArray, List.set_cons_zero, List.set_cons_succ])
            refine wpAnyH_ready (rs := [10]) (by kernel_rfl) (by simp) (AllReadyH.cons (by simp only [List.getElem?_toArray, List.getElem?_cons_succ, List.getElem?_cons_zero]; exact rfl) (fun K' hK => ?_) AllReadyH.nil)
            go_simp
            (refine hK.out _ _ (three_sz ⟨(G2).keep0 HV.out.1.1, (G2).keep0 HV.out.1.2.1, (G2).keep0 HV.out.1.2.2.1⟩ (by omega)) (fun hHeld => ?_); clear hK K'; try simp only [Act.put, List.setIfInBounds_toArray, List.set_cons_zero, List.set_cons_succ])
            refine wpAnyH_done (by kernel_rfl) ?_ _
            go_wp2
            refine bodyPost_ret (v := .tuple #[.agg #[.int .i64 RW, .int .i64 RH, .slice none 0 0], .bool true]) (by simp [results, Tryd.results9, go_sem, r0, r1, r2]) rfl ⟨RW, RH, none, 0, 0, by rw [HBF.out], fun _ => ⟨HWW.out.1.symm, HWW.out.2.symm, ?_⟩, ?_⟩
            · rw [HCC.out]; exact OwnE.mono (OwnC.set3s (OwnE.gr HV.out.2.1 G2) (by omega)) (by omega)
            · exact Below.set3s (HV.out.2.2.2.trans (G2.below.mono HV.out.2.2.2.size)) (Nat.le_refl _)
          · have HBF := Lib.hid (show ppB t = false by rw [HQ.out, hok, decide_eq_false hT]; rfl)
            have d9 : ((ZtT RW RH cs).toList == t.toList) = false := ne_txt hT
            generalize ZtT RW RH cs = TT at *
            clear hok hT
            refine wp_region_held_drew (S := fun W' => W'.cell? ⟨N, 0, none⟩ = some (.int .i64 RW) ∧ W'.cell? ⟨N, 1, none⟩ = some (.int .i64 RH) ∧ W'.cell? ⟨N, 2, none⟩ = some (.slice none 0 0)) (by kernel_rfl) (three_kz ⟨HV.out.1.1, HV.out.1.2.1, HV.out.1.2.2.1⟩ (Below.drew (Below.refl _ _))) (fun hHeld => ?_)
            (refine wpAnyH_take (i := 0) (v := ?_) (by simp only [List.getElem?_toArray, List.getElem?_cons_succ, List.getElem?_cons_zero]; exact rfl) (by kernel_rfl) (by kernel_rfl) (by kernel_rfl) (by intro _ _ _ h; exact h) (Or.inl ⟨by rfl, ?_⟩) (by assumption) ?_; rotate_left; (focus (intro w' hSw; (try dsimp only at hSw); go_simp; (try with_reducible rfl))); try simp only [Act.put, List.setIfInBounds_toArray, List.set_cons_zero, List.set_cons_succ])
            (refine wpAnyH_take (i := 1) (v := ?_) (by simp only [List.getElem?_toArray, List.getElem?_cons_succ, List.getElem?_cons_zero]; exact rfl) (by kernel_rfl) (by kernel_rfl) (by kernel_rfl) (by intro _ _ _ h; exact h) (Or.inl ⟨by rfl, ?_⟩) (by assumption) ?_; rotate_left; (focus (intro w' hSw; (try dsimp only at hSw); go_simp; (try with_reducible rfl))); try simp only [Act.put, List.setIfInBounds_toArray, List.set_cons_zero, List.set_cons_succ])
            refine wpAnyH_ready (rs := [2]) (by kernel_rfl) (by simp) (AllReadyH.cons (by simp only [List.getElem?_toArray, List.getElem?_cons_succ, List.getElem?_cons_zero]; exact rfl) (fun K' hK => ?_) AllReadyH.nil)
            go_simp
            (go_at_call 22; refine (HGD.out _ (Gr.drew (Gr.refl Z))).mono ?_; rintro e q1 ⟨rfl, g1⟩)
            have G1 : Gr Z q1 := (Gr.drew (Gr.refl _)).trans g1
            (refine hK.out _ _ (three_kz ⟨HV.out.1.1, HV.out.1.2.1, HV.out.1.2.2.1⟩ G1.below) (fun hHeld => ?_); clear hK K'; try simp only [Act.put, List.setIfInBounds_toArray, List.set_cons_zero, List.set_cons_succ])
            (refine wpAnyH_take (i := 3) (v := ?_) (by simp only [List.getElem?_toArray, List.getElem?_cons_succ, List.getElem?_cons_zero]; exact rfl) (by kernel_rfl) (by kernel_rfl) (by kernel_rfl) (by intro _ _ _ h; exact h) (Or.inl ⟨by rfl, ?_⟩) (by assumption) ?_; rotate_left; (focus (intro w' hSw; (try dsimp only at hSw); go_simp; (try with_reducible rfl))); try simp only [Act.put, List.setIfInBounds_toArray, List.set_cons_zero, List.set_cons_succ])
            (refine wpAnyH_take (i := 4) (v := ?_) (by simp only [List.getElem?_toArray, List.getElem?_cons_succ, List.getElem?_cons_zero]; exact rfl) (by kernel_rfl) (by kernel_rfl) (by kernel_rfl) (by intro _ _ _ h; exact h) (Or.inl ⟨by rfl, ?_⟩) (by assumption) ?_; rotate_left; (focus (intro w' hSw; (try dsimp only at hSw); go_simp; (try with_reducible rfl))); try simp only [Act.put, List.setIfInBounds_toArray, List.set_cons_zero, List.set_cons_succ])
            (refine wpAnyH_take (i := 6) (v := ?_) (by simp only [List.getElem?_toArray, List.getElem?_cons_succ, List.getElem?_cons_zero]; exact rfl) (by kernel_rfl) (by kernel_rfl) (by kernel_rfl) (by intro _ _ _ h; exact h) (Or.inl ⟨by rfl, ?_⟩) (by assumption) ?_; rotate_left; (focus (intro w' hSw; (try dsimp only at hSw); go_simp; (try with_reducible rfl))); try simp only [Act.put, List.setIfInBounds_toArray, List.set_cons_zero, List.set_cons_succ])
            refine wpAnyH_ready (rs := [5]) (by kernel_rfl) (by simp) (AllReadyH.cons (by simp only [List.getElem?_toArray, List.getElem?_cons_succ, List.getElem?_cons_zero]; exact rfl) (fun K' hK => ?_) AllReadyH.nil)
            go_simp
            (go_at_call 23; refine (HTX.out _ G1).mono ?_; rintro e q2 ⟨rfl, g2⟩)
            have G2 : Gr Z q2 := G1.trans g2
            (refine hK.out _ _ (three_kz ⟨HV.out.1.1, HV.out.1.2.1, HV.out.1.2.2.1⟩ G2.below) (fun hHeld => ?_); clear hK K'; try simp only [Act.put, List.setIfInBounds_toArray, List.set_cons_zero, List.set_cons_succ])
            (refine wpAnyH_take (i := 7) (v := ?_) (by simp only [List.getElem?_toArray, List.getElem?_cons_succ, List.getElem?_cons_zero]; exact rfl) (by kernel_rfl) (by kernel_rfl) (by kernel_rfl) (by intro _ _ _ h; exact h) (Or.inl ⟨by rfl, ?_⟩) (by assumption) ?_; rotate_left; (focus (intro w' hSw; (try dsimp only at hSw); go_simp; (try with_reducible rfl))); try simp only [Act.put, List.setIfInBounds_toArray, List.set_cons_zero, List.set_cons_succ])
            (refine wpAnyH_take (i := 8) (v := ?_) (by simp only [List.getElem?_toArray, List.getElem?_cons_succ, List.getElem?_cons_zero]; exact rfl) (by kernel_rfl) (by kernel_rfl) (by kernel_rfl) (by intro _ _ _ h; exact h) (Or.inl ⟨by rfl, ?_⟩) (by assumption) ?_; rotate_left; (focus (intro w' hSw; (try dsimp only at hSw); go_simp; (try with_reducible rfl))); try simp only [Act.put, List.setIfInBounds_toArray, List.set_cons_zero, List.set_cons_succ])
            refine wpAnyH_ready (rs := [9]) (by kernel_rfl) (by simp) (AllReadyH.cons (by simp only [List.getElem?_toArray, List.getElem?_cons_succ, List.getElem?_cons_zero]; exact rfl) (fun K' hK => ?_) AllReadyH.nil)
            have Sx := HV.out.2.2.1.gr G2
            obtain ⟨r0, r1, r2, rf⟩ := Sx
            have zs : w.heap.size < q2.heap.size := World.block_lt_of_cell? _ _ r0
            go_simp
            (refine hK.out _ _ (three_sz ⟨(G2).keep0 HV.out.1.1, (G2).keep0 HV.out.1.2.1, (G2).keep0 HV.out.1.2.2.1⟩ (by omega)) (fun hHeld => ?_); clear hK K'; try simp only [Act.put, List.setIfInBounds_toArray, List.set_cons_zero, List.set_cons_succ])
            refine wpAnyH_ready (rs := [10]) (by kernel_rfl) (by simp) (AllReadyH.cons (by simp only [List.getElem?_toArray, List.getElem?_cons_succ, List.getElem?_cons_zero]; exact rfl) (fun K' hK => ?_) AllReadyH.nil)
            go_simp
            (refine hK.out _ _ (three_sz ⟨(G2).keep0 HV.out.1.1, (G2).keep0 HV.out.1.2.1, (G2).keep0 HV.out.1.2.2.1⟩ (by omega)) (fun hHeld => ?_); clear hK K'; try simp only [Act.put, List.setIfInBounds_toArray, List.set_cons_zero, List.set_cons_succ])
            refine wpAnyH_done (by kernel_rfl) ?_ _
            go_wp2
            refine bodyPost_ret (v := .tuple #[.agg #[.int .i64 RW, .int .i64 RH, .slice none 0 0], .bool false]) (by simp [results, Tryd.results9, go_sem, r0, r1, r2]) rfl ⟨RW, RH, none, 0, 0, by rw [HBF.out], fun _ => ⟨HWW.out.1.symm, HWW.out.2.symm, ?_⟩, ?_⟩
            · rw [HCC.out]; exact OwnE.mono (OwnC.set3s (OwnE.gr HV.out.2.1 G2) (by omega)) (by omega)
            · exact Below.set3s (HV.out.2.2.2.trans (G2.below.mono HV.out.2.2.2.size)) (Nat.le_refl _)
  · have HB := Lib.hid (show ppB t = false by
      unfold ppB
      rw [hys]
      by_cases h3 : t.size ≤ 100
      · rw [decide_eq_false (show ¬ ys.length = 2 from fun q => h2 ⟨h3, q⟩)]; simp
      · rw [decide_eq_false h3]; rfl)
    clear hys hsz
    by_cases h3 : t.size ≤ 100
    · have d1 : ¬ (100 : Int) < (t.size : Int) := by omega
      have d2 : ¬ (ys.length : Int) = 2 := fun q => h2 ⟨h3, by omega⟩
      have d3 : ((ys.length : Int) == 2) = false := by simpa using d2
      have d4 : ((ys.length : Int) != 2) = true := by simpa using d2
      clear h2 h3
      go_enter Tryd.func9, Tryd.ntmps9
      go_wp2_with (first | (go_at_call_of 19 (Value.string t); refine (HSP.out _).mono ?_; rintro e W ⟨v, rfl, ho, hb⟩; obtain ⟨g, c, rfl, hg, hc, hcell⟩ := ho.view hpos; have Z0 : Bz W w.heap.size (.int .i64 0) (.int .i64 0) (.slice none 0 0) := ⟨cell_k2 hb (by simp [go_sem]), cell_k2 hb (by simp [go_sem]), cell_k2 hb (by simp [go_sem]), fun o => ((bcell hb).2 _ _ (by simp)).trans (by simp [go_sem])⟩; obtain ⟨r0, r1, r2, rf⟩ := Z0))
      refine bodyPost_ret (v := .tuple #[.agg #[.int .i64 0, .int .i64 0, .slice none 0 0], .bool false]) (by simp [results, Tryd.results9, go_sem, r0, r1, r2]) rfl ⟨0, 0, none, 0, 0, by rw [HB.out], fun q => absurd (HB.out.symm.trans q) (by decide), ?_⟩
      exact Below.set3s (((Gr.alloc (Gr.refl w) _).below).trans (hb.mono (by simp))) (Nat.le_refl _)
    · have d1 : (100 : Int) < (t.size : Int) := by omega
      clear h2 h3
      go_enter Tryd.func9, Tryd.ntmps9
      go_wp2_with (first | (go_at_call_of 19 (Value.string t); refine (HSP.out _).mono ?_; rintro e W ⟨v, rfl, ho, hb⟩; obtain ⟨g, c, rfl, hg, hc, hcell⟩ := ho.view hpos; have Z0 : Bz W w.heap.size (.int .i64 0) (.int .i64 0) (.slice none 0 0) := ⟨cell_k2 hb (by simp [go_sem]), cell_k2 hb (by simp [go_sem]), cell_k2 hb (by simp [go_sem]), fun o => ((bcell hb).2 _ _ (by simp)).trans (by simp [go_sem])⟩; obtain ⟨r0, r1, r2, rf⟩ := Z0))
      refine bodyPost_ret (v := .tuple #[.agg #[.int .i64 0, .int .i64 0, .slice none 0 0], .bool false]) (by simp [results, Tryd.results9, go_sem, r0, r1, r2]) rfl ⟨0, 0, none, 0, 0, by rw [HB.out], fun q => absurd (HB.out.symm.trans q) (by decide), ?_⟩
      exact Below.set3s (((Gr.alloc (Gr.refl w) _).below).trans (hb.mono (by simp))) (Nat.le_refl _)
end Go.Proofs
