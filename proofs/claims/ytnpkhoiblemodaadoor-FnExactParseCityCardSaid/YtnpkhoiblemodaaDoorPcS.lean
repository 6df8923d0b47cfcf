/-
  Chapter 4: a city out of a text, the model's.
-/
import Derived.Test.YtnpkhoiblemodaaDoorPcM
import Derived.Test.YtnpkhoiblemodaaDoorRead
import Derived.Test.YtnpkhoiblemodaaDoorQTail
import Derived.Deep.DeepCutAuto
namespace Go.Proofs
open Go.RowKit Av Sp
set_option linter.unusedVariables false
set_option linter.unusedSimpArgs false
/-- what the reading of a city hands back: if it has failed, whatever city -/
def RetQ (w : World) (t : ByteArray) (e : Ending) (w' : World) : Prop := ∃ W H A n c, e = .returned (.tuple #[.agg #[.int .i64 W, .int .i64 H, .slice A n c], .bool (pcB t)]) ∧ (pcB t = true → W = pcW t ∧ H = pcH t ∧ OwnB w' w.heap.size (.slice A n c) (pcC t)) ∧ Below w.heap.size w w'
theorem Below.set3s {n b : Nat} {a w : World} {v1 v2 v3 : Value} (h : Below n a w) (hb : n ≤ b) : Below n a (((w.setCell ⟨b, 0, none⟩ v1).setCell ⟨b, 1, none⟩ v2).setCell ⟨b, 2, none⟩ v3) :=
  ((h.setCell (p := ⟨b, 0, none⟩) hb _).setCell (p := ⟨b, 1, none⟩) hb _).setCell (p := ⟨b, 2, none⟩) hb _
/-- three cells of a box, none frozen -/
def Bz (w : World) (n : Nat) (a b c : Value) : Prop := w.cell? ⟨n, 0, none⟩ = some a ∧ w.cell? ⟨n, 1, none⟩ = some b ∧ w.cell? ⟨n, 2, none⟩ = some c ∧ ∀ o, w.frozen? ⟨n, o, none⟩ = false
theorem Bz.bel {w w' : World} {n m : Nat} {a b c : Value} (h : Bz w n a b c) (g : Below m w w') (hn : n < m) : Bz w' n a b c :=
  ⟨(g.cell (p := ⟨n, 0, none⟩) hn).trans h.1, (g.cell (p := ⟨n, 1, none⟩) hn).trans h.2.1, (g.cell (p := ⟨n, 2, none⟩) hn).trans h.2.2.1, fun o => (g.frozen (p := ⟨n, o, none⟩) hn).trans (h.2.2.2 o)⟩
theorem Bz.lt {w : World} {n : Nat} {a b c : Value} (h : Bz w n a b c) : n < w.heap.size := World.block_lt_of_cell? _ _ h.1
theorem Bz.gr {w w' : World} {n : Nat} {a b c : Value} (h : Bz w n a b c) (g : Gr w w') : Bz w' n a b c := h.bel g.below h.lt
theorem Bz.set1 {w : World} {n m : Nat} {a b c x : Value} (h : Bz w n a b c) (hne : n ≠ m) (o : Nat) : Bz (w.setCell ⟨m, o, none⟩ x) n a b c := by
  have k : ∀ (i : Nat) (v : Value), w.cell? ⟨n, i, none⟩ = some v → (w.setCell ⟨m, o, none⟩ x).cell? ⟨n, i, none⟩ = some v := fun i v q => (World.cell?_setCell_other _ _ _ _ (by intro e; cases e; exact hne rfl)).trans q
  exact ⟨k _ _ h.1, k _ _ h.2.1, k _ _ h.2.2.1, fun i => (World.frozen?_setCell _ _ _ _).trans (h.2.2.2 i)⟩
theorem Bz.own2 {w : World} {n : Nat} {a b c z : Value} (h : Bz w n a b c) : Bz (w.setCell ⟨n, 2, none⟩ z) n a b z :=
  ⟨(World.cell?_setCell_other _ _ _ _ (by simp)).trans h.1, (World.cell?_setCell_other _ _ _ _ (by simp)).trans h.2.1, World.cell?_setCell_same _ _ _ h.2.2.1, fun i => (World.frozen?_setCell _ _ _ _).trans (h.2.2.2 i)⟩
theorem Bz.own {w : World} {n : Nat} {a b c x y z : Value} (h : Bz w n a b c) : Bz (((w.setCell ⟨n, 0, none⟩ x).setCell ⟨n, 1, none⟩ y).setCell ⟨n, 2, none⟩ z) n x y z := by
  obtain ⟨h0, h1, h2, hf⟩ := h
  exact ⟨(World.cell?_setCell_other _ _ _ _ (by simp)).trans ((World.cell?_setCell_other _ _ _ _ (by simp)).trans (World.cell?_setCell_same _ _ _ h0)), (World.cell?_setCell_other _ _ _ _ (by simp)).trans (World.cell?_setCell_same _ _ _ ((World.cell?_setCell_other _ _ _ _ (by simp)).trans h1)), World.cell?_setCell_same _ _ _ ((World.cell?_setCell_other _ _ _ _ (by simp)).trans ((World.cell?_setCell_other _ _ _ _ (by simp)).trans h2)), fun o => by simpa using hf o⟩
theorem OwnB.set3s {w : World} {B m : Nat} {v x y z : Value} {ps : List Blk} (h : OwnB w B v ps) (hm : m < B) : OwnB (((w.setCell ⟨m, 0, none⟩ x).setCell ⟨m, 1, none⟩ y).setCell ⟨m, 2, none⟩ z) B v ps :=
  OwnE.setOther (a := ⟨m, 2, none⟩) (OwnE.setOther (a := ⟨m, 1, none⟩) (OwnE.setOther (a := ⟨m, 0, none⟩) h hm _) hm _) hm _
theorem two_kz {w w' : World} {a b : Addr} {x y : Value} (h : w.cell? a = some x ∧ w.cell? b = some y) (g : Below w.heap.size w w') : w'.cell? a = some x ∧ w'.cell? b = some y := ⟨cell_k2 g h.1, cell_k2 g h.2⟩
theorem three_kz {w w' : World} {a b c : Addr} {x y z : Value} (h : w.cell? a = some x ∧ w.cell? b = some y ∧ w.cell? c = some z) (g : Below w.heap.size w w') : w'.cell? a = some x ∧ w'.cell? b = some y ∧ w'.cell? c = some z := ⟨cell_k2 g h.1, cell_k2 g h.2.1, cell_k2 g h.2.2⟩
theorem three_sz {w : World} {n s : Nat} {x y z v0 v1 v2 : Value} (h : w.cell? ⟨n, 0, none⟩ = some x ∧ w.cell? ⟨n, 1, none⟩ = some y ∧ w.cell? ⟨n, 2, none⟩ = some z) (hn : n ≠ s) : (((w.setCell ⟨s, 0, none⟩ v0).setCell ⟨s, 1, none⟩ v1).setCell ⟨s, 2, none⟩ v2).cell? ⟨n, 0, none⟩ = some x ∧ (((w.setCell ⟨s, 0, none⟩ v0).setCell ⟨s, 1, none⟩ v1).setCell ⟨s, 2, none⟩ v2).cell? ⟨n, 1, none⟩ = some y ∧ (((w.setCell ⟨s, 0, none⟩ v0).setCell ⟨s, 1, none⟩ v1).setCell ⟨s, 2, none⟩ v2).cell? ⟨n, 2, none⟩ = some z := by
  have k : ∀ (W : World) (q o : Nat) (v u : Value), W.cell? ⟨n, q, none⟩ = some u → (W.setCell ⟨s, o, none⟩ v).cell? ⟨n, q, none⟩ = some u := fun W q o v u e => (World.cell?_setCell_other _ _ _ _ (by intro e; cases e; exact hn rfl)).trans e
  exact ⟨k _ _ _ _ _ (k _ _ _ _ _ (k _ _ _ _ _ h.1)), k _ _ _ _ _ (k _ _ _ _ _ (k _ _ _ _ _ h.2.1)), k _ _ _ _ _ (k _ _ _ _ _ (k _ _ _ _ _ h.2.2))⟩
def QRel (xs : List ByteArray) (w W3 : World) (g N : Nat) (W H : Int) (i : Value) (wr : World) : Prop := ∃ k : Nat, k ≤ xs.length ∧ i = .int .i64 k ∧ (∀ j, j < k → ∀ x, xs[j]? = some x → x.size = 3) ∧ ∃ A c, OwnB wr W3.heap.size (.slice A k c) ((xs.take k).map mbk) ∧ Bz wr N (.int .i64 W) (.int .i64 H) (.slice A k c) ∧ Bz wr w.heap.size (.int .i64 0) (.int .i64 0) (.slice none 0 0) ∧ (∀ o, wr.cell? ⟨g, o, none⟩ = W3.cell? ⟨g, o, none⟩) ∧ Below w.heap.size w wr ∧ W3.heap.size ≤ wr.heap.size
theorem three_bytes {x : ByteArray} (h : x.size = 3) : ∃ a b d, x = ⟨#[a, b, d]⟩ := by
  obtain ⟨⟨l⟩⟩ := x
  match l, h with
  | [a, b, d], _ => exact ⟨a, b, d, rfl⟩
theorem mbk_three (a b d : UInt8) : mbk ⟨#[a, b, d]⟩ = ((a.toNat : Int) - 48, (d.toNat : Int) - 48, b == 124) := rfl
theorem u8_eql (b : UInt8) : (((b.toNat : Int)) == 124) = (b == 124) := by
  rw [Bool.eq_iff_iff, beq_iff_eq, beq_iff_eq]
  constructor
  · intro h; exact UInt8.toNat_inj.1 (by have : (124 : UInt8).toNat = 124 := rfl; omega)
  · rintro rfl; rfl
set_option maxRecDepth 100000 in
set_option maxHeartbeats 1600000 in
theorem Tryd.avParse (t : ByteArray) (w : World) (ht : t.size ≤ 1048576) :
    Calls Tryd.prog 22 #[.string t] w (RetQ w t) := by
  have mixed : Tryd.prog.follows .mixedOrders = true := by kernel_rfl
  have HSP := Lib.hid (fun (X : World) => Tryd.l1SplitB 58 t X ht)
  have hpos := spl_pos 58 t
  have hsz := spl_size 58 t
  have hlen := spl_len 58 t
  obtain ⟨ys, hys⟩ : ∃ ys, spl 58 t = ys := ⟨_, rfl⟩
  rw [hys] at HSP hpos hsz hlen
  have zt : (t.size : Int) ≤ 1048576 := by omega
  by_cases h2 : t.size ≤ 140 ∧ ys.length = 2
  · obtain ⟨h1, h2⟩ := h2
    obtain ⟨y0, y1, rfl⟩ : ∃ y0 y1, ys = [y0, y1] := by
      match ys, h2 with
      | [a, b], _ => exact ⟨a, b, rfl⟩
    have d1 : ¬ (140 : Int) < (t.size : Int) := by omega
    have s0 : y0.size ≤ 140 := Nat.le_trans (hsz y0 (by simp)) h1
    have s1 : y1.size ≤ 140 := Nat.le_trans (hsz y1 (by simp)) h1
    have eS : pcS t = y0 := by unfold pcS; rw [hys]; rfl
    have eK : pcK t = y1 := by unfold pcK; rw [hys]; rfl
    have HS2 := Lib.hid (fun (X : World) => Tryd.l1SplitB 120 y0 X (by omega))
    have hp2 := spl_pos 120 y0
    have hz2 := spl_size 120 y0
    obtain ⟨zs, hzs⟩ : ∃ zs, spl 120 y0 = zs := ⟨_, rfl⟩
    rw [hzs] at HS2 hp2 hz2
    have hh2 : (decide (t.size ≤ 140) && decide ((spl 58 t).length = 2)) = true := by rw [hys, decide_eq_true h1]; rfl
    have HB2 := Lib.hid (show ¬ zs.length = 2 → pcB t = false from fun q => by
      unfold pcB
      rw [eS, hzs, decide_eq_false q]; simp)
    have HB3 := Lib.hid (show zs.length = 2 → pcB t = (pc3 t && (okB (pcW t) (pcH t) (pcC t) && decide (CtT (pcW t) (pcH t) (pcC t) = t))) from fun q => by
      unfold pcB
      rw [eS, hzs, decide_eq_true q, hys, decide_eq_true h1]; simp)
    have HW := Lib.hid (show pcW t = Rd.rd (nthB zs 0).data.toList ∧ pcH t = Rd.rd (nthB zs 1).data.toList by unfold pcW pcH; rw [eS, hzs]; exact ⟨rfl, rfl⟩)
    have HC3 := Lib.hid (show pcC t = (if 0 < y1.size then (spl 44 y1).map mbk else []) ∧ pc3 t = (if 0 < y1.size then (spl 44 y1).all (fun x => x.size == 3) else true) by unfold pcC pc3; rw [eK]; exact ⟨rfl, rfl⟩)
    have HS3 := Lib.hid (fun (X : World) => Tryd.l1SplitB 44 y1 X (by omega))
    clear hys hzs hsz hlen eS eK h1 h2 hh2 hpos
    have hpos : 0 < [y0, y1].length := by simp
    by_cases h3 : zs.length = 2
    · obtain ⟨z0, z1, rfl⟩ : ∃ z0 z1, zs = [z0, z1] := by
        match zs, h3 with
        | [a, b], _ => exact ⟨a, b, rfl⟩
      have HBQ := HB3.out rfl
      have hw := HW.out
      rw [hw.1, hw.2] at HBQ
      have HR0 := Lib.hid (fun (X : World) => Tryd.l1Read z0 X (by have := hz2 z0 (by simp); unfold maxLen; omega))
      have HR1 := Lib.hid (fun (X : World) => Tryd.l1Read z1 X (by have := hz2 z1 (by simp); unfold maxLen; omega))
      change pcW t = Rd.rd z0.data.toList ∧ pcH t = Rd.rd z1.data.toList at hw
      change pcB t = (pc3 t && (okB (Rd.rd z0.data.toList) (Rd.rd z1.data.toList) (pcC t) && decide (CtT (Rd.rd z0.data.toList) (Rd.rd z1.data.toList) (pcC t) = t))) at HBQ
      have HWW := Lib.hid hw
      have HB := Lib.hid HBQ
      generalize Rd.rd z0.data.toList = RW at *
      generalize Rd.rd z1.data.toList = RH at *
      clear h3 hz2 HB2 HB3 HW hw HBQ
      have hp0 : 0 < [y0, y1].length := by simp
      go_enter Tryd.func22, Tryd.ntmps22
      go_upto_region 7 with (first | (go_at_call_of 42 (Value.string t); refine (HSP.out _).mono ?_; rintro e W ⟨v, rfl, ho, hb⟩; obtain ⟨g, c, rfl, hg, hc, hcell⟩ := ho.view hpos; have Z0 : Bz W w.heap.size (.int .i64 0) (.int .i64 0) (.slice none 0 0) := ⟨cell_k2 hb (by simp [go_sem]), cell_k2 hb (by simp [go_sem]), cell_k2 hb (by simp [go_sem]), fun o => ((bcell hb).2 _ _ (by simp)).trans (by simp [go_sem])⟩; have u0 := hcell 0 y0 rfl; have u1 := hcell 1 y1 rfl; have z5 : (2 : Int) ≤ (c : Int) := (by simp at hc; omega); clear hcell ho) | (go_at_call_of 42 (Value.string y0); refine (HS2.out _).mono ?_; rintro e W2 ⟨v2, rfl, ho2, hb2⟩; obtain ⟨g2, c2, rfl, hg2, hc2, hcell2⟩ := ho2.view hp2; have Z2 := Z0.bel hb2 Z0.lt; have u1' := ((bcell hb2).1 g (0 + 1) hg).trans u1; have v0 := hcell2 0 z0 rfl; have v1 := hcell2 1 z1 rfl; have z6 : (2 : Int) ≤ (c2 : Int) := (by simp at hc2; omega); have gg2 : g < W2.heap.size := Nat.lt_of_lt_of_le hg hb2.size; clear hcell2 ho2 u0 u1))
      have SZ := Lib.hid (And.intro hg2 gg2)
      have VV := Lib.hid (And.intro v0 v1)
      have ZZ := Lib.hid Z2
      have UU := Lib.hid u1'
      have BB := Lib.hid (show Below w.heap.size w W2 from (((Gr.alloc (Gr.refl w) (.cells #[.int .i64 0, .int .i64 0, .slice none 0 0] 30)).below).trans (hb.mono (by simp))).trans (hb2.mono (Nat.le_trans (by simp) hb.size)))
      have s2 : w.heap.size < W2.heap.size := Z2.lt
      clear hb hb2 Z0 Z2 u1' v0 v1
      refine wp_region_held_drew (S := fun W' => W'.cell? ⟨g2, 0 + 0, none⟩ = some (.string z0) ∧ W'.cell? ⟨g2, 0 + 1, none⟩ = some (.string z1)) (by kernel_rfl) (two_kz VV.out (Below.drew (Below.refl _ _))) (fun hHeld => ?_)
      (refine wpAnyH_take (i := 0) (v := ?_) (by simp only [List.getElem?_toArray, List.getElem?_cons_succ, List.getElem?_cons_zero]; exact rfl) (by kernel_rfl) (by kernel_rfl) (by kernel_rfl) (by intro _ _ _ h; exact h) (Or.inl ⟨by rfl, ?_⟩) (by assumption) ?_; rotate_left; (focus (intro w' hSw; (try dsimp only at hSw); go_simp; (try with_reducible rfl))); try simp only [Act.put, List.setIfInBounds_toArray, List.set_cons_zero, List.set_cons_succ])
      (refine wpAnyH_take (i := 1) (v := ?_) (by simp only [List.getElem?_toArray, List.getElem?_cons_succ, List.getElem?_cons_zero]; exact rfl) (by kernel_rfl) (by kernel_rfl) (by kernel_rfl) (by intro _ _ _ h; exact h) (Or.inl ⟨by rfl, ?_⟩) (by assumption) ?_; rotate_left; (focus (intro w' hSw; (try dsimp only at hSw); go_simp; (try with_reducible rfl))); try simp only [Act.put, List.setIfInBounds_toArray, List.set_cons_zero, List.set_cons_succ])
      (refine wpAnyH_take (i := 2) (v := ?_) (by simp only [List.getElem?_toArray, List.getElem?_cons_succ, List.getElem?_cons_zero]; exact rfl) (by kernel_rfl) (by kernel_rfl) (by kernel_rfl) (by intro _ _ _ h; exact h) (Or.inl ⟨by rfl, ?_⟩) (by assumption) ?_; rotate_left; (focus (intro w' hSw; (try dsimp only at hSw); go_simp; (try with_reducible rfl))); try simp only [Act.put, List.setIfInBounds_toArray, List.set_cons_zero, List.set_cons_succ])
      (refine wpAnyH_take (i := 4) (v := ?_) (by simp only [List.getElem?_toArray, List.getElem?_cons_succ, List.getElem?_cons_zero]; exact rfl) (by kernel_rfl) (by kernel_rfl) (by kernel_rfl) (by intro _ _ _ h; exact h) (Or.inl ⟨by rfl, ?_⟩) (by assumption) ?_; rotate_left; (focus (intro w' hSw; (try dsimp only at hSw); go_simp; (try with_reducible rfl))); try simp only [Act.put, List.setIfInBounds_toArray, List.set_cons_zero, List.set_cons_succ])
      (refine wpAnyH_take (i := 5) (v := ?_) (by simp only [List.getElem?_toArray, List.getElem?_cons_succ, List.getElem?_cons_zero]; exact rfl) (by kernel_rfl) (by kernel_rfl) (by kernel_rfl) (by intro _ _ _ h; exact h) (Or.inl ⟨by rfl, ?_⟩) (by assumption) ?_; rotate_left; (focus (intro w' hSw; (try dsimp only at hSw); go_simp; (try with_reducible rfl))); try simp only [Act.put, List.setIfInBounds_toArray, List.set_cons_zero, List.set_cons_succ])
      (refine wpAnyH_take (i := 6) (v := ?_) (by simp only [List.getElem?_toArray, List.getElem?_cons_succ, List.getElem?_cons_zero]; exact rfl) (by kernel_rfl) (by kernel_rfl) (by kernel_rfl) (by intro _ _ _ h; exact h) (Or.inl ⟨by rfl, ?_⟩) (by assumption) ?_; rotate_left; (focus (intro w' hSw; (try dsimp only at hSw); go_simp; (try with_reducible rfl))); try simp only [Act.put, List.setIfInBounds_toArray, List.set_cons_zero, List.set_cons_succ])
      refine wpAnyH_ready (rs := [3, 9]) (by kernel_rfl) (by simp) (AllReadyH.cons (by simp only [List.getElem?_toArray, List.getElem?_cons_succ, List.getElem?_cons_zero]; exact rfl) (fun K' hK => ?_) (AllReadyH.cons (by simp only [List.getElem?_toArray, List.getElem?_cons_succ, List.getElem?_cons_zero]; exact rfl) (fun K' hK => ?_) AllReadyH.nil))
      · go_simp
        (go_at_call_of 43 (Value.string z0); refine (HR0.out _).mono ?_; rintro e x1 ⟨rfl, rfl⟩)
        (refine hK.out _ _ (hHeld) (fun hHeld => ?_); clear hK K'; try simp only [Act.put, List.setIfInBounds_toArray, List.set_cons_zero, List.set_cons_succ])
        refine wpAnyH_ready (rs := [7, 9]) (by kernel_rfl) (by simp) (AllReadyH.cons (by simp only [List.getElem?_toArray, List.getElem?_cons_succ, List.getElem?_cons_zero]; exact rfl) (fun K' hK => ?_) (AllReadyH.cons (by simp only [List.getElem?_toArray, List.getElem?_cons_succ, List.getElem?_cons_zero]; exact rfl) (fun K' hK => ?_) AllReadyH.nil))
        · go_simp
          (go_at_call_of 43 (Value.string z1); refine (HR1.out _).mono ?_; rintro e x2 ⟨rfl, rfl⟩)
          (refine hK.out _ _ (hHeld) (fun hHeld => ?_); clear hK K'; try simp only [Act.put, List.setIfInBounds_toArray, List.set_cons_zero, List.set_cons_succ])
          (refine wpAnyH_take (i := 8) (v := ?_) (by simp only [List.getElem?_toArray, List.getElem?_cons_succ, List.getElem?_cons_zero]; exact rfl) (by kernel_rfl) (by kernel_rfl) (by kernel_rfl) (by intro _ _ _ h; exact h) (Or.inl ⟨by rfl, ?_⟩) (by assumption) ?_; rotate_left; (focus (intro w' hSw; (try dsimp only at hSw); go_simp; (try with_reducible rfl))); try simp only [Act.put, List.setIfInBounds_toArray, List.set_cons_zero, List.set_cons_succ])
          refine wpAnyH_ready (rs := [9]) (by kernel_rfl) (by simp) (AllReadyH.cons (by simp only [List.getElem?_toArray, List.getElem?_cons_succ, List.getElem?_cons_zero]; exact rfl) (fun K' hK => ?_) AllReadyH.nil)
          go_simp
          (refine hK.out _ _ (two_kz VV.out (Gr.alloc (Gr.drew (Gr.refl W2)) _).below) (fun hHeld => ?_); clear hK K'; try simp only [Act.put, List.setIfInBounds_toArray, List.set_cons_zero, List.set_cons_succ])
          refine wpAnyH_ready (rs := [10]) (by kernel_rfl) (by simp) (AllReadyH.cons (by simp only [List.getElem?_toArray, List.getElem?_cons_succ, List.getElem?_cons_zero]; exact rfl) (fun K' hK => ?_) AllReadyH.nil)
          go_simp
          (refine hK.out _ _ (two_kz VV.out (Gr.drew (Gr.alloc (Gr.refl W2) _)).below) (fun hHeld => ?_); clear hK K'; try simp only [Act.put, List.setIfInBounds_toArray, List.set_cons_zero, List.set_cons_succ])
          refine wpAnyH_done (by kernel_rfl) ?_ _
          go_upto_region 8 with fail
          obtain ⟨Z, hZ⟩ : ∃ Z, (W2.alloc (.cells #[.int .i64 RW, .int .i64 RH, .slice none 0 0] 30)).drew = Z := ⟨_, rfl⟩
          rw [hZ]
          have gZ : Gr W2 Z := by rw [← hZ]; exact Gr.drew (Gr.alloc (Gr.refl _) _)
          have C0 : Bz Z W2.heap.size (.int .i64 RW) (.int .i64 RH) (.slice none 0 0) := by rw [← hZ]; exact ⟨by simp [go_sem], by simp [go_sem], by simp [go_sem], fun o => by simp [go_sem]⟩
          have uZ := gZ.keep0 UU.out
          have HV := Lib.hid (And.intro C0 (And.intro (ZZ.out.gr gZ) (BB.out.trans (gZ.below.mono BB.out.size))))
          have hzz : Z.heap.size = W2.heap.size + 1 := by rw [← hZ]; simp
          have HZZ := Lib.hid hzz
          have z7 : (2 : Int) ≤ (c : Int) := z5
          clear hZ gZ C0 hzz HR0 HR1 VV UU ZZ BB
          generalize hNN : W2.heap.size = N at *
          clear hNN
          by_cases hk : 0 < y1.size
          · have d8 : (0 : Int) < (y1.size : Int) := by omega
            have hC := HC3.out
            rw [if_pos hk, if_pos hk] at hC
            have HCQ := Lib.hid hC
            have hp3 := spl_pos 44 y1
            have hl3 := spl_len 44 y1
            generalize spl 44 y1 = xs at *
            clear hC HC3 hk
            go_wp2_with (first | (go_at_call_of 42 (Value.string y1); refine (HS3.out _).mono ?_; rintro e W3 ⟨v3, rfl, ho3, hb3⟩; obtain ⟨g3, c3, rfl, hg3, hc3, hcell3⟩ := ho3.view hp3; have hge := ownS_ge ho3 hp3 rfl; have HC := Lib.hid hcell3; have HV3 := Lib.hid (And.intro (HV.out.1.bel hb3 HV.out.1.lt) (And.intro (HV.out.2.1.bel hb3 HV.out.2.1.lt) (HV.out.2.2.trans (hb3.mono HV.out.2.2.size)))); have z9 := hb3.size; clear ho3 hb3 hcell3))
            have zN : N < g3 := by have := HZZ.out; omega
            have zx : (xs.length : Int) ≤ (c3 : Int) := by omega
            have HLX := Lib.hid (show xs.length ≤ 141 by omega)
            have HX := Lib.hid hc3
            have zM : N < W3.heap.size := by omega
            clear HV hl3 z9 hge
            go_loopw [8, 47] (fun _ i wr => QRel xs w W3 g3 N RW RH i wr) (fun _ i _ => (xs.length - intOf i).toNat)
            case atStart => exact ⟨0, Nat.zero_le _, rfl, fun j hj => absurd hj (Nat.not_lt_zero _), none, 0, OwnE.nil _ _ _ _ _, HV3.out.1, HV3.out.2.1, fun _ => rfl, HV3.out.2.2, Nat.le_refl _⟩
            case round =>
              obtain ⟨k, hk, rfl, hall, A, cq, ho, x1, x2, hcg, hbw, hsz⟩ := hrel
              have z0' : (0 : Int) ≤ (k : Int) := by omega
              have HA := Lib.hid hall
              have HO := Lib.hid ho
              have HX1 := Lib.hid x1
              have HX2 := Lib.hid x2
              have HCG := Lib.hid hcg
              have HBW := Lib.hid hbw
              clear hall ho hcg hbw
              by_cases hlt : k < xs.length
              · obtain ⟨x, hx⟩ : ∃ x, xs[k]? = some x := ⟨xs[k], by simp [hlt]⟩
                have e0 := (HCG.out (0 + k)).trans (HC.out k x hx)
                rw [Nat.zero_add] at e0
                have z1' : (k : Int) < (xs.length : Int) := by omega
                have z2' : (k : Int) < (c3 : Int) := by omega
                have z3' : (xs.length : Int) ≤ 141 := by have := HLX.out; omega
                have HLT := Lib.hid hlt
                by_cases hx3 : x.size = 3
                · have hALL := Lib.hid (show ∀ j, j < k + 1 → ∀ y, xs[j]? = some y → y.size = 3 from fun j hj y hy => by
                      rcases (show j < k ∨ j = k by omega) with q | q
                      · exact HA.out j q y hy
                      · rw [q, hx] at hy; cases hy; exact hx3)
                  have hN := Lib.hid (show (xs.take (k + 1)).map mbk = (xs.take k).map mbk ++ [mbk x] by rw [List.take_add_one, hx]; simp)
                  obtain ⟨a, b, d, rfl⟩ := three_bytes hx3
                  rw [mbk_three] at hN
                  have LK := Lib.hid (show ((xs.take k).map mbk).length ≤ 1000000000 by have := HLX.out; simp; omega)
                  have ua := a.toNat_lt
                  have ud := d.toNat_lt
                  have wa : IntKind.i64.wrap (a.toNat : Int) = (a.toNat : Int) := IntWalk.i64_in _ (by omega)
                  have wd : IntKind.i64.wrap (d.toNat : Int) = (d.toNat : Int) := IntWalk.i64_in _ (by omega)
                  have wa2 : IntKind.i64.wrap ((a.toNat : Int) - 48) = (a.toNat : Int) - 48 := IntWalk.i64_in _ (by omega)
                  have wd2 : IntKind.i64.wrap ((d.toNat : Int) - 48) = (d.toNat : Int) - 48 := IntWalk.i64_in _ (by omega)
                  have wb := u8_eql b
                  clear hx hx3 ua ud
                  obtain ⟨n0, n1, n2, nf⟩ := HX1.out
                  have nz : N < wr.heap.size := World.block_lt_of_cell? _ _ n0
                  go_upto_region 14 with fail
                  refine wp_region_held_drew (S := fun _ => True) (by kernel_rfl) trivial (fun hHeld => ?_)
                  (refine wpAnyH_take (i := 0) (v := ?_) (by simp only [List.getElem?_toArray, List.getElem?_cons_succ, List.getElem?_cons_zero]; exact rfl) (by kernel_rfl) (by kernel_rfl) (by kernel_rfl) (by intro _ _ _ h; exact h) (Or.inl ⟨by rfl, ?_⟩) (by assumption) ?_; rotate_left; (focus (intro w' hSw; (try dsimp only at hSw); go_simp; (try with_reducible rfl))); try simp only [Act.put, List.setIfInBounds_toArray, List.set_cons_zero, List.set_cons_succ])
                  (refine wpAnyH_take (i := 2) (v := ?_) (by simp only [List.getElem?_toArray, List.getElem?_cons_succ, List.getElem?_cons_zero]; exact rfl) (by kernel_rfl) (by kernel_rfl) (by kernel_rfl) (by intro _ _ _ h; exact h) (Or.inl ⟨by rfl, ?_⟩) (by assumption) ?_; rotate_left; (focus (intro w' hSw; (try dsimp only at hSw); go_simp; (try with_reducible rfl))); try simp only [Act.put, List.setIfInBounds_toArray, List.set_cons_zero, List.set_cons_succ])
                  (refine wpAnyH_take (i := 3) (v := ?_) (by simp only [List.getElem?_toArray, List.getElem?_cons_succ, List.getElem?_cons_zero]; exact rfl) (by kernel_rfl) (by kernel_rfl) (by kernel_rfl) (by intro _ _ _ h; exact h) (Or.inl ⟨by rfl, ?_⟩) (by assumption) ?_; rotate_left; (focus (intro w' hSw; (try dsimp only at hSw); go_simp; (try with_reducible rfl))); try simp only [Act.put, List.setIfInBounds_toArray, List.set_cons_zero, List.set_cons_succ])
                  (refine wpAnyH_take (i := 4) (v := ?_) (by simp only [List.getElem?_toArray, List.getElem?_cons_succ, List.getElem?_cons_zero]; exact rfl) (by kernel_rfl) (by kernel_rfl) (by kernel_rfl) (by intro _ _ _ h; exact h) (Or.inl ⟨by rfl, ?_⟩) (by assumption) ?_; rotate_left; (focus (intro w' hSw; (try dsimp only at hSw); go_simp; (try with_reducible rfl))); try simp only [Act.put, List.setIfInBounds_toArray, List.set_cons_zero, List.set_cons_succ])
                  (refine wpAnyH_take (i := 5) (v := ?_) (by simp only [List.getElem?_toArray, List.getElem?_cons_succ, List.getElem?_cons_zero]; exact rfl) (by kernel_rfl) (by kernel_rfl) (by kernel_rfl) (by intro _ _ _ h; exact h) (Or.inl ⟨by rfl, ?_⟩) (by assumption) ?_; rotate_left; (focus (intro w' hSw; (try dsimp only at hSw); go_simp; (try with_reducible rfl))); try simp only [Act.put, List.setIfInBounds_toArray, List.set_cons_zero, List.set_cons_succ])
                  (refine wpAnyH_take (i := 6) (v := ?_) (by simp only [List.getElem?_toArray, List.getElem?_cons_succ, List.getElem?_cons_zero]; exact rfl) (by kernel_rfl) (by kernel_rfl) (by kernel_rfl) (by intro _ _ _ h; exact h) (Or.inl ⟨by rfl, ?_⟩) (by assumption) ?_; rotate_left; (focus (intro w' hSw; (try dsimp only at hSw); go_simp; (try with_reducible rfl))); try simp only [Act.put, List.setIfInBounds_toArray, List.set_cons_zero, List.set_cons_succ])
                  (refine wpAnyH_take (i := 7) (v := ?_) (by simp only [List.getElem?_toArray, List.getElem?_cons_succ, List.getElem?_cons_zero]; exact rfl) (by kernel_rfl) (by kernel_rfl) (by kernel_rfl) (by intro _ _ _ h; exact h) (Or.inl ⟨by rfl, ?_⟩) (by assumption) ?_; rotate_left; (focus (intro w' hSw; (try dsimp only at hSw); go_simp; (try with_reducible rfl))); try simp only [Act.put, List.setIfInBounds_toArray, List.set_cons_zero, List.set_cons_succ])
                  (refine wpAnyH_take (i := 8) (v := ?_) (by simp only [List.getElem?_toArray, List.getElem?_cons_succ, List.getElem?_cons_zero]; exact rfl) (by kernel_rfl) (by kernel_rfl) (by kernel_rfl) (by intro _ _ _ h; exact h) (Or.inl ⟨by rfl, ?_⟩) (by assumption) ?_; rotate_left; (focus (intro w' hSw; (try dsimp only at hSw); go_simp; (try with_reducible rfl))); try simp only [Act.put, List.setIfInBounds_toArray, List.set_cons_zero, List.set_cons_succ])
                  (refine wpAnyH_take (i := 9) (v := ?_) (by simp only [List.getElem?_toArray, List.getElem?_cons_succ, List.getElem?_cons_zero]; exact rfl) (by kernel_rfl) (by kernel_rfl) (by kernel_rfl) (by intro _ _ _ h; exact h) (Or.inl ⟨by rfl, ?_⟩) (by assumption) ?_; rotate_left; (focus (intro w' hSw; (try dsimp only at hSw); go_simp; (try with_reducible rfl))); try simp only [Act.put, List.setIfInBounds_toArray, List.set_cons_zero, List.set_cons_succ])
                  (refine wpAnyH_take (i := 10) (v := ?_) (by simp only [List.getElem?_toArray, List.getElem?_cons_succ, List.getElem?_cons_zero]; exact rfl) (by kernel_rfl) (by kernel_rfl) (by kernel_rfl) (by intro _ _ _ h; exact h) (Or.inl ⟨by rfl, ?_⟩) (by assumption) ?_; rotate_left; (focus (intro w' hSw; (try dsimp only at hSw); go_simp; (try with_reducible rfl))); try simp only [Act.put, List.setIfInBounds_toArray, List.set_cons_zero, List.set_cons_succ])
                  (refine wpAnyH_take (i := 11) (v := ?_) (by simp only [List.getElem?_toArray, List.getElem?_cons_succ, List.getElem?_cons_zero]; exact rfl) (by kernel_rfl) (by kernel_rfl) (by kernel_rfl) (by intro _ _ _ h; exact h) (Or.inl ⟨by rfl, ?_⟩) (by assumption) ?_; rotate_left; (focus (intro w' hSw; (try dsimp only at hSw); go_simp; (try with_reducible rfl))); try simp only [Act.put, List.setIfInBounds_toArray, List.set_cons_zero, List.set_cons_succ])
                  (refine wpAnyH_take (i := 12) (v := ?_) (by simp only [List.getElem?_toArray, List.getElem?_cons_succ, List.getElem?_cons_zero]; exact rfl) (by kernel_rfl) (by kernel_rfl) (by kernel_rfl) (by intro _ _ _ h; exact h) (Or.inl ⟨by rfl, ?_⟩) (by assumption) ?_; rotate_left; (focus (intro w' hSw; (try dsimp only at hSw); go_simp; (try with_reducible rfl))); try simp only [Act.put, List.setIfInBounds_toArray, List.set_cons_zero, List.set_cons_succ])
                  (refine wpAnyH_take (i := 13) (v := ?_) (by simp only [List.getElem?_toArray, List.getElem?_cons_succ, List.getElem?_cons_zero]; exact rfl) (by kernel_rfl) (by kernel_rfl) (by kernel_rfl) (by intro _ _ _ h; exact h) (Or.inl ⟨by rfl, ?_⟩) (by assumption) ?_; rotate_left; (focus (intro w' hSw; (try dsimp only at hSw); go_simp; (try with_reducible rfl))); try simp only [Act.put, List.setIfInBounds_toArray, List.set_cons_zero, List.set_cons_succ])
                  refine wpAnyH_ready (rs := [1, 14]) (by kernel_rfl) (by simp) (AllReadyH.cons (by simp only [List.getElem?_toArray, List.getElem?_cons_succ, List.getElem?_cons_zero]; exact rfl) (fun K' hK => ?_) (AllReadyH.cons (by simp only [List.getElem?_toArray, List.getElem?_cons_succ, List.getElem?_cons_zero]; exact rfl) (fun K' hK => ?_) AllReadyH.nil))
                  · go_simp
                    (refine hK.out _ _ (trivial) (fun hHeld => ?_); clear hK K'; try simp only [Act.put, List.setIfInBounds_toArray, List.set_cons_zero, List.set_cons_succ])
                    refine wpAnyH_ready (rs := [14]) (by kernel_rfl) (by simp) (AllReadyH.cons (by simp only [List.getElem?_toArray, List.getElem?_cons_succ, List.getElem?_cons_zero]; exact rfl) (fun K' hK => ?_) AllReadyH.nil)
                    go_simp
                    (refine hK.out _ _ (trivial) (fun hHeld => ?_); clear hK K'; try simp only [Act.put, List.setIfInBounds_toArray, List.set_cons_zero, List.set_cons_succ])
                    refine wpAnyH_ready (rs := [15]) (by kernel_rfl) (by simp) (AllReadyH.cons (by simp only [List.getElem?_toArray, List.getElem?_cons_succ, List.getElem?_cons_zero]; exact rfl) (fun K' hK => ?_) AllReadyH.nil)
                    refine step_appE bcs_len bcs_one rfl (.tmp 56) (.tmp 69) 28 rfl 44 Tryd.underlying28 Tryd.infoB rfl (by decide) (by decide) W3.heap.size _ _ rfl (OwnE.gr HO.out (Gr.alloc (Gr.drew (Gr.refl wr)) _)) ⟨wr.heap.size, 0, none⟩ 1 1 [((a.toNat : Int) - 48, (d.toNat : Int) - 48, b == 124)] rfl rfl (fun j u hu => alloc_cells (by show ([Value.int .i64 (IntKind.i64.wrap (IntKind.i64.wrap (a.toNat : Int) - 48)), Value.int .i64 (IntKind.i64.wrap (IntKind.i64.wrap (d.toNat : Int) - 48)), Value.bool ((b.toNat : Int) == 124)] : List Value)[j]? = some u; rw [wa, wa2, wd, wd2, wb]; simpa [ecs, bcs] using hu)) LK.out (by simp) (by simp; omega) ?_; intro v4 w4 ho4 hb4 gb4 _; rw [← hN.out] at ho4; obtain ⟨A5, c5, rfl, ho4⟩ := OwnE.eta ho4; rw [List.length_map, List.length_take, Nat.min_eq_left (show k + 1 ≤ xs.length by omega)] at ho4 ⊢
                    have bz : Below W3.heap.size wr w4 := ((Gr.alloc (Gr.drew (Gr.refl wr)) _).below.mono hsz).trans hb4
                    have X4 := Lib.hid (And.intro (HX1.out.bel bz zM) (HX2.out.bel bz (Nat.lt_trans s2 zM)))
                    obtain ⟨m0, m1, p4, f4⟩ := X4.out.1
                    have O4 := Lib.hid ho4
                    have BZ := Lib.hid bz
                    clear ho4 hb4 gb4 bz
                    (refine hK.out _ _ (trivial) (fun hHeld => ?_); clear hK K'; try simp only [Act.put, List.setIfInBounds_toArray, List.set_cons_zero, List.set_cons_succ])
                    refine wpAnyH_ready (rs := [16]) (by kernel_rfl) (by simp) (AllReadyH.cons (by simp only [List.getElem?_toArray, List.getElem?_cons_succ, List.getElem?_cons_zero]; exact rfl) (fun K' hK => ?_) AllReadyH.nil)
                    go_simp
                    (refine hK.out _ _ (trivial) (fun hHeld => ?_); clear hK K'; try simp only [Act.put, List.setIfInBounds_toArray, List.set_cons_zero, List.set_cons_succ])
                    refine wpAnyH_ready (rs := [17]) (by kernel_rfl) (by simp) (AllReadyH.cons (by simp only [List.getElem?_toArray, List.getElem?_cons_succ, List.getElem?_cons_zero]; exact rfl) (fun K' hK => ?_) AllReadyH.nil)
                    go_simp
                    (refine hK.out _ _ (trivial) (fun hHeld => ?_); clear hK K'; try simp only [Act.put, List.setIfInBounds_toArray, List.set_cons_zero, List.set_cons_succ])
                    refine wpAnyH_done (by kernel_rfl) ?_ _
                    go_wp2
                    go_roundw
                    case rel => exact ⟨k + 1, HLT.out, by go_num, hALL.out, A5, c5, OwnE.setOther (a := ⟨N, 2, none⟩) O4.out zM _, Bz.own2 X4.out.1, Bz.set1 X4.out.2 (by omega) _, fun o => (World.cell?_setCell_other _ _ _ _ (by intro e; cases e; omega)).trans ((BZ.out.cell (p := ⟨g3, o, none⟩) hg3).trans (HCG.out o)), (HBW.out.trans (BZ.out.mono (by omega))).setCell (by simp; omega) _, by have := BZ.out.size; simp; omega⟩
                    case measure => have := HLT.out; have := HLX.out; simp [intOf]; omega
                  · go_simp
                    (refine hK.out _ _ (trivial) (fun hHeld => ?_); clear hK K'; try simp only [Act.put, List.setIfInBounds_toArray, List.set_cons_zero, List.set_cons_succ])
                    refine wpAnyH_ready (rs := [1]) (by kernel_rfl) (by simp) (AllReadyH.cons (by simp only [List.getElem?_toArray, List.getElem?_cons_succ, List.getElem?_cons_zero]; exact rfl) (fun K' hK => ?_) AllReadyH.nil)
                    go_simp
                    (refine hK.out _ _ (trivial) (fun hHeld => ?_); clear hK K'; try simp only [Act.put, List.setIfInBounds_toArray, List.set_cons_zero, List.set_cons_succ])
                    refine wpAnyH_ready (rs := [15]) (by kernel_rfl) (by simp) (AllReadyH.cons (by simp only [List.getElem?_toArray, List.getElem?_cons_succ, List.getElem?_cons_zero]; exact rfl) (fun K' hK => ?_) AllReadyH.nil)
                    refine step_appE bcs_len bcs_one rfl (.tmp 56) (.tmp 69) 28 rfl 44 Tryd.underlying28 Tryd.infoB rfl (by decide) (by decide) W3.heap.size _ _ rfl (OwnE.gr HO.out (Gr.alloc (Gr.drew (Gr.refl wr)) _)) ⟨wr.heap.size, 0, none⟩ 1 1 [((a.toNat : Int) - 48, (d.toNat : Int) - 48, b == 124)] rfl rfl (fun j u hu => alloc_cells (by show ([Value.int .i64 (IntKind.i64.wrap (IntKind.i64.wrap (a.toNat : Int) - 48)), Value.int .i64 (IntKind.i64.wrap (IntKind.i64.wrap (d.toNat : Int) - 48)), Value.bool ((b.toNat : Int) == 124)] : List Value)[j]? = some u; rw [wa, wa2, wd, wd2, wb]; simpa [ecs, bcs] using hu)) LK.out (by simp) (by simp; omega) ?_; intro v4 w4 ho4 hb4 gb4 _; rw [← hN.out] at ho4; obtain ⟨A5, c5, rfl, ho4⟩ := OwnE.eta ho4; rw [List.length_map, List.length_take, Nat.min_eq_left (show k + 1 ≤ xs.length by omega)] at ho4 ⊢
                    have bz : Below W3.heap.size wr w4 := ((Gr.alloc (Gr.drew (Gr.refl wr)) _).below.mono hsz).trans hb4
                    have X4 := Lib.hid (And.intro (HX1.out.bel bz zM) (HX2.out.bel bz (Nat.lt_trans s2 zM)))
                    obtain ⟨m0, m1, p4, f4⟩ := X4.out.1
                    have O4 := Lib.hid ho4
                    have BZ := Lib.hid bz
                    clear ho4 hb4 gb4 bz
                    (refine hK.out _ _ (trivial) (fun hHeld => ?_); clear hK K'; try simp only [Act.put, List.setIfInBounds_toArray, List.set_cons_zero, List.set_cons_succ])
                    refine wpAnyH_ready (rs := [16]) (by kernel_rfl) (by simp) (AllReadyH.cons (by simp only [List.getElem?_toArray, List.getElem?_cons_succ, List.getElem?_cons_zero]; exact rfl) (fun K' hK => ?_) AllReadyH.nil)
                    go_simp
                    (refine hK.out _ _ (trivial) (fun hHeld => ?_); clear hK K'; try simp only [Act.put, List.setIfInBounds_toArray, List.set_cons_zero, List.set_cons_succ])
                    refine wpAnyH_ready (rs := [17]) (by kernel_rfl) (by simp) (AllReadyH.cons (by simp only [List.getElem?_toArray, List.getElem?_cons_succ, List.getElem?_cons_zero]; exact rfl) (fun K' hK => ?_) AllReadyH.nil)
                    go_simp
                    (refine hK.out _ _ (trivial) (fun hHeld => ?_); clear hK K'; try simp only [Act.put, List.setIfInBounds_toArray, List.set_cons_zero, List.set_cons_succ])
                    refine wpAnyH_done (by kernel_rfl) ?_ _
                    go_wp2
                    go_roundw
                    case rel => exact ⟨k + 1, HLT.out, by go_num, hALL.out, A5, c5, OwnE.setOther (a := ⟨N, 2, none⟩) O4.out zM _, Bz.own2 X4.out.1, Bz.set1 X4.out.2 (by omega) _, fun o => (World.cell?_setCell_other _ _ _ _ (by intro e; cases e; omega)).trans ((BZ.out.cell (p := ⟨g3, o, none⟩) hg3).trans (HCG.out o)), (HBW.out.trans (BZ.out.mono (by omega))).setCell (by simp; omega) _, by have := BZ.out.size; simp; omega⟩
                    case measure => have := HLT.out; have := HLX.out; simp [intOf]; omega
                · have HBF := Lib.hid (show pcB t = false by
                      rw [HB.out, HCQ.out.2, show xs.all (fun x => x.size == 3) = false from List.all_eq_false.2 ⟨x, List.mem_of_getElem? hx, by simpa using hx3⟩]; rfl)
                  have d2 : ¬ (x.size : Int) = 3 := by omega
                  have d3 : ((x.size : Int) == 3) = false := by simpa using d2
                  have d4 : ((x.size : Int) != 3) = true := by simpa using d2
                  obtain ⟨r0, r1, r2, rf⟩ := HX2.out
                  go_wp2
                  refine bodyPost_ret (v := .tuple #[.agg #[.int .i64 0, .int .i64 0, .slice none 0 0], .bool false]) (by simp [results, Tryd.results22, go_sem, r0, r1, r2]) rfl ⟨0, 0, none, 0, 0, by rw [HBF.out], fun q => absurd (HBF.out.symm.trans q) (by decide), ?_⟩
                  exact Below.set3s HBW.out (Nat.le_refl _)
              · obtain rfl : k = xs.length := by omega
                have z1' : ¬ ((xs.length : Int) < (xs.length : Int)) := by omega
                have ho := HO.out
                rw [List.take_length] at ho
                have hall : xs.all (fun x => x.size == 3) = true := by
                  rw [List.all_eq_true]
                  intro x hx
                  obtain ⟨j, hj, rfl⟩ := List.getElem_of_mem hx
                  have := HA.out j hj xs[j] (by simp [hj])
                  simp [this]
                have HCC := Lib.hid HCQ.out.1
                have HQ := Lib.hid (show pcB t = (okB RW RH (xs.map mbk) && decide (CtT RW RH (xs.map mbk) = t)) by rw [HB.out, HCQ.out.2, hall, HCQ.out.1]; rfl)
                have HL := Lib.hid (show (xs.map mbk).length ≤ 1048576 by have := HLX.out; simp; omega)
                have HV := Lib.hid (And.intro HX1.out (And.intro (OwnE.mono ho (show N + 1 ≤ W3.heap.size from zM)) (And.intro HX2.out HBW.out)))
                clear ho hall HB HO HCQ x1 x2
                generalize xs.map mbk = cs at *
                go_upto_region 16 with fail
                cases hok : okB RW RH cs
                · have HGD := Lib.hid (fun (X : World) (g : Gr wr X) => Tryd.avGood X RW RH (N + 1) _ cs _ hok HL.out (OwnE.gr HV.out.2.1 g))
                  have HBF := Lib.hid (show pcB t = false by rw [HQ.out, hok]; rfl)
                  clear hok
                  refine wp_region_held_drew (S := fun W' => W'.cell? ⟨N, 0, none⟩ = some (.int .i64 RW) ∧ W'.cell? ⟨N, 1, none⟩ = some (.int .i64 RH) ∧ W'.cell? ⟨N, 2, none⟩ = some (.slice A xs.length cq)) (by kernel_rfl) (three_kz ⟨HV.out.1.1, HV.out.1.2.1, HV.out.1.2.2.1⟩ (Below.drew (Below.refl _ _))) (fun hHeld => ?_)
                  (refine wpAnyH_take (i := 0) (v := ?_) (by simp only [List.getElem?_toArray, List.getElem?_cons_succ, List.getElem?_cons_zero]; exact rfl) (by kernel_rfl) (by kernel_rfl) (by kernel_rfl) (by intro _ _ _ h; exact h) (Or.inl ⟨by rfl, ?_⟩) (by assumption) ?_; rotate_left; (focus (intro w' hSw; (try dsimp only at hSw); go_simp; (try with_reducible rfl))); try simp only [Act.put, List.setIfInBounds_toArray, List.set_cons_zero, List.set_cons_succ])
                  (refine wpAnyH_take (i := 1) (v := ?_) (by simp only [List.getElem?_toArray, List.getElem?_cons_succ, List.getElem?_cons_zero]; exact rfl) (by kernel_rfl) (by kernel_rfl) (by kernel_rfl) (by intro _ _ _ h; exact h) (Or.inl ⟨by rfl, ?_⟩) (by assumption) ?_; rotate_left; (focus (intro w' hSw; (try dsimp only at hSw); go_simp; (try with_reducible rfl))); try simp only [Act.put, List.setIfInBounds_toArray, List.set_cons_zero, List.set_cons_succ])
                  refine wpAnyH_ready (rs := [2]) (by kernel_rfl) (by simp) (AllReadyH.cons (by simp only [List.getElem?_toArray, List.getElem?_cons_succ, List.getElem?_cons_zero]; exact rfl) (fun K' hK => ?_) AllReadyH.nil)
                  go_simp
                  (go_at_call 15; refine (HGD.out _ (Gr.drew (Gr.refl wr))).mono ?_; rintro e q1 ⟨rfl, g1⟩)
                  have G1 : Gr wr q1 := (Gr.drew (Gr.refl _)).trans g1
                  (refine hK.out _ _ (three_kz ⟨HV.out.1.1, HV.out.1.2.1, HV.out.1.2.2.1⟩ G1.below) (fun hHeld => ?_); clear hK K'; try simp only [Act.put, List.setIfInBounds_toArray, List.set_cons_zero, List.set_cons_succ])
                  (refine wpAnyH_take (i := 3) (v := ?_) (by simp only [List.getElem?_toArray, List.getElem?_cons_succ, List.getElem?_cons_zero]; exact rfl) (by kernel_rfl) (by kernel_rfl) (by kernel_rfl) (by intro _ _ _ h; exact h) (Or.inl ⟨by rfl, ?_⟩) (by assumption) ?_; rotate_left; (focus (intro w' hSw; (try dsimp only at hSw); go_simp; (try with_reducible rfl))); try simp only [Act.put, List.setIfInBounds_toArray, List.set_cons_zero, List.set_cons_succ])
                  (refine wpAnyH_take (i := 4) (v := undef) (by simp only [List.getElem?_toArray, List.getElem?_cons_succ, List.getElem?_cons_zero]; exact rfl) (by kernel_rfl) (by kernel_rfl) (by kernel_rfl) (by intro _ _ _ h; exact h) (Or.inr ⟨by rfl, rfl⟩) (by assumption) ?_; try simp only [Act.put, List.setIfInBounds_toArray, List.set_cons_zero, List.set_cons_succ])
                  (refine wpAnyH_take (i := 5) (v := undef) (by simp only [List.getElem?_toArray, List.getElem?_cons_succ, List.getElem?_cons_zero]; exact rfl) (by kernel_rfl) (by kernel_rfl) (by kernel_rfl) (by intro _ _ _ h; exact h) (Or.inr ⟨by rfl, rfl⟩) (by assumption) ?_; try simp only [Act.put, List.setIfInBounds_toArray, List.set_cons_zero, List.set_cons_succ])
                  (refine wpAnyH_take (i := 6) (v := undef) (by simp only [List.getElem?_toArray, List.getElem?_cons_succ, List.getElem?_cons_zero]; exact rfl) (by kernel_rfl) (by kernel_rfl) (by kernel_rfl) (by intro _ _ _ h; exact h) (Or.inr ⟨by rfl, rfl⟩) (by assumption) ?_; try simp only [Act.put, List.setIfInBounds_toArray, List.set_cons_zero, List.set_cons_succ])
                  (refine wpAnyH_take (i := 7) (v := undef) (by simp only [List.getElem?_toArray, List.getElem?_cons_succ, List.getElem?_cons_zero]; exact rfl) (by kernel_rfl) (by kernel_rfl) (by kernel_rfl) (by intro _ _ _ h; exact h) (Or.inr ⟨by rfl, rfl⟩) (by assumption) ?_; try simp only [Act.put, List.setIfInBounds_toArray, List.set_cons_zero, List.set_cons_succ])
                  (refine wpAnyH_take (i := 8) (v := ?_) (by simp only [List.getElem?_toArray, List.getElem?_cons_succ, List.getElem?_cons_zero]; exact rfl) (by kernel_rfl) (by kernel_rfl) (by kernel_rfl) (by intro _ _ _ h; exact h) (Or.inl ⟨by rfl, ?_⟩) (by assumption) ?_; rotate_left; (focus (intro w' hSw; (try dsimp only at hSw); go_simp; (try with_reducible rfl))); try simp only [Act.put, List.setIfInBounds_toArray, List.set_cons_zero, List.set_cons_succ])
                  refine wpAnyH_ready (rs := [9]) (by kernel_rfl) (by simp) (AllReadyH.cons (by simp only [List.getElem?_toArray, List.getElem?_cons_succ, List.getElem?_cons_zero]; exact rfl) (fun K' hK => ?_) AllReadyH.nil)
                  have Sx := HV.out.2.2.1.gr G1
                  obtain ⟨r0, r1, r2, rf⟩ := Sx
                  have zs : w.heap.size < q1.heap.size := World.block_lt_of_cell? _ _ r0
                  go_simp
                  (refine hK.out _ _ (three_sz ⟨(G1).keep0 HV.out.1.1, (G1).keep0 HV.out.1.2.1, (G1).keep0 HV.out.1.2.2.1⟩ (by omega)) (fun hHeld => ?_); clear hK K'; try simp only [Act.put, List.setIfInBounds_toArray, List.set_cons_zero, List.set_cons_succ])
                  refine wpAnyH_ready (rs := [10]) (by kernel_rfl) (by simp) (AllReadyH.cons (by simp only [List.getElem?_toArray, List.getElem?_cons_succ, List.getElem?_cons_zero]; exact rfl) (fun K' hK => ?_) AllReadyH.nil)
                  go_simp
                  (refine hK.out _ _ (three_sz ⟨(G1).keep0 HV.out.1.1, (G1).keep0 HV.out.1.2.1, (G1).keep0 HV.out.1.2.2.1⟩ (by omega)) (fun hHeld => ?_); clear hK K'; try simp only [Act.put, List.setIfInBounds_toArray, List.set_cons_zero, List.set_cons_succ])
                  refine wpAnyH_done (by kernel_rfl) ?_ _
                  go_wp2
                  refine bodyPost_ret (v := .tuple #[.agg #[.int .i64 RW, .int .i64 RH, .slice A xs.length cq], .bool false]) (by simp [results, Tryd.results22, go_sem, r0, r1, r2]) rfl ⟨RW, RH, A, xs.length, cq, by rw [HBF.out], fun _ => ⟨HWW.out.1.symm, HWW.out.2.symm, ?_⟩, ?_⟩
                  · rw [HCC.out]; exact OwnE.mono (OwnB.set3s (OwnE.gr HV.out.2.1 G1) (by omega)) (by omega)
                  · exact Below.set3s (HV.out.2.2.2.trans (G1.below.mono HV.out.2.2.2.size)) (Nat.le_refl _)
                · have HGD := Lib.hid (fun (X : World) (g : Gr wr X) => Tryd.avGood X RW RH (N + 1) _ cs _ hok HL.out (OwnE.gr HV.out.2.1 g))
                  have HTX := Lib.hid (fun (X : World) (g : Gr wr X) => Tryd.avText X RW RH (N + 1) _ cs hok (OwnE.gr HV.out.2.1 g))
                  rw [show (hdC RW RH ++ ⟨(jtK cs).toArray⟩ : ByteArray) = CtT RW RH cs from rfl] at HTX
                  by_cases hT : CtT RW RH cs = t
                  · have HBF := Lib.hid (show pcB t = true by rw [HQ.out, hok, decide_eq_true hT]; rfl)
                    rw [hT] at HTX
                    clear hok hT
                    refine wp_region_held_drew (S := fun W' => W'.cell? ⟨N, 0, none⟩ = some (.int .i64 RW) ∧ W'.cell? ⟨N, 1, none⟩ = some (.int .i64 RH) ∧ W'.cell? ⟨N, 2, none⟩ = some (.slice A xs.length cq)) (by kernel_rfl) (three_kz ⟨HV.out.1.1, HV.out.1.2.1, HV.out.1.2.2.1⟩ (Below.drew (Below.refl _ _))) (fun hHeld => ?_)
                    (refine wpAnyH_take (i := 0) (v := ?_) (by simp only [List.getElem?_toArray, List.getElem?_cons_succ, List.getElem?_cons_zero]; exact rfl) (by kernel_rfl) (by kernel_rfl) (by kernel_rfl) (by intro _ _ _ h; exact h) (Or.inl ⟨by rfl, ?_⟩) (by assumption) ?_; rotate_left; (focus (intro w' hSw; (try dsimp only at hSw); go_simp; (try with_reducible rfl))); try simp only [Act.put, List.setIfInBounds_toArray, List.set_cons_zero, List.set_cons_succ])
                    (refine wpAnyH_take (i := 1) (v := ?_) (by simp only [List.getElem?_toArray, List.getElem?_cons_succ, List.getElem?_cons_zero]; exact rfl) (by kernel_rfl) (by kernel_rfl) (by kernel_rfl) (by intro _ _ _ h; exact h) (Or.inl ⟨by rfl, ?_⟩) (by assumption) ?_; rotate_left; (focus (intro w' hSw; (try dsimp only at hSw); go_simp; (try with_reducible rfl))); try simp only [Act.put, List.setIfInBounds_toArray, List.set_cons_zero, List.set_cons_succ])
                    refine wpAnyH_ready (rs := [2]) (by kernel_rfl) (by simp) (AllReadyH.cons (by simp only [List.getElem?_toArray, List.getElem?_cons_succ, List.getElem?_cons_zero]; exact rfl) (fun K' hK => ?_) AllReadyH.nil)
                    go_simp
                    (go_at_call 15; refine (HGD.out _ (Gr.drew (Gr.refl wr))).mono ?_; rintro e q1 ⟨rfl, g1⟩)
                    have G1 : Gr wr q1 := (Gr.drew (Gr.refl _)).trans g1
                    (refine hK.out _ _ (three_kz ⟨HV.out.1.1, HV.out.1.2.1, HV.out.1.2.2.1⟩ G1.below) (fun hHeld => ?_); clear hK K'; try simp only [Act.put, List.setIfInBounds_toArray, List.set_cons_zero, List.set_cons_succ])
                    (refine wpAnyH_take (i := 3) (v := ?_) (by simp only [List.getElem?_toArray, List.getElem?_cons_succ, List.getElem?_cons_zero]; exact rfl) (by kernel_rfl) (by kernel_rfl) (by kernel_rfl) (by intro _ _ _ h; exact h) (Or.inl ⟨by rfl, ?_⟩) (by assumption) ?_; rotate_left; (focus (intro w' hSw; (try dsimp only at hSw); go_simp; (try with_reducible rfl))); try simp only [Act.put, List.setIfInBounds_toArray, List.set_cons_zero, List.set_cons_succ])
                    (refine wpAnyH_take (i := 4) (v := ?_) (by simp only [List.getElem?_toArray, List.getElem?_cons_succ, List.getElem?_cons_zero]; exact rfl) (by kernel_rfl) (by kernel_rfl) (by kernel_rfl) (by intro _ _ _ h; exact h) (Or.inl ⟨by rfl, ?_⟩) (by assumption) ?_; rotate_left; (focus (intro w' hSw; (try dsimp only at hSw); go_simp; (try with_reducible rfl))); try simp only [Act.put, List.setIfInBounds_toArray, List.set_cons_zero, List.set_cons_succ])
                    (refine wpAnyH_take (i := 6) (v := ?_) (by simp only [List.getElem?_toArray, List.getElem?_cons_succ, List.getElem?_cons_zero]; exact rfl) (by kernel_rfl) (by kernel_rfl) (by kernel_rfl) (by intro _ _ _ h; exact h) (Or.inl ⟨by rfl, ?_⟩) (by assumption) ?_; rotate_left; (focus (intro w' hSw; (try dsimp only at hSw); go_simp; (try with_reducible rfl))); try simp only [Act.put, List.setIfInBounds_toArray, List.set_cons_zero, List.set_cons_succ])
                    refine wpAnyH_ready (rs := [5]) (by kernel_rfl) (by simp) (AllReadyH.cons (by simp only [List.getElem?_toArray, List.getElem?_cons_succ, List.getElem?_cons_zero]; exact rfl) (fun K' hK => ?_) AllReadyH.nil)
                    go_simp
                    (go_at_call 16; refine (HTX.out _ G1).mono ?_; rintro e q2 ⟨rfl, g2⟩)
                    have G2 : Gr wr q2 := G1.trans g2
                    (refine hK.out _ _ (three_kz ⟨HV.out.1.1, HV.out.1.2.1, HV.out.1.2.2.1⟩ G2.below) (fun hHeld => ?_); clear hK K'; try simp only [Act.put, List.setIfInBounds_toArray, List.set_cons_zero, List.set_cons_succ])
                    (refine wpAnyH_take (i := 7) (v := ?_) (by simp only [List.getElem?_toArray, List.getElem?_cons_succ, List.getElem?_cons_zero]; exact rfl) (by kernel_rfl) (by kernel_rfl) (by kernel_rfl) (by intro _ _ _ h; exact h) (Or.inl ⟨by rfl, ?_⟩) (by assumption) ?_; rotate_left; (focus (intro w' hSw; (try dsimp only at hSw); go_simp; (try with_reducible rfl))); try simp only [Act.put, List.setIfInBounds_toArray, List.set_cons_zero, List.set_cons_succ])
                    (refine wpAnyH_take (i := 8) (v := ?_) (by simp only [List.getElem?_toArray, List.getElem?_cons_succ, List.getElem?_cons_zero]; exact rfl) (by kernel_rfl) (by kernel_rfl) (by kernel_rfl) (by intro _ _ _ h; exact h) (Or.inl ⟨by rfl, ?_⟩) (by assumption) ?_; rotate_left; (focus (intro w' hSw; (try dsimp only at hSw); go_simp; (try with_reducible rfl))); try simp only [Act.put, List.setIfInBounds_toArray, List.set_cons_zero, List.set_cons_succ])
                    refine wpAnyH_ready (rs := [9]) (by kernel_rfl) (by simp) (AllReadyH.cons (by simp only [List.getElem?_toArray, List.getElem?_cons_succ, List.getElem?_cons_zero]; exact rfl) (fun K' hK => ?_) AllReadyH.nil)
                    have Sx := HV.out.2.2.1.gr G2
                    obtain ⟨r0, r1, r2, rf⟩ := Sx
                    have zs : w.heap.size < q2.heap.size := World.block_lt_of_cell? _ _ r0
                    go_simp
                    (refine hK.out _ _ (three_sz ⟨(G2).keep0 HV.out.1.1, (G2).keep0 HV.out.1.2.1, (G2).keep0 HV.out.1.2.2.1⟩ (by omega)) (fun hHeld => ?_); clear hK K'; try simp only [Act.put, List.setIfInBounds_toArray, List.set_cons_zero, List.set_cons_succ])
                    refine wpAnyH_ready (rs := [10]) (by kernel_rfl) (by simp) (AllReadyH.cons (by simp only [List.getElem?_toArray, List.getElem?_cons_succ, List.getElem?_cons_zero]; exact rfl) (fun K' hK => ?_) AllReadyH.nil)
                    go_simp
                    (refine hK.out _ _ (three_sz ⟨(G2).keep0 HV.out.1.1, (G2).keep0 HV.out.1.2.1, (G2).keep0 HV.out.1.2.2.1⟩ (by omega)) (fun hHeld => ?_); clear hK K'; try simp only [Act.put, List.setIfInBounds_toArray, List.set_cons_zero, List.set_cons_succ])
                    refine wpAnyH_done (by kernel_rfl) ?_ _
                    go_wp2
                    refine bodyPost_ret (v := .tuple #[.agg #[.int .i64 RW, .int .i64 RH, .slice A xs.length cq], .bool true]) (by simp [results, Tryd.results22, go_sem, r0, r1, r2]) rfl ⟨RW, RH, A, xs.length, cq, by rw [HBF.out], fun _ => ⟨HWW.out.1.symm, HWW.out.2.symm, ?_⟩, ?_⟩
                    · rw [HCC.out]; exact OwnE.mono (OwnB.set3s (OwnE.gr HV.out.2.1 G2) (by omega)) (by omega)
                    · exact Below.set3s (HV.out.2.2.2.trans (G2.below.mono HV.out.2.2.2.size)) (Nat.le_refl _)
                  · have HBF := Lib.hid (show pcB t = false by rw [HQ.out, hok, decide_eq_false hT]; rfl)
                    have d9 : ((CtT RW RH cs).toList == t.toList) = false := ne_txt hT
                    generalize CtT RW RH cs = TT at *
                    clear hok hT
                    refine wp_region_held_drew (S := fun W' => W'.cell? ⟨N, 0, none⟩ = some (.int .i64 RW) ∧ W'.cell? ⟨N, 1, none⟩ = some (.int .i64 RH) ∧ W'.cell? ⟨N, 2, none⟩ = some (.slice A xs.length cq)) (by kernel_rfl) (three_kz ⟨HV.out.1.1, HV.out.1.2.1, HV.out.1.2.2.1⟩ (Below.drew (Below.refl _ _))) (fun hHeld => ?_)
                    (refine wpAnyH_take (i := 0) (v := ?_) (by simp only [List.getElem?_toArray, List.getElem?_cons_succ, List.getElem?_cons_zero]; exact rfl) (by kernel_rfl) (by kernel_rfl) (by kernel_rfl) (by intro _ _ _ h; exact h) (Or.inl ⟨by rfl, ?_⟩) (by assumption) ?_; rotate_left; (focus (intro w' hSw; (try dsimp only at hSw); go_simp; (try with_reducible rfl))); try simp only [Act.put, List.setIfInBounds_toArray, List.set_cons_zero, List.set_cons_succ])
                    (refine wpAnyH_take (i := 1) (v := ?_) (by simp only [List.getElem?_toArray, List.getElem?_cons_succ, List.getElem?_cons_zero]; exact rfl) (by kernel_rfl) (by kernel_rfl) (by kernel_rfl) (by intro _ _ _ h; exact h) (Or.inl ⟨by rfl, ?_⟩) (by assumption) ?_; rotate_left; (focus (intro w' hSw; (try dsimp only at hSw); go_simp; (try with_reducible rfl))); try simp only [Act.put, List.setIfInBounds_toArray, List.set_cons_zero, List.set_cons_succ])
                    refine wpAnyH_ready (rs := [2]) (by kernel_rfl) (by simp) (AllReadyH.cons (by simp only [List.getElem?_toArray, List.getElem?_cons_succ, List.getElem?_cons_zero]; exact rfl) (fun K' hK => ?_) AllReadyH.nil)
                    go_simp
                    (go_at_call 15; refine (HGD.out _ (Gr.drew (Gr.refl wr))).mono ?_; rintro e q1 ⟨rfl, g1⟩)
                    have G1 : Gr wr q1 := (Gr.drew (Gr.refl _)).trans g1
                    (refine hK.out _ _ (three_kz ⟨HV.out.1.1, HV.out.1.2.1, HV.out.1.2.2.1⟩ G1.below) (fun hHeld => ?_); clear hK K'; try simp only [Act.put, List.setIfInBounds_toArray, List.set_cons_zero, List.set_cons_succ])
                    (refine wpAnyH_take (i := 3) (v := ?_) (by simp only [List.getElem?_toArray, List.getElem?_cons_succ, List.getElem?_cons_zero]; exact rfl) (by kernel_rfl) (by kernel_rfl) (by kernel_rfl) (by intro _ _ _ h; exact h) (Or.inl ⟨by rfl, ?_⟩) (by assumption) ?_; rotate_left; (focus (intro w' hSw; (try dsimp only at hSw); go_simp; (try with_reducible rfl))); try simp only [Act.put, List.setIfInBounds_toArray, List.set_cons_zero, List.set_cons_succ])
                    (refine wpAnyH_take (i := 4) (v := ?_) (by simp only [List.getElem?_toArray, List.getElem?_cons_succ, List.getElem?_cons_zero]; exact rfl) (by kernel_rfl) (by kernel_rfl) (by kernel_rfl) (by intro _ _ _ h; exact h) (Or.inl ⟨by rfl, ?_⟩) (by assumption) ?_; rotate_left; (focus (intro w' hSw; (try dsimp only at hSw); go_simp; (try with_reducible rfl))); try simp only [Act.put, List.setIfInBounds_toArray, List.set_cons_zero, List.set_cons_succ])
                    (refine wpAnyH_take (i := 6) (v := ?_) (by simp only [List.getElem?_toArray, List.getElem?_cons_succ, List.getElem?_cons_zero]; exact rfl) (by kernel_rfl) (by kernel_rfl) (by kernel_rfl) (by intro _ _ _ h; exact h) (Or.inl ⟨by rfl, ?_⟩) (by assumption) ?_; rotate_left; (focus (intro w' hSw; (try dsimp only at hSw); go_simp; (try with_reducible rfl))); try simp only [Act.put, List.setIfInBounds_toArray, List.set_cons_zero, List.set_cons_succ])
                    refine wpAnyH_ready (rs := [5]) (by kernel_rfl) (by simp) (AllReadyH.cons (by simp only [List.getElem?_toArray, List.getElem?_cons_succ, List.getElem?_cons_zero]; exact rfl) (fun K' hK => ?_) AllReadyH.nil)
                    go_simp
                    (go_at_call 16; refine (HTX.out _ G1).mono ?_; rintro e q2 ⟨rfl, g2⟩)
                    have G2 : Gr wr q2 := G1.trans g2
                    (refine hK.out _ _ (three_kz ⟨HV.out.1.1, HV.out.1.2.1, HV.out.1.2.2.1⟩ G2.below) (fun hHeld => ?_); clear hK K'; try simp only [Act.put, List.setIfInBounds_toArray, List.set_cons_zero, List.set_cons_succ])
                    (refine wpAnyH_take (i := 7) (v := ?_) (by simp only [List.getElem?_toArray, List.getElem?_cons_succ, List.getElem?_cons_zero]; exact rfl) (by kernel_rfl) (by kernel_rfl) (by kernel_rfl) (by intro _ _ _ h; exact h) (Or.inl ⟨by rfl, ?_⟩) (by assumption) ?_; rotate_left; (focus (intro w' hSw; (try dsimp only at hSw); go_simp; (try with_reducible rfl))); try simp only [Act.put, List.setIfInBounds_toArray, List.set_cons_zero, List.set_cons_succ])
                    (refine wpAnyH_take (i := 8) (v := ?_) (by simp only [List.getElem?_toArray, List.getElem?_cons_succ, List.getElem?_cons_zero]; exact rfl) (by kernel_rfl) (by kernel_rfl) (by kernel_rfl) (by intro _ _ _ h; exact h) (Or.inl ⟨by rfl, ?_⟩) (by assumption) ?_; rotate_left; (focus (intro w' hSw; (try dsimp only at hSw); go_simp; (try with_reducible rfl))); try simp only [Act.put, List.setIfInBounds_toArray, List.set_cons_zero, List.set_cons_succ])
                    refine wpAnyH_ready (rs := [9]) (by kernel_rfl) (by simp) (AllReadyH.cons (by simp only [List.getElem?_toArray, List.getElem?_cons_succ, List.getElem?_cons_zero]; exact rfl) (fun K' hK => ?_) AllReadyH.nil)
                    have Sx := HV.out.2.2.1.gr G2
                    obtain ⟨r0, r1, r2, rf⟩ := Sx
                    have zs : w.heap.size < q2.heap.size := World.block_lt_of_cell? _ _ r0
                    go_simp
                    (refine hK.out _ _ (three_sz ⟨(G2).keep0 HV.out.1.1, (G2).keep0 HV.out.1.2.1, (G2).keep0 HV.out.1.2.2.1⟩ (by omega)) (fun hHeld => ?_); clear hK K'; try simp only [Act.put, List.setIfInBounds_toArray, List.set_cons_zero, List.set_cons_succ])
                    refine wpAnyH_ready (rs := [10]) (by kernel_rfl) (by simp) (AllReadyH.cons (by simp only [List.getElem?_toArray, List.getElem?_cons_succ, List.getElem?_cons_zero]; exact rfl) (fun K' hK => ?_) AllReadyH.nil)
                    go_simp
                    (refine hK.out _ _ (three_sz ⟨(G2).keep0 HV.out.1.1, (G2).keep0 HV.out.1.2.1, (G2).keep0 HV.out.1.2.2.1⟩ (by omega)) (fun hHeld => ?_); clear hK K'; try simp only [Act.put, List.setIfInBounds_toArray, List.set_cons_zero, List.set_cons_succ])
                    refine wpAnyH_done (by kernel_rfl) ?_ _
                    go_wp2
                    refine bodyPost_ret (v := .tuple #[.agg #[.int .i64 RW, .int .i64 RH, .slice A xs.length cq], .bool false]) (by simp [results, Tryd.results22, go_sem, r0, r1, r2]) rfl ⟨RW, RH, A, xs.length, cq, by rw [HBF.out], fun _ => ⟨HWW.out.1.symm, HWW.out.2.symm, ?_⟩, ?_⟩
                    · rw [HCC.out]; exact OwnE.mono (OwnB.set3s (OwnE.gr HV.out.2.1 G2) (by omega)) (by omega)
                    · exact Below.set3s (HV.out.2.2.2.trans (G2.below.mono HV.out.2.2.2.size)) (Nat.le_refl _)
          · have d8 : ¬ (0 : Int) < (y1.size : Int) := by omega
            have hC := HC3.out
            rw [if_neg hk, if_neg hk] at hC
            have HCC := Lib.hid hC.1
            have HQ := Lib.hid (show pcB t = (okB RW RH [] && decide (CtT RW RH [] = t)) by rw [HB.out, hC.1, hC.2]; rfl)
            have HL := Lib.hid (show ([] : List Blk).length ≤ 1048576 by simp)
            have HV := Lib.hid (And.intro HV.out.1 (And.intro (OwnE.nil 44 3 bcs Z (N + 1)) (And.intro HV.out.2.1 HV.out.2.2)))
            clear hC HC3 hk HB
            generalize ([] : List Blk) = cs at *
            go_upto_region 16 with fail
            cases hok : okB RW RH cs
            · have HGD := Lib.hid (fun (X : World) (g : Gr Z X) => Tryd.avGood X RW RH (N + 1) _ cs _ hok HL.out (OwnE.gr HV.out.2.1 g))
              have HBF := Lib.hid (show pcB t = false by rw [HQ.out, hok]; rfl)
              clear hok
              refine wp_region_held_drew (S := fun W' => W'.cell? ⟨N, 0, none⟩ = some (.int .i64 RW) ∧ W'.cell? ⟨N, 1, none⟩ = some (.int .i64 RH) ∧ W'.cell? ⟨N, 2, none⟩ = some (.slice none 0 0)) (by kernel_rfl) (three_kz ⟨HV.out.1.1, HV.out.1.2.1, HV.out.1.2.2.1⟩ (Below.drew (Below.refl _ _))) (fun hHeld => ?_)
              (refine wpAnyH_take (i := 0) (v := ?_) (by simp only [List.getElem?_toArray, List.getElem?_cons_succ, List.getElem?_cons_zero]; exact rfl) (by kernel_rfl) (by kernel_rfl) (by kernel_rfl) (by intro _ _ _ h; exact h) (Or.inl ⟨by rfl, ?_⟩) (by assumption) ?_; rotate_left; (focus (intro w' hSw; (try dsimp only at hSw); go_simp; (try with_reducible rfl))); try simp only [Act.put, List.setIfInBounds_toArray, List.set_cons_zero, List.set_cons_succ])
              (refine wpAnyH_take (i := 1) (v := ?_) (by simp only [List.getElem?_toArray, List.getElem?_cons_succ, List.getElem?_cons_zero]; exact rfl) (by kernel_rfl) (by kernel_rfl) (by kernel_rfl) (by intro _ _ _ h; exact h) (Or.inl ⟨by rfl, ?_⟩) (by assumption) ?_; rotate_left; (focus (intro w' hSw; (try dsimp only at hSw); go_simp; (try with_reducible rfl))); try simp only [Act.put, List.setIfInBounds_toArray, List.set_cons_zero, List.set_cons_succ])
              refine wpAnyH_ready (rs := [2]) (by kernel_rfl) (by simp) (AllReadyH.cons (by simp only [List.getElem?_toArray, List.getElem?_cons_succ, List.getElem?_cons_zero]; exact rfl) (fun K' hK => ?_) AllReadyH.nil)
              go_simp
              (go_at_call 15; refine (HGD.out _ (Gr.drew (Gr.refl Z))).mono ?_; rintro e q1 ⟨rfl, g1⟩)
              have G1 : Gr Z q1 := (Gr.drew (Gr.refl _)).trans g1
              (refine hK.out _ _ (three_kz ⟨HV.out.1.1, HV.out.1.2.1, HV.out.1.2.2.1⟩ G1.below) (fun hHeld => ?_); clear hK K'; try simp only [Act.put, List.setIfInBounds_toArray, List.set_cons_zero, List.set_cons_succ])
              (refine wpAnyH_take (i := 3) (v := ?_) (by simp only [List.getElem?_toArray, List.getElem?_cons_succ, List.getElem?_cons_zero]; exact rfl) (by kernel_rfl) (by kernel_rfl) (by kernel_rfl) (by intro _ _ _ h; exact h) (Or.inl ⟨by rfl, ?_⟩) (by assumption) ?_; rotate_left; (focus (intro w' hSw; (try dsimp only at hSw); go_simp; (try with_reducible rfl))); try simp only [Act.put, List.setIfInBounds_toArray, List.set_cons_zero, List.set_cons_succ])
              (refine wpAnyH_take (i := 4) (v := undef) (by simp only [List.getElem?_toArray, List.getElem?_cons_succ, List.getElem?_cons_zero]; exact rfl) (by kernel_rfl) (by kernel_rfl) (by kernel_rfl) (by intro _ _ _ h; exact h) (Or.inr ⟨by rfl, rfl⟩) (by assumption) ?_; try simp only [Act.put, List.setIfInBounds_toArray, List.set_cons_zero, List.set_cons_succ])
              (refine wpAnyH_take (i := 5) (v := undef) (by simp only [List.getElem?_toArray, List.getElem?_cons_succ, List.getElem?_cons_zero]; exact rfl) (by kernel_rfl) (by kernel_rfl) (by kernel_rfl) (by intro _ _ _ h; exact h) (Or.inr ⟨by rfl, rfl⟩) (by assumption) ?_; try simp only [Act.put, List.setIfInBounds_toArray, List.set_cons_zero, List.set_cons_succ])
              (refine wpAnyH_take (i := 6) (v := undef) (by simp only [List.getElem?_toArray, List.getElem?_cons_succ, List.getElem?_cons_zero]; exact rfl) (by kernel_rfl) (by kernel_rfl) (by kernel_rfl) (by intro _ _ _ h; exact h) (Or.inr ⟨by rfl, rfl⟩) (by assumption) ?_; try simp only [Act.put, List.setIfInBounds_toArray, List.set_cons_zero, List.set_cons_succ])
              (refine wpAnyH_take (i := 7) (v := undef) (by simp only [List.getElem?_toArray, List.getElem?_cons_succ, List.getElem?_cons_zero]; exact rfl) (by kernel_rfl) (by kernel_rfl) (by kernel_rfl) (by intro _ _ _ h; exact h) (Or.inr ⟨by rfl, rfl⟩) (by assumption) ?_; try simp only [Act.put, List.setIfInBounds_toArray, List.set_cons_zero, List.set_cons_succ])
              (refine wpAnyH_take (i := 8) (v := ?_) (by simp only [List.getElem?_toArray, List.getElem?_cons_succ, List.getElem?_cons_zero]; exact rfl) (by kernel_rfl) (by kernel_rfl) (by kernel_rfl) (by intro _ _ _ h; exact h) (Or.inl ⟨by rfl, ?_⟩) (by assumption) ?_; rotate_left; (focus (intro w' hSw; (try dsimp only at hSw); go_simp; (try with_reducible rfl))); try simp only [Act.put, List.setIfInBounds_toArray, List.set_cons_zero, List.set_cons_succ])
              refine wpAnyH_ready (rs := [9]) (by kernel_rfl) (by simp) (AllReadyH.cons (by simp only [List.getElem?_toArray, List.getElem?_cons_succ, List.getElem?_cons_zero]; exact rfl) (fun K' hK => ?_) AllReadyH.nil)
              have Sx := HV.out.2.2.1.gr G1
              obtain ⟨r0, r1, r2, rf⟩ := Sx
              have zs : w.heap.size < q1.heap.size := World.block_lt_of_cell? _ _ r0
              go_simp
              (refine hK.out _ _ (three_sz ⟨(G1).keep0 HV.out.1.1, (G1).keep0 HV.out.1.2.1, (G1).keep0 HV.out.1.2.2.1⟩ (by omega)) (fun hHeld => ?_); clear hK K'; try simp only [Act.put, List.setIfInBounds_toArray, List.set_cons_zero, List.set_cons_succ])
              refine wpAnyH_ready (rs := [10]) (by kernel_rfl) (by simp) (AllReadyH.cons (by simp only [List.getElem?_toArray, List.getElem?_cons_succ, List.getElem?_cons_zero]; exact rfl) (fun K' hK => ?_) AllReadyH.nil)
              go_simp
              (refine hK.out _ _ (three_sz ⟨(G1).keep0 HV.out.1.1, (G1).keep0 HV.out.1.2.1, (G1).keep0 HV.out.1.2.2.1⟩ (by omega)) (fun hHeld => ?_); clear hK K'; try simp only [Act.put, List.setIfInBounds_toArray, List.set_cons_zero, List.set_cons_succ])
              refine wpAnyH_done (by kernel_rfl) ?_ _
              go_wp2
              refine bodyPost_ret (v := .tuple #[.agg #[.int .i64 RW, .int .i64 RH, .slice none 0 0], .bool false]) (by simp [results, Tryd.results22, go_sem, r0, r1, r2]) rfl ⟨RW, RH, none, 0, 0, by rw [HBF.out], fun _ => ⟨HWW.out.1.symm, HWW.out.2.symm, ?_⟩, ?_⟩
              · rw [HCC.out]; exact OwnE.mono (OwnB.set3s (OwnE.gr HV.out.2.1 G1) (by omega)) (by omega)
              · exact Below.set3s (HV.out.2.2.2.trans (G1.below.mono HV.out.2.2.2.size)) (Nat.le_refl _)
            · have HGD := Lib.hid (fun (X : World) (g : Gr Z X) => Tryd.avGood X RW RH (N + 1) _ cs _ hok HL.out (OwnE.gr HV.out.2.1 g))
              have HTX := Lib.hid (fun (X : World) (g : Gr Z X) => Tryd.avText X RW RH (N + 1) _ cs hok (OwnE.gr HV.out.2.1 g))
              rw [show (hdC RW RH ++ ⟨(jtK cs).toArray⟩ : ByteArray) = CtT RW RH cs from rfl] at HTX
              by_cases hT : CtT RW RH cs = t
              · have HBF := Lib.hid (show pcB t = true by rw [HQ.out, hok, decide_eq_true hT]; rfl)
                rw [hT] at HTX
                clear hok hT
                refine wp_region_held_drew (S := fun W' => W'.cell? ⟨N, 0, none⟩ = some (.int .i64 RW) ∧ W'.cell? ⟨N, 1, none⟩ = some (.int .i64 RH) ∧ W'.cell? ⟨N, 2, none⟩ = some (.slice none 0 0)) (by kernel_rfl) (three_kz ⟨HV.out.1.1, HV.out.1.2.1, HV.out.1.2.2.1⟩ (Below.drew (Below.refl _ _))) (fun hHeld => ?_)
                (refine wpAnyH_take (i := 0) (v := ?_) (by simp only [List.getElem?_toArray, List.getElem?_cons_succ, List.getElem?_cons_zero]; exact rfl) (by kernel_rfl) (by kernel_rfl) (by kernel_rfl) (by intro _ _ _ h; exact h) (Or.inl ⟨by rfl, ?_⟩) (by assumption) ?_; rotate_left; (focus (intro w' hSw; (try dsimp only at hSw); go_simp; (try with_reducible rfl))); try simp only [Act.put, List.setIfInBounds_toArray, List.set_cons_zero, List.set_cons_succ])
                (refine wpAnyH_take (i := 1) (v := ?_) (by simp only [List.getElem?_toArray, List.getElem?_cons_succ, List.getElem?_cons_zero]; exact rfl) (by kernel_rfl) (by kernel_rfl) (by kernel_rfl) (by intro _ _ _ h; exact h) (Or.inl ⟨by rfl, ?_⟩) (by assumption) ?_; rotate_left; (focus (intro w' hSw; (try dsimp only at hSw); go_simp; (try with_reducible rfl))); try simp only [Act.put, List.setIfInBounds_toArray, List.set_cons_zero, List.set_cons_succ])
                refine wpAnyH_ready (rs := [2]) (by kernel_rfl) (by simp) (AllReadyH.cons (by simp only [List.getElem?_toArray, List.getElem?_cons_succ, List.getElem?_cons_zero]; exact rfl) (fun K' hK => ?_) AllReadyH.nil)
                go_simp
                (go_at_call 15; refine (HGD.out _ (Gr.drew (Gr.refl Z))).mono ?_; rintro e q1 ⟨rfl, g1⟩)
                have G1 : Gr Z q1 := (Gr.drew (Gr.refl _)).trans g1
                (refine hK.out _ _ (three_kz ⟨HV.out.1.1, HV.out.1.2.1, HV.out.1.2.2.1⟩ G1.below) (fun hHeld => ?_); clear hK K'; try simp only [Act.put, List.setIfInBounds_toArray, List.set_cons_zero, List.set_cons_succ])
                (refine wpAnyH_take (i := 3) (v := ?_) (by simp only [List.getElem?_toArray, List.getElem?_cons_succ, List.getElem?_cons_zero]; exact rfl) (by kernel_rfl) (by kernel_rfl) (by kernel_rfl) (by intro _ _ _ h; exact h) (Or.inl ⟨by rfl, ?_⟩) (by assumption) ?_; rotate_left; (focus (intro w' hSw; (try dsimp only at hSw); go_simp; (try with_reducible rfl))); try simp only [Act.put, List.setIfInBounds_toArray, List.set_cons_zero, List.set_cons_succ])
                (refine wpAnyH_take (i := 4) (v := ?_) (by simp only [List.getElem?_toArray, List.getElem?_cons_succ, List.getElem?_cons_zero]; exact rfl) (by kernel_rfl) (by kernel_rfl) (by kernel_rfl) (by intro _ _ _ h; exact h) (Or.inl ⟨by rfl, ?_⟩) (by assumption) ?_; rotate_left; (focus (intro w' hSw; (try dsimp only at hSw); go_simp; (try with_reducible rfl))); try simp only [Act.put, List.setIfInBounds_toArray, List.set_cons_zero, List.set_cons_succ])
                (refine wpAnyH_take (i := 6) (v := ?_) (by simp only [List.getElem?_toArray, List.getElem?_cons_succ, List.getElem?_cons_zero]; exact rfl) (by kernel_rfl) (by kernel_rfl) (by kernel_rfl) (by intro _ _ _ h; exact h) (Or.inl ⟨by rfl, ?_⟩) (by assumption) ?_; rotate_left; (focus (intro w' hSw; (try dsimp only at hSw); go_simp; (try with_reducible rfl))); try simp only [Act.put, List.setIfInBounds_toArray, List.set_cons_zero, List.set_cons_succ])
                refine wpAnyH_ready (rs := [5]) (by kernel_rfl) (by simp) (AllReadyH.cons (by simp only [List.getElem?_toArray, List.getElem?_cons_succ, List.getElem?_cons_zero]; exact rfl) (fun K' hK => ?_) AllReadyH.nil)
                go_simp
                (go_at_call 16; refine (HTX.out _ G1).mono ?_; rintro e q2 ⟨rfl, g2⟩)
                have G2 : Gr Z q2 := G1.trans g2
                (refine hK.out _ _ (three_kz ⟨HV.out.1.1, HV.out.1.2.1, HV.out.1.2.2.1⟩ G2.below) (fun hHeld => ?_); clear hK K'; try simp only [Act.put, List.setIfInBounds_toArray, List.set_cons_zero, List.set_cons_succ])
                (refine wpAnyH_take (i := 7) (v := ?_) (by simp only [List.getElem?_toArray, List.getElem?_cons_succ, List.getElem?_cons_zero]; exact rfl) (by kernel_rfl) (by kernel_rfl) (by kernel_rfl) (by intro _ _ _ h; exact h) (Or.inl ⟨by rfl, ?_⟩) (by assumption) ?_; rotate_left; (focus (intro w' hSw; (try dsimp only at hSw); go_simp; (try with_reducible rfl))); try simp only [Act.put, List.setIfInBounds_toArray, List.set_cons_zero, List.set_cons_succ])
                (refine wpAnyH_take (i := 8) (v := ?_) (by simp only [List.getElem?_toArray, List.getElem?_cons_succ, List.getElem?_cons_zero]; exact rfl) (by kernel_rfl) (by kernel_rfl) (by kernel_rfl) (by intro _ _ _ h; exact h) (Or.inl ⟨by rfl, ?_⟩) (by assumption) ?_; rotate_left; (focus (intro w' hSw; (try dsimp only at hSw); go_simp; (try with_reducible rfl))); try simp only [Act.put, List.setIfInBounds_toArray, List.set_cons_zero, List.set_cons_succ])
                refine wpAnyH_ready (rs := [9]) (by kernel_rfl) (by simp) (AllReadyH.cons (by simp only [List.getElem?_toArray, List.getElem?_cons_succ, List.getElem?_cons_zero]; exact rfl) (fun K' hK => ?_) AllReadyH.nil)
                have Sx := HV.out.2.2.1.gr G2
                obtain ⟨r0, r1, r2, rf⟩ := Sx
                have zs : w.heap.size < q2.heap.size := World.block_lt_of_cell? _ _ r0
                go_simp
                (refine hK.out _ _ (three_sz ⟨(G2).keep0 HV.out.1.1, (G2).keep0 HV.out.1.2.1, (G2).keep0 HV.out.1.2.2.1⟩ (by omega)) (fun hHeld => ?_); clear hK K'; try simp only [Act.put, List.setIfInBounds_toArray, List.set_cons_zero, List.set_cons_succ])
                refine wpAnyH_ready (rs := [10]) (by kernel_rfl) (by simp) (AllReadyH.cons (by simp only [List.getElem?_toArray, List.getElem?_cons_succ, List.getElem?_cons_zero]; exact rfl) (fun K' hK => ?_) AllReadyH.nil)
                go_simp
                (refine hK.out _ _ (three_sz ⟨(G2).keep0 HV.out.1.1, (G2).keep0 HV.out.1.2.1, (G2).keep0 HV.out.1.2.2.1⟩ (by omega)) (fun hHeld => ?_); clear hK K'; try simp only [Act.put, List.setIfInBounds_toArray, List.set_cons_zero, List.set_cons_succ])
                refine wpAnyH_done (by kernel_rfl) ?_ _
                go_wp2
                refine bodyPost_ret (v := .tuple #[.agg #[.int .i64 RW, .int .i64 RH, .slice none 0 0], .bool true]) (by simp [results, Tryd.results22, go_sem, r0, r1, r2]) rfl ⟨RW, RH, none, 0, 0, by rw [HBF.out], fun _ => ⟨HWW.out.1.symm, HWW.out.2.symm, ?_⟩, ?_⟩
                · rw [HCC.out]; exact OwnE.mono (OwnB.set3s (OwnE.gr HV.out.2.1 G2) (by omega)) (by omega)
                · exact Below.set3s (HV.out.2.2.2.trans (G2.below.mono HV.out.2.2.2.size)) (Nat.le_refl _)
              · have HBF := Lib.hid (show pcB t = false by rw [HQ.out, hok, decide_eq_false hT]; rfl)
                have d9 : ((CtT RW RH cs).toList == t.toList) = false := ne_txt hT
                generalize CtT RW RH cs = TT at *
                clear hok hT
                refine wp_region_held_drew (S := fun W' => W'.cell? ⟨N, 0, none⟩ = some (.int .i64 RW) ∧ W'.cell? ⟨N, 1, none⟩ = some (.int .i64 RH) ∧ W'.cell? ⟨N, 2, none⟩ = some (.slice none 0 0)) (by kernel_rfl) (three_kz ⟨HV.out.1.1, HV.out.1.2.1, HV.out.1.2.2.1⟩ (Below.drew (Below.refl _ _))) (fun hHeld => ?_)
                (refine wpAnyH_take (i := 0) (v := ?_) (by simp only [List.getElem?_toArray, List.getElem?_cons_succ, List.getElem?_cons_zero]; exact rfl) (by kernel_rfl) (by kernel_rfl) (by kernel_rfl) (by intro _ _ _ h; exact h) (Or.inl ⟨by rfl, ?_⟩) (by assumption) ?_; rotate_left; (focus (intro w' hSw; (try dsimp only at hSw); go_simp; (try with_reducible rfl))); try simp only [Act.put, List.setIfInBounds_toArray, List.set_cons_zero, List.set_cons_succ])
                (refine wpAnyH_take (i := 1) (v := ?_) (by simp only [List.getElem?_toArray, List.getElem?_cons_succ, List.getElem?_cons_zero]; exact rfl) (by kernel_rfl) (by kernel_rfl) (by kernel_rfl) (by intro _ _ _ h; exact h) (Or.inl ⟨by rfl, ?_⟩) (by assumption) ?_; rotate_left; (focus (intro w' hSw; (try dsimp only at hSw); go_simp; (try with_reducible rfl))); try simp only [Act.put, List.setIfInBounds_toArray, List.set_cons_zero, List.set_cons_succ])
                refine wpAnyH_ready (rs := [2]) (by kernel_rfl) (by simp) (AllReadyH.cons (by simp only [List.getElem?_toArray, List.getElem?_cons_succ, List.getElem?_cons_zero]; exact rfl) (fun K' hK => ?_) AllReadyH.nil)
                go_simp
                (go_at_call 15; refine (HGD.out _ (Gr.drew (Gr.refl Z))).mono ?_; rintro e q1 ⟨rfl, g1⟩)
                have G1 : Gr Z q1 := (Gr.drew (Gr.refl _)).trans g1
                (refine hK.out _ _ (three_kz ⟨HV.out.1.1, HV.out.1.2.1, HV.out.1.2.2.1⟩ G1.below) (fun hHeld => ?_); clear hK K'; try simp only [Act.put, List.setIfInBounds_toArray, List.set_cons_zero, List.set_cons_succ])
                (refine wpAnyH_take (i := 3) (v := ?_) (by simp only [List.getElem?_toArray, List.getElem?_cons_succ, List.getElem?_cons_zero]; exact rfl) (by kernel_rfl) (by kernel_rfl) (by kernel_rfl) (by intro _ _ _ h; exact h) (Or.inl ⟨by rfl, ?_⟩) (by assumption) ?_; rotate_left; (focus (intro w' hSw; (try dsimp only at hSw); go_simp; (try with_reducible rfl))); try simp only [Act.put, List.setIfInBounds_toArray, List.set_cons_zero, List.set_cons_succ])
                (refine wpAnyH_take (i := 4) (v := ?_) (by simp only [List.getElem?_toArray, List.getElem?_cons_succ, List.getElem?_cons_zero]; exact rfl) (by kernel_rfl) (by kernel_rfl) (by kernel_rfl) (by intro _ _ _ h; exact h) (Or.inl ⟨by rfl, ?_⟩) (by assumption) ?_; rotate_left; (focus (intro w' hSw; (try dsimp only at hSw); go_simp; (try with_reducible rfl))); try simp only [Act.put, List.setIfInBounds_toArray, List.set_cons_zero, List.set_cons_succ])
                (refine wpAnyH_take (i := 6) (v := ?_) (by simp only [List.getElem?_toArray, List.getElem?_cons_succ, List.getElem?_cons_zero]; exact rfl) (by kernel_rfl) (by kernel_rfl) (by kernel_rfl) (by intro _ _ _ h; exact h) (Or.inl ⟨by rfl, ?_⟩) (by assumption) ?_; rotate_left; (focus (intro w' hSw; (try dsimp only at hSw); go_simp; (try with_reducible rfl))); try simp only [Act.put, List.setIfInBounds_toArray, List.set_cons_zero, List.set_cons_succ])
                refine wpAnyH_ready (rs := [5]) (by kernel_rfl) (by simp) (AllReadyH.cons (by simp only [List.getElem?_toArray, List.getElem?_cons_succ, List.getElem?_cons_zero]; exact rfl) (fun K' hK => ?_) AllReadyH.nil)
                go_simp
                (go_at_call 16; refine (HTX.out _ G1).mono ?_; rintro e q2 ⟨rfl, g2⟩)
                have G2 : Gr Z q2 := G1.trans g2
                (refine hK.out _ _ (three_kz ⟨HV.out.1.1, HV.out.1.2.1, HV.out.1.2.2.1⟩ G2.below) (fun hHeld => ?_); clear hK K'; try simp only [Act.put, List.setIfInBounds_toArray, List.set_cons_zero, List.set_cons_succ])
                (refine wpAnyH_take (i := 7) (v := ?_) (by simp only [List.getElem?_toArray, List.getElem?_cons_succ, List.getElem?_cons_zero]; exact rfl) (by kernel_rfl) (by kernel_rfl) (by kernel_rfl) (by intro _ _ _ h; exact h) (Or.inl ⟨by rfl, ?_⟩) (by assumption) ?_; rotate_left; (focus (intro w' hSw; (try dsimp only at hSw); go_simp; (try with_reducible rfl))); try simp only [Act.put, List.setIfInBounds_toArray, List.set_cons_zero, List.set_cons_succ])
                (refine wpAnyH_take (i := 8) (v := ?_) (by simp only [List.getElem?_toArray, List.getElem?_cons_succ, List.getElem?_cons_zero]; exact rfl) (by kernel_rfl) (by kernel_rfl) (by kernel_rfl) (by intro _ _ _ h; exact h) (Or.inl ⟨by rfl, ?_⟩) (by assumption) ?_; rotate_left; (focus (intro w' hSw; (try dsimp only at hSw); go_simp; (try with_reducible rfl))); try simp only [Act.put, List.setIfInBounds_toArray, List.set_cons_zero, List.set_cons_succ])
                refine wpAnyH_ready (rs := [9]) (by kernel_rfl) (by simp) (AllReadyH.cons (by simp only [List.getElem?_toArray, List.getElem?_cons_succ, List.getElem?_cons_zero]; exact rfl) (fun K' hK => ?_) AllReadyH.nil)
                have Sx := HV.out.2.2.1.gr G2
                obtain ⟨r0, r1, r2, rf⟩ := Sx
                have zs : w.heap.size < q2.heap.size := World.block_lt_of_cell? _ _ r0
                go_simp
                (refine hK.out _ _ (three_sz ⟨(G2).keep0 HV.out.1.1, (G2).keep0 HV.out.1.2.1, (G2).keep0 HV.out.1.2.2.1⟩ (by omega)) (fun hHeld => ?_); clear hK K'; try simp only [Act.put, List.setIfInBounds_toArray, List.set_cons_zero, List.set_cons_succ])
                refine wpAnyH_ready (rs := [10]) (by kernel_rfl) (by simp) (AllReadyH.cons (by simp only [List.getElem?_toArray, List.getElem?_cons_succ, List.getElem?_cons_zero]; exact rfl) (fun K' hK => ?_) AllReadyH.nil)
                go_simp
                (refine hK.out _ _ (three_sz ⟨(G2).keep0 HV.out.1.1, (G2).keep0 HV.out.1.2.1, (G2).keep0 HV.out.1.2.2.1⟩ (by omega)) (fun hHeld => ?_); clear hK K'; try simp only [Act.put, List.setIfInBounds_toArray, List.set_cons_zero, List.set_cons_succ])
                refine wpAnyH_done (by kernel_rfl) ?_ _
                go_wp2
                refine bodyPost_ret (v := .tuple #[.agg #[.int .i64 RW, .int .i64 RH, .slice none 0 0], .bool false]) (by simp [results, Tryd.results22, go_sem, r0, r1, r2]) rfl ⟨RW, RH, none, 0, 0, by rw [HBF.out], fun _ => ⟨HWW.out.1.symm, HWW.out.2.symm, ?_⟩, ?_⟩
                · rw [HCC.out]; exact OwnE.mono (OwnB.set3s (OwnE.gr HV.out.2.1 G2) (by omega)) (by omega)
                · exact Below.set3s (HV.out.2.2.2.trans (G2.below.mono HV.out.2.2.2.size)) (Nat.le_refl _)
        · go_simp
          (refine hK.out _ _ (two_kz VV.out (Gr.alloc (Gr.drew (Gr.refl W2)) _).below) (fun hHeld => ?_); clear hK K'; try simp only [Act.put, List.setIfInBounds_toArray, List.set_cons_zero, List.set_cons_succ])
          refine wpAnyH_ready (rs := [7]) (by kernel_rfl) (by simp) (AllReadyH.cons (by simp only [List.getElem?_toArray, List.getElem?_cons_succ, List.getElem?_cons_zero]; exact rfl) (fun K' hK => ?_) AllReadyH.nil)
          go_simp
          (go_at_call_of 43 (Value.string z1); refine (HR1.out _).mono ?_; rintro e x2 ⟨rfl, rfl⟩)
          (refine hK.out _ _ (two_kz VV.out (Gr.alloc (Gr.drew (Gr.refl W2)) _).below) (fun hHeld => ?_); clear hK K'; try simp only [Act.put, List.setIfInBounds_toArray, List.set_cons_zero, List.set_cons_succ])
          (refine wpAnyH_take (i := 8) (v := ?_) (by simp only [List.getElem?_toArray, List.getElem?_cons_succ, List.getElem?_cons_zero]; exact rfl) (by kernel_rfl) (by kernel_rfl) (by kernel_rfl) (by intro _ _ _ h; exact h) (Or.inl ⟨by rfl, ?_⟩) (by assumption) ?_; rotate_left; (focus (intro w' hSw; (try dsimp only at hSw); go_simp; (try with_reducible rfl))); try simp only [Act.put, List.setIfInBounds_toArray, List.set_cons_zero, List.set_cons_succ])
          refine wpAnyH_ready (rs := [10]) (by kernel_rfl) (by simp) (AllReadyH.cons (by simp only [List.getElem?_toArray, List.getElem?_cons_succ, List.getElem?_cons_zero]; exact rfl) (fun K' hK => ?_) AllReadyH.nil)
          go_simp
          (refine hK.out _ _ (two_kz VV.out (Gr.drew (Gr.alloc (Gr.refl W2) _)).below) (fun hHeld => ?_); clear hK K'; try simp only [Act.put, List.setIfInBounds_toArray, List.set_cons_zero, List.set_cons_succ])
          refine wpAnyH_done (by kernel_rfl) ?_ _
          go_upto_region 8 with fail
          obtain ⟨Z, hZ⟩ : ∃ Z, (W2.alloc (.cells #[.int .i64 RW, .int .i64 RH, .slice none 0 0] 30)).drew = Z := ⟨_, rfl⟩
          rw [hZ]
          have gZ : Gr W2 Z := by rw [← hZ]; exact Gr.drew (Gr.alloc (Gr.refl _) _)
          have C0 : Bz Z W2.heap.size (.int .i64 RW) (.int .i64 RH) (.slice none 0 0) := by rw [← hZ]; exact ⟨by simp [go_sem], by simp [go_sem], by simp [go_sem], fun o => by simp [go_sem]⟩
          have uZ := gZ.keep0 UU.out
          have HV := Lib.hid (And.intro C0 (And.intro (ZZ.out.gr gZ) (BB.out.trans (gZ.below.mono BB.out.size))))
          have hzz : Z.heap.size = W2.heap.size + 1 := by rw [← hZ]; simp
          have HZZ := Lib.hid hzz
          have z7 : (2 : Int) ≤ (c : Int) := z5
          clear hZ gZ C0 hzz HR0 HR1 VV UU ZZ BB
          generalize hNN : W2.heap.size = N at *
          clear hNN
          by_cases hk : 0 < y1.size
          · have d8 : (0 : Int) < (y1.size : Int) := by omega
            have hC := HC3.out
            rw [if_pos hk, if_pos hk] at hC
            have HCQ := Lib.hid hC
            have hp3 := spl_pos 44 y1
            have hl3 := spl_len 44 y1
            generalize spl 44 y1 = xs at *
            clear hC HC3 hk
            go_wp2_with (first | (go_at_call_of 42 (Value.string y1); refine (HS3.out _).mono ?_; rintro e W3 ⟨v3, rfl, ho3, hb3⟩; obtain ⟨g3, c3, rfl, hg3, hc3, hcell3⟩ := ho3.view hp3; have hge := ownS_ge ho3 hp3 rfl; have HC := Lib.hid hcell3; have HV3 := Lib.hid (And.intro (HV.out.1.bel hb3 HV.out.1.lt) (And.intro (HV.out.2.1.bel hb3 HV.out.2.1.lt) (HV.out.2.2.trans (hb3.mono HV.out.2.2.size)))); have z9 := hb3.size; clear ho3 hb3 hcell3))
            have zN : N < g3 := by have := HZZ.out; omega
            have zx : (xs.length : Int) ≤ (c3 : Int) := by omega
            have HLX := Lib.hid (show xs.length ≤ 141 by omega)
            have HX := Lib.hid hc3
            have zM : N < W3.heap.size := by omega
            clear HV hl3 z9 hge
            go_loopw [8, 47] (fun _ i wr => QRel xs w W3 g3 N RW RH i wr) (fun _ i _ => (xs.length - intOf i).toNat)
            case atStart => exact ⟨0, Nat.zero_le _, rfl, fun j hj => absurd hj (Nat.not_lt_zero _), none, 0, OwnE.nil _ _ _ _ _, HV3.out.1, HV3.out.2.1, fun _ => rfl, HV3.out.2.2, Nat.le_refl _⟩
            case round =>
              obtain ⟨k, hk, rfl, hall, A, cq, ho, x1, x2, hcg, hbw, hsz⟩ := hrel
              have z0' : (0 : Int) ≤ (k : Int) := by omega
              have HA := Lib.hid hall
              have HO := Lib.hid ho
              have HX1 := Lib.hid x1
              have HX2 := Lib.hid x2
              have HCG := Lib.hid hcg
              have HBW := Lib.hid hbw
              clear hall ho hcg hbw
              by_cases hlt : k < xs.length
              · obtain ⟨x, hx⟩ : ∃ x, xs[k]? = some x := ⟨xs[k], by simp [hlt]⟩
                have e0 := (HCG.out (0 + k)).trans (HC.out k x hx)
                rw [Nat.zero_add] at e0
                have z1' : (k : Int) < (xs.length : Int) := by omega
                have z2' : (k : Int) < (c3 : Int) := by omega
                have z3' : (xs.length : Int) ≤ 141 := by have := HLX.out; omega
                have HLT := Lib.hid hlt
                by_cases hx3 : x.size = 3
                · have hALL := Lib.hid (show ∀ j, j < k + 1 → ∀ y, xs[j]? = some y → y.size = 3 from fun j hj y hy => by
                      rcases (show j < k ∨ j = k by omega) with q | q
                      · exact HA.out j q y hy
                      · rw [q, hx] at hy; cases hy; exact hx3)
                  have hN := Lib.hid (show (xs.take (k + 1)).map mbk = (xs.take k).map mbk ++ [mbk x] by rw [List.take_add_one, hx]; simp)
                  obtain ⟨a, b, d, rfl⟩ := three_bytes hx3
                  rw [mbk_three] at hN
                  have LK := Lib.hid (show ((xs.take k).map mbk).length ≤ 1000000000 by have := HLX.out; simp; omega)
                  have ua := a.toNat_lt
                  have ud := d.toNat_lt
                  have wa : IntKind.i64.wrap (a.toNat : Int) = (a.toNat : Int) := IntWalk.i64_in _ (by omega)
                  have wd : IntKind.i64.wrap (d.toNat : Int) = (d.toNat : Int) := IntWalk.i64_in _ (by omega)
                  have wa2 : IntKind.i64.wrap ((a.toNat : Int) - 48) = (a.toNat : Int) - 48 := IntWalk.i64_in _ (by omega)
                  have wd2 : IntKind.i64.wrap ((d.toNat : Int) - 48) = (d.toNat : Int) - 48 := IntWalk.i64_in _ (by omega)
                  have wb := u8_eql b
                  clear hx hx3 ua ud
                  obtain ⟨n0, n1, n2, nf⟩ := HX1.out
                  have nz : N < wr.heap.size := World.block_lt_of_cell? _ _ n0
                  go_upto_region 14 with fail
                  refine wp_region_held_drew (S := fun _ => True) (by kernel_rfl) trivial (fun hHeld => ?_)
                  (refine wpAnyH_take (i := 0) (v := ?_) (by simp only [List.getElem?_toArray, List.getElem?_cons_succ, List.getElem?_cons_zero]; exact rfl) (by kernel_rfl) (by kernel_rfl) (by kernel_rfl) (by intro _ _ _ h; exact h) (Or.inl ⟨by rfl, ?_⟩) (by assumption) ?_; rotate_left; (focus (intro w' hSw; (try dsimp only at hSw); go_simp; (try with_reducible rfl))); try simp only [Act.put, List.setIfInBounds_toArray, List.set_cons_zero, List.set_cons_succ])
                  (refine wpAnyH_take (i := 2) (v := ?_) (by simp only [List.getElem?_toArray, List.getElem?_cons_succ, List.getElem?_cons_zero]; exact rfl) (by kernel_rfl) (by kernel_rfl) (by kernel_rfl) (by intro _ _ _ h; exact h) (Or.inl ⟨by rfl, ?_⟩) (by assumption) ?_; rotate_left; (focus (intro w' hSw; (try dsimp only at hSw); go_simp; (try with_reducible rfl))); try simp only [Act.put, List.setIfInBounds_toArray, List.set_cons_zero, List.set_cons_succ])
                  (refine wpAnyH_take (i := 3) (v := ?_) (by simp only [List.getElem?_toArray, List.getElem?_cons_succ, List.getElem?_cons_zero]; exact rfl) (by kernel_rfl) (by kernel_rfl) (by kernel_rfl) (by intro _ _ _ h; exact h) (Or.inl ⟨by rfl, ?_⟩) (by assumption) ?_; rotate_left; (focus (intro w' hSw; (try dsimp only at hSw); go_simp; (try with_reducible rfl))); try simp only [Act.put, List.setIfInBounds_toArray, List.set_cons_zero, List.set_cons_succ])
                  (refine wpAnyH_take (i := 4) (v := ?_) (by simp only [List.getElem?_toArray, List.getElem?_cons_succ, List.getElem?_cons_zero]; exact rfl) (by kernel_rfl) (by kernel_rfl) (by kernel_rfl) (by intro _ _ _ h; exact h) (Or.inl ⟨by rfl, ?_⟩) (by assumption) ?_; rotate_left; (focus (intro w' hSw; (try dsimp only at hSw); go_simp; (try with_reducible rfl))); try simp only [Act.put, List.setIfInBounds_toArray, List.set_cons_zero, List.set_cons_succ])
                  (refine wpAnyH_take (i := 5) (v := ?_) (by simp only [List.getElem?_toArray, List.getElem?_cons_succ, List.getElem?_cons_zero]; exact rfl) (by kernel_rfl) (by kernel_rfl) (by kernel_rfl) (by intro _ _ _ h; exact h) (Or.inl ⟨by rfl, ?_⟩) (by assumption) ?_; rotate_left; (focus (intro w' hSw; (try dsimp only at hSw); go_simp; (try with_reducible rfl))); try simp only [Act.put, List.setIfInBounds_toArray, List.set_cons_zero, List.set_cons_succ])
                  (refine wpAnyH_take (i := 6) (v := ?_) (by simp only [List.getElem?_toArray, List.getElem?_cons_succ, List.getElem?_cons_zero]; exact rfl) (by kernel_rfl) (by kernel_rfl) (by kernel_rfl) (by intro _ _ _ h; exact h) (Or.inl ⟨by rfl, ?_⟩) (by assumption) ?_; rotate_left; (focus (intro w' hSw; (try dsimp only at hSw); go_simp; (try with_reducible rfl))); try simp only [Act.put, List.setIfInBounds_toArray, List.set_cons_zero, List.set_cons_succ])
                  (refine wpAnyH_take (i := 7) (v := ?_) (by simp only [List.getElem?_toArray, List.getElem?_cons_succ, List.getElem?_cons_zero]; exact rfl) (by kernel_rfl) (by kernel_rfl) (by kernel_rfl) (by intro _ _ _ h; exact h) (Or.inl ⟨by rfl, ?_⟩) (by assumption) ?_; rotate_left; (focus (intro w' hSw; (try dsimp only at hSw); go_simp; (try with_reducible rfl))); try simp only [Act.put, List.setIfInBounds_toArray, List.set_cons_zero, List.set_cons_succ])
                  (refine wpAnyH_take (i := 8) (v := ?_) (by simp only [List.getElem?_toArray, List.getElem?_cons_succ, List.getElem?_cons_zero]; exact rfl) (by kernel_rfl) (by kernel_rfl) (by kernel_rfl) (by intro _ _ _ h; exact h) (Or.inl ⟨by rfl, ?_⟩) (by assumption) ?_; rotate_left; (focus (intro w' hSw; (try dsimp only at hSw); go_simp; (try with_reducible rfl))); try simp only [Act.put, List.setIfInBounds_toArray, List.set_cons_zero, List.set_cons_succ])
                  (refine wpAnyH_take (i := 9) (v := ?_) (by simp only [List.getElem?_toArray, List.getElem?_cons_succ, List.getElem?_cons_zero]; exact rfl) (by kernel_rfl) (by kernel_rfl) (by kernel_rfl) (by intro _ _ _ h; exact h) (Or.inl ⟨by rfl, ?_⟩) (by assumption) ?_; rotate_left; (focus (intro w' hSw; (try dsimp only at hSw); go_simp; (try with_reducible rfl))); try simp only [Act.put, List.setIfInBounds_toArray, List.set_cons_zero, List.set_cons_succ])
                  (refine wpAnyH_take (i := 10) (v := ?_) (by simp only [List.getElem?_toArray, List.getElem?_cons_succ, List.getElem?_cons_zero]; exact rfl) (by kernel_rfl) (by kernel_rfl) (by kernel_rfl) (by intro _ _ _ h; exact h) (Or.inl ⟨by rfl, ?_⟩) (by assumption) ?_; rotate_left; (focus (intro w' hSw; (try dsimp only at hSw); go_simp; (try with_reducible rfl))); try simp only [Act.put, List.setIfInBounds_toArray, List.set_cons_zero, List.set_cons_succ])
                  (refine wpAnyH_take (i := 11) (v := ?_) (by simp only [List.getElem?_toArray, List.getElem?_cons_succ, List.getElem?_cons_zero]; exact rfl) (by kernel_rfl) (by kernel_rfl) (by kernel_rfl) (by intro _ _ _ h; exact h) (Or.inl ⟨by rfl, ?_⟩) (by assumption) ?_; rotate_left; (focus (intro w' hSw; (try dsimp only at hSw); go_simp; (try with_reducible rfl))); try simp only [Act.put, List.setIfInBounds_toArray, List.set_cons_zero, List.set_cons_succ])
                  (refine wpAnyH_take (i := 12) (v := ?_) (by simp only [List.getElem?_toArray, List.getElem?_cons_succ, List.getElem?_cons_zero]; exact rfl) (by kernel_rfl) (by kernel_rfl) (by kernel_rfl) (by intro _ _ _ h; exact h) (Or.inl ⟨by rfl, ?_⟩) (by assumption) ?_; rotate_left; (focus (intro w' hSw; (try dsimp only at hSw); go_simp; (try with_reducible rfl))); try simp only [Act.put, List.setIfInBounds_toArray, List.set_cons_zero, List.set_cons_succ])
                  (refine wpAnyH_take (i := 13) (v := ?_) (by simp only [List.getElem?_toArray, List.getElem?_cons_succ, List.getElem?_cons_zero]; exact rfl) (by kernel_rfl) (by kernel_rfl) (by kernel_rfl) (by intro _ _ _ h; exact h) (Or.inl ⟨by rfl, ?_⟩) (by assumption) ?_; rotate_left; (focus (intro w' hSw; (try dsimp only at hSw); go_simp; (try with_reducible rfl))); try simp only [Act.put, List.setIfInBounds_toArray, List.set_cons_zero, List.set_cons_succ])
                  refine wpAnyH_ready (rs := [1, 14]) (by kernel_rfl) (by simp) (AllReadyH.cons (by simp only [List.getElem?_toArray, List.getElem?_cons_succ, List.getElem?_cons_zero]; exact rfl) (fun K' hK => ?_) (AllReadyH.cons (by simp only [List.getElem?_toArray, List.getElem?_cons_succ, List.getElem?_cons_zero]; exact rfl) (fun K' hK => ?_) AllReadyH.nil))
                  · go_simp
                    (refine hK.out _ _ (trivial) (fun hHeld => ?_); clear hK K'; try simp only [Act.put, List.setIfInBounds_toArray, List.set_cons_zero, List.set_cons_succ])
                    refine wpAnyH_ready (rs := [14]) (by kernel_rfl) (by simp) (AllReadyH.cons (by simp only [List.getElem?_toArray, List.getElem?_cons_succ, List.getElem?_cons_zero]; exact rfl) (fun K' hK => ?_) AllReadyH.nil)
                    go_simp
                    (refine hK.out _ _ (trivial) (fun hHeld => ?_); clear hK K'; try simp only [Act.put, List.setIfInBounds_toArray, List.set_cons_zero, List.set_cons_succ])
                    refine wpAnyH_ready (rs := [15]) (by kernel_rfl) (by simp) (AllReadyH.cons (by simp only [List.getElem?_toArray, List.getElem?_cons_succ, List.getElem?_cons_zero]; exact rfl) (fun K' hK => ?_) AllReadyH.nil)
                    refine step_appE bcs_len bcs_one rfl (.tmp 56) (.tmp 69) 28 rfl 44 Tryd.underlying28 Tryd.infoB rfl (by decide) (by decide) W3.heap.size _ _ rfl (OwnE.gr HO.out (Gr.alloc (Gr.drew (Gr.refl wr)) _)) ⟨wr.heap.size, 0, none⟩ 1 1 [((a.toNat : Int) - 48, (d.toNat : Int) - 48, b == 124)] rfl rfl (fun j u hu => alloc_cells (by show ([Value.int .i64 (IntKind.i64.wrap (IntKind.i64.wrap (a.toNat : Int) - 48)), Value.int .i64 (IntKind.i64.wrap (IntKind.i64.wrap (d.toNat : Int) - 48)), Value.bool ((b.toNat : Int) == 124)] : List Value)[j]? = some u; rw [wa, wa2, wd, wd2, wb]; simpa [ecs, bcs] using hu)) LK.out (by simp) (by simp; omega) ?_; intro v4 w4 ho4 hb4 gb4 _; rw [← hN.out] at ho4; obtain ⟨A5, c5, rfl, ho4⟩ := OwnE.eta ho4; rw [List.length_map, List.length_take, Nat.min_eq_left (show k + 1 ≤ xs.length by omega)] at ho4 ⊢
                    have bz : Below W3.heap.size wr w4 := ((Gr.alloc (Gr.drew (Gr.refl wr)) _).below.mono hsz).trans hb4
                    have X4 := Lib.hid (And.intro (HX1.out.bel bz zM) (HX2.out.bel bz (Nat.lt_trans s2 zM)))
                    obtain ⟨m0, m1, p4, f4⟩ := X4.out.1
                    have O4 := Lib.hid ho4
                    have BZ := Lib.hid bz
                    clear ho4 hb4 gb4 bz
                    (refine hK.out _ _ (trivial) (fun hHeld => ?_); clear hK K'; try simp only [Act.put, List.setIfInBounds_toArray, List.set_cons_zero, List.set_cons_succ])
                    refine wpAnyH_ready (rs := [16]) (by kernel_rfl) (by simp) (AllReadyH.cons (by simp only [List.getElem?_toArray, List.getElem?_cons_succ, List.getElem?_cons_zero]; exact rfl) (fun K' hK => ?_) AllReadyH.nil)
                    go_simp
                    (refine hK.out _ _ (trivial) (fun hHeld => ?_); clear hK K'; try simp only [Act.put, List.setIfInBounds_toArray, List.set_cons_zero, List.set_cons_succ])
                    refine wpAnyH_ready (rs := [17]) (by kernel_rfl) (by simp) (AllReadyH.cons (by simp only [List.getElem?_toArray, List.getElem?_cons_succ, List.getElem?_cons_zero]; exact rfl) (fun K' hK => ?_) AllReadyH.nil)
                    go_simp
                    (refine hK.out _ _ (trivial) (fun hHeld => ?_); clear hK K'; try simp only [Act.put, List.setIfInBounds_toArray, List.set_cons_zero, List.set_cons_succ])
                    refine wpAnyH_done (by kernel_rfl) ?_ _
                    go_wp2
                    go_roundw
                    case rel => exact ⟨k + 1, HLT.out, by go_num, hALL.out, A5, c5, OwnE.setOther (a := ⟨N, 2, none⟩) O4.out zM _, Bz.own2 X4.out.1, Bz.set1 X4.out.2 (by omega) _, fun o => (World.cell?_setCell_other _ _ _ _ (by intro e; cases e; omega)).trans ((BZ.out.cell (p := ⟨g3, o, none⟩) hg3).trans (HCG.out o)), (HBW.out.trans (BZ.out.mono (by omega))).setCell (by simp; omega) _, by have := BZ.out.size; simp; omega⟩
                    case measure => have := HLT.out; have := HLX.out; simp [intOf]; omega
                  · go_simp
                    (refine hK.out _ _ (trivial) (fun hHeld => ?_); clear hK K'; try simp only [Act.put, List.setIfInBounds_toArray, List.set_cons_zero, List.set_cons_succ])
                    refine wpAnyH_ready (rs := [1]) (by kernel_rfl) (by simp) (AllReadyH.cons (by simp only [List.getElem?_toArray, List.getElem?_cons_succ, List.getElem?_cons_zero]; exact rfl) (fun K' hK => ?_) AllReadyH.nil)
                    go_simp
                    (refine hK.out _ _ (trivial) (fun hHeld => ?_); clear hK K'; try simp only [Act.put, List.setIfInBounds_toArray, List.set_cons_zero, List.set_cons_succ])
                    refine wpAnyH_ready (rs := [15]) (by kernel_rfl) (by simp) (AllReadyH.cons (by simp only [List.getElem?_toArray, List.getElem?_cons_succ, List.getElem?_cons_zero]; exact rfl) (fun K' hK => ?_) AllReadyH.nil)
                    refine step_appE bcs_len bcs_one rfl (.tmp 56) (.tmp 69) 28 rfl 44 Tryd.underlying28 Tryd.infoB rfl (by decide) (by decide) W3.heap.size _ _ rfl (OwnE.gr HO.out (Gr.alloc (Gr.drew (Gr.refl wr)) _)) ⟨wr.heap.size, 0, none⟩ 1 1 [((a.toNat : Int) - 48, (d.toNat : Int) - 48, b == 124)] rfl rfl (fun j u hu => alloc_cells (by show ([Value.int .i64 (IntKind.i64.wrap (IntKind.i64.wrap (a.toNat : Int) - 48)), Value.int .i64 (IntKind.i64.wrap (IntKind.i64.wrap (d.toNat : Int) - 48)), Value.bool ((b.toNat : Int) == 124)] : List Value)[j]? = some u; rw [wa, wa2, wd, wd2, wb]; simpa [ecs, bcs] using hu)) LK.out (by simp) (by simp; omega) ?_; intro v4 w4 ho4 hb4 gb4 _; rw [← hN.out] at ho4; obtain ⟨A5, c5, rfl, ho4⟩ := OwnE.eta ho4; rw [List.length_map, List.length_take, Nat.min_eq_left (show k + 1 ≤ xs.length by omega)] at ho4 ⊢
                    have bz : Below W3.heap.size wr w4 := ((Gr.alloc (Gr.drew (Gr.refl wr)) _).below.mono hsz).trans hb4
                    have X4 := Lib.hid (And.intro (HX1.out.bel bz zM) (HX2.out.bel bz (Nat.lt_trans s2 zM)))
                    obtain ⟨m0, m1, p4, f4⟩ := X4.out.1
                    have O4 := Lib.hid ho4
                    have BZ := Lib.hid bz
                    clear ho4 hb4 gb4 bz
                    (refine hK.out _ _ (trivial) (fun hHeld => ?_); clear hK K'; try simp only [Act.put, List.setIfInBounds_toArray, List.set_cons_zero, List.set_cons_succ])
                    refine wpAnyH_ready (rs := [16]) (by kernel_rfl) (by simp) (AllReadyH.cons (by simp only [List.getElem?_toArray, List.getElem?_cons_succ, List.getElem?_cons_zero]; exact rfl) (fun K' hK => ?_) AllReadyH.nil)
                    go_simp
                    (refine hK.out _ _ (trivial) (fun hHeld => ?_); clear hK K'; try simp only [Act.put, List.setIfInBounds_toArray, List.set_cons_zero, List.set_cons_succ])
                    refine wpAnyH_ready (rs := [17]) (by kernel_rfl) (by simp) (AllReadyH.cons (by simp only [List.getElem?_toArray, List.getElem?_cons_succ, List.getElem?_cons_zero]; exact rfl) (fun K' hK => ?_) AllReadyH.nil)
                    go_simp
                    (refine hK.out _ _ (trivial) (fun hHeld => ?_); clear hK K'; try simp only [Act.put, List.setIfInBounds_toArray, List.set_cons_zero, List.set_cons_succ])
                    refine wpAnyH_done (by kernel_rfl) ?_ _
                    go_wp2
                    go_roundw
                    case rel => exact ⟨k + 1, HLT.out, by go_num, hALL.out, A5, c5, OwnE.setOther (a := ⟨N, 2, none⟩) O4.out zM _, Bz.own2 X4.out.1, Bz.set1 X4.out.2 (by omega) _, fun o => (World.cell?_setCell_other _ _ _ _ (by intro e; cases e; omega)).trans ((BZ.out.cell (p := ⟨g3, o, none⟩) hg3).trans (HCG.out o)), (HBW.out.trans (BZ.out.mono (by omega))).setCell (by simp; omega) _, by have := BZ.out.size; simp; omega⟩
                    case measure => have := HLT.out; have := HLX.out; simp [intOf]; omega
                · have HBF := Lib.hid (show pcB t = false by
                      rw [HB.out, HCQ.out.2, show xs.all (fun x => x.size == 3) = false from List.all_eq_false.2 ⟨x, List.mem_of_getElem? hx, by simpa using hx3⟩]; rfl)
                  have d2 : ¬ (x.size : Int) = 3 := by omega
                  have d3 : ((x.size : Int) == 3) = false := by simpa using d2
                  have d4 : ((x.size : Int) != 3) = true := by simpa using d2
                  obtain ⟨r0, r1, r2, rf⟩ := HX2.out
                  go_wp2
                  refine bodyPost_ret (v := .tuple #[.agg #[.int .i64 0, .int .i64 0, .slice none 0 0], .bool false]) (by simp [results, Tryd.results22, go_sem, r0, r1, r2]) rfl ⟨0, 0, none, 0, 0, by rw [HBF.out], fun q => absurd (HBF.out.symm.trans q) (by decide), ?_⟩
                  exact Below.set3s HBW.out (Nat.le_refl _)
              · obtain rfl : k = xs.length := by omega
                have z1' : ¬ ((xs.length : Int) < (xs.length : Int)) := by omega
                have ho := HO.out
                rw [List.take_length] at ho
                have hall : xs.all (fun x => x.size == 3) = true := by
                  rw [List.all_eq_true]
                  intro x hx
                  obtain ⟨j, hj, rfl⟩ := List.getElem_of_mem hx
                  have := HA.out j hj xs[j] (by simp [hj])
                  simp [this]
                have HCC := Lib.hid HCQ.out.1
                have HQ := Lib.hid (show pcB t = (okB RW RH (xs.map mbk) && decide (CtT RW RH (xs.map mbk) = t)) by rw [HB.out, HCQ.out.2, hall, HCQ.out.1]; rfl)
                have HL := Lib.hid (show (xs.map mbk).length ≤ 1048576 by have := HLX.out; simp; omega)
                have HV := Lib.hid (And.intro HX1.out (And.intro (OwnE.mono ho (show N + 1 ≤ W3.heap.size from zM)) (And.intro HX2.out HBW.out)))
                clear ho hall HB HO HCQ x1 x2
                generalize xs.map mbk = cs at *
                go_upto_region 16 with fail
                cases hok : okB RW RH cs
                · have HGD := Lib.hid (fun (X : World) (g : Gr wr X) => Tryd.avGood X RW RH (N + 1) _ cs _ hok HL.out (OwnE.gr HV.out.2.1 g))
                  have HBF := Lib.hid (show pcB t = false by rw [HQ.out, hok]; rfl)
                  clear hok
                  refine wp_region_held_drew (S := fun W' => W'.cell? ⟨N, 0, none⟩ = some (.int .i64 RW) ∧ W'.cell? ⟨N, 1, none⟩ = some (.int .i64 RH) ∧ W'.cell? ⟨N, 2, none⟩ = some (.slice A xs.length cq)) (by kernel_rfl) (three_kz ⟨HV.out.1.1, HV.out.1.2.1, HV.out.1.2.2.1⟩ (Below.drew (Below.refl _ _))) (fun hHeld => ?_)
                  (refine wpAnyH_take (i := 0) (v := ?_) (by simp only [List.getElem?_toArray, List.getElem?_cons_succ, List.getElem?_cons_zero]; exact rfl) (by kernel_rfl) (by kernel_rfl) (by kernel_rfl) (by intro _ _ _ h; exact h) (Or.inl ⟨by rfl, ?_⟩) (by assumption) ?_; rotate_left; (focus (intro w' hSw; (try dsimp only at hSw); go_simp; (try with_reducible rfl))); try simp only [Act.put, List.setIfInBounds_toArray, List.set_cons_zero, List.set_cons_succ])
                  (refine wpAnyH_take (i := 1) (v := ?_) (by simp only [List.getElem?_toArray, List.getElem?_cons_succ, List.getElem?_cons_zero]; exact rfl) (by kernel_rfl) (by kernel_rfl) (by kernel_rfl) (by intro _ _ _ h; exact h) (Or.inl ⟨by rfl, ?_⟩) (by assumption) ?_; rotate_left; (focus (intro w' hSw; (try dsimp only at hSw); go_simp; (try with_reducible rfl))); try simp only [Act.put, List.setIfInBounds_toArray, List.set_cons_zero, List.set_cons_succ])
                  refine wpAnyH_ready (rs := [2]) (by kernel_rfl) (by simp) (AllReadyH.cons (by simp only [List.getElem?_toArray, List.getElem?_cons_succ, List.getElem?_cons_zero]; exact rfl) (fun K' hK => ?_) AllReadyH.nil)
                  go_simp
                  (go_at_call 15; refine (HGD.out _ (Gr.drew (Gr.refl wr))).mono ?_; rintro e q1 ⟨rfl, g1⟩)
                  have G1 : Gr wr q1 := (Gr.drew (Gr.refl _)).trans g1
                  (refine hK.out _ _ (three_kz ⟨HV.out.1.1, HV.out.1.2.1, HV.out.1.2.2.1⟩ G1.below) (fun hHeld => ?_); clear hK K'; try simp only [Act.put, List.setIfInBounds_toArray, List.set_cons_zero, List.set_cons_succ])
                  (refine wpAnyH_take (i := 3) (v := ?_) (by simp only [List.getElem?_toArray, List.getElem?_cons_succ, List.getElem?_cons_zero]; exact rfl) (by kernel_rfl) (by kernel_rfl) (by kernel_rfl) (by intro _ _ _ h; exact h) (Or.inl ⟨by rfl, ?_⟩) (by assumption) ?_; rotate_left; (focus (intro w' hSw; (try dsimp only at hSw); go_simp; (try with_reducible rfl))); try simp only [Act.put, List.setIfInBounds_toArray, List.set_cons_zero, List.set_cons_succ])
                  (refine wpAnyH_take (i := 4) (v := undef) (by simp only [List.getElem?_toArray, List.getElem?_cons_succ, List.getElem?_cons_zero]; exact rfl) (by kernel_rfl) (by kernel_rfl) (by kernel_rfl) (by intro _ _ _ h; exact h) (Or.inr ⟨by rfl, rfl⟩) (by assumption) ?_; try simp only [Act.put, List.setIfInBounds_toArray, List.set_cons_zero, List.set_cons_succ])
                  (refine wpAnyH_take (i := 5) (v := undef) (by simp only [List.getElem?_toArray, List.getElem?_cons_succ, List.getElem?_cons_zero]; exact rfl) (by kernel_rfl) (by kernel_rfl) (by kernel_rfl) (by intro _ _ _ h; exact h) (Or.inr ⟨by rfl, rfl⟩) (by assumption) ?_; try simp only [Act.put, List.setIfInBounds_toArray, List.set_cons_zero, List.set_cons_succ])
                  (refine wpAnyH_take (i := 6) (v := undef) (by simp only [List.getElem?_toArray, List.getElem?_cons_succ, List.getElem?_cons_zero]; exact rfl) (by kernel_rfl) (by kernel_rfl) (by kernel_rfl) (by intro _ _ _ h; exact h) (Or.inr ⟨by rfl, rfl⟩) (by assumption) ?_; try simp only [Act.put, List.setIfInBounds_toArray, List.set_cons_zero, List.set_cons_succ])
                  (refine wpAnyH_take (i := 7) (v := undef) (by simp only [List.getElem?_toArray, List.getElem?_cons_succ, List.getElem?_cons_zero]; exact rfl) (by kernel_rfl) (by kernel_rfl) (by kernel_rfl) (by intro _ _ _ h; exact h) (Or.inr ⟨by rfl, rfl⟩) (by assumption) ?_; try simp only [Act.put, List.setIfInBounds_toArray, List.set_cons_zero, List.set_cons_succ])
                  (refine wpAnyH_take (i := 8) (v := ?_) (by simp only [List.getElem?_toArray, List.getElem?_cons_succ, List.getElem?_cons_zero]; exact rfl) (by kernel_rfl) (by kernel_rfl) (by kernel_rfl) (by intro _ _ _ h; exact h) (Or.inl ⟨by rfl, ?_⟩) (by assumption) ?_; rotate_left; (focus (intro w' hSw; (try dsimp only at hSw); go_simp; (try with_reducible rfl))); try simp only [Act.put, List.setIfInBounds_toArray, List.set_cons_zero, List.set_cons_succ])
                  refine wpAnyH_ready (rs := [9]) (by kernel_rfl) (by simp) (AllReadyH.cons (by simp only [List.getElem?_toArray, List.getElem?_cons_succ, List.getElem?_cons_zero]; exact rfl) (fun K' hK => ?_) AllReadyH.nil)
                  have Sx := HV.out.2.2.1.gr G1
                  obtain ⟨r0, r1, r2, rf⟩ := Sx
                  have zs : w.heap.size < q1.heap.size := World.block_lt_of_cell? _ _ r0
                  go_simp
                  (refine hK.out _ _ (three_sz ⟨(G1).keep0 HV.out.1.1, (G1).keep0 HV.out.1.2.1, (G1).keep0 HV.out.1.2.2.1⟩ (by omega)) (fun hHeld => ?_); clear hK K'; try simp only [Act.put, List.setIfInBounds_toArray, List.set_cons_zero, List.set_cons_succ])
                  refine wpAnyH_ready (rs := [10]) (by kernel_rfl) (by simp) (AllReadyH.cons (by simp only [List.getElem?_toArray, List.getElem?_cons_succ, List.getElem?_cons_zero]; exact rfl) (fun K' hK => ?_) AllReadyH.nil)
                  go_simp
                  (refine hK.out _ _ (three_sz ⟨(G1).keep0 HV.out.1.1, (G1).keep0 HV.out.1.2.1, (G1).keep0 HV.out.1.2.2.1⟩ (by omega)) (fun hHeld => ?_); clear hK K'; try simp only [Act.put, List.setIfInBounds_toArray, List.set_cons_zero, List.set_cons_succ])
                  refine wpAnyH_done (by kernel_rfl) ?_ _
                  go_wp2
                  refine bodyPost_ret (v := .tuple #[.agg #[.int .i64 RW, .int .i64 RH, .slice A xs.length cq], .bool false]) (by simp [results, Tryd.results22, go_sem, r0, r1, r2]) rfl ⟨RW, RH, A, xs.length, cq, by rw [HBF.out], fun _ => ⟨HWW.out.1.symm, HWW.out.2.symm, ?_⟩, ?_⟩
                  · rw [HCC.out]; exact OwnE.mono (OwnB.set3s (OwnE.gr HV.out.2.1 G1) (by omega)) (by omega)
                  · exact Below.set3s (HV.out.2.2.2.trans (G1.below.mono HV.out.2.2.2.size)) (Nat.le_refl _)
                · have HGD := Lib.hid (fun (X : World) (g : Gr wr X) => Tryd.avGood X RW RH (N + 1) _ cs _ hok HL.out (OwnE.gr HV.out.2.1 g))
                  have HTX := Lib.hid (fun (X : World) (g : Gr wr X) => Tryd.avText X RW RH (N + 1) _ cs hok (OwnE.gr HV.out.2.1 g))
                  rw [show (hdC RW RH ++ ⟨(jtK cs).toArray⟩ : ByteArray) = CtT RW RH cs from rfl] at HTX
                  by_cases hT : CtT RW RH cs = t
                  · have HBF := Lib.hid (show pcB t = true by rw [HQ.out, hok, decide_eq_true hT]; rfl)
                    rw [hT] at HTX
                    clear hok hT
                    refine wp_region_held_drew (S := fun W' => W'.cell? ⟨N, 0, none⟩ = some (.int .i64 RW) ∧ W'.cell? ⟨N, 1, none⟩ = some (.int .i64 RH) ∧ W'.cell? ⟨N, 2, none⟩ = some (.slice A xs.length cq)) (by kernel_rfl) (three_kz ⟨HV.out.1.1, HV.out.1.2.1, HV.out.1.2.2.1⟩ (Below.drew (Below.refl _ _))) (fun hHeld => ?_)
                    (refine wpAnyH_take (i := 0) (v := ?_) (by simp only [List.getElem?_toArray, List.getElem?_cons_succ, List.getElem?_cons_zero]; exact rfl) (by kernel_rfl) (by kernel_rfl) (by kernel_rfl) (by intro _ _ _ h; exact h) (Or.inl ⟨by rfl, ?_⟩) (by assumption) ?_; rotate_left; (focus (intro w' hSw; (try dsimp only at hSw); go_simp; (try with_reducible rfl))); try simp only [Act.put, List.setIfInBounds_toArray, List.set_cons_zero, List.set_cons_succ])
                    (refine wpAnyH_take (i := 1) (v := ?_) (by simp only [List.getElem?_toArray, List.getElem?_cons_succ, List.getElem?_cons_zero]; exact rfl) (by kernel_rfl) (by kernel_rfl) (by kernel_rfl) (by intro _ _ _ h; exact h) (Or.inl ⟨by rfl, ?_⟩) (by assumption) ?_; rotate_left; (focus (intro w' hSw; (try dsimp only at hSw); go_simp; (try with_reducible rfl))); try simp only [Act.put, List.setIfInBounds_toArray, List.set_cons_zero, List.set_cons_succ])
                    refine wpAnyH_ready (rs := [2]) (by kernel_rfl) (by simp) (AllReadyH.cons (by simp only [List.getElem?_toArray, List.getElem?_cons_succ, List.getElem?_cons_zero]; exact rfl) (fun K' hK => ?_) AllReadyH.nil)
                    go_simp
                    (go_at_call 15; refine (HGD.out _ (Gr.drew (Gr.refl wr))).mono ?_; rintro e q1 ⟨rfl, g1⟩)
                    have G1 : Gr wr q1 := (Gr.drew (Gr.refl _)).trans g1
                    (refine hK.out _ _ (three_kz ⟨HV.out.1.1, HV.out.1.2.1, HV.out.1.2.2.1⟩ G1.below) (fun hHeld => ?_); clear hK K'; try simp only [Act.put, List.setIfInBounds_toArray, List.set_cons_zero, List.set_cons_succ])
                    (refine wpAnyH_take (i := 3) (v := ?_) (by simp only [List.getElem?_toArray, List.getElem?_cons_succ, List.getElem?_cons_zero]; exact rfl) (by kernel_rfl) (by kernel_rfl) (by kernel_rfl) (by intro _ _ _ h; exact h) (Or.inl ⟨by rfl, ?_⟩) (by assumption) ?_; rotate_left; (focus (intro w' hSw; (try dsimp only at hSw); go_simp; (try with_reducible rfl))); try simp only [Act.put, List.setIfInBounds_toArray, List.set_cons_zero, List.set_cons_succ])
                    (refine wpAnyH_take (i := 4) (v := ?_) (by simp only [List.getElem?_toArray, List.getElem?_cons_succ, List.getElem?_cons_zero]; exact rfl) (by kernel_rfl) (by kernel_rfl) (by kernel_rfl) (by intro _ _ _ h; exact h) (Or.inl ⟨by rfl, ?_⟩) (by assumption) ?_; rotate_left; (focus (intro w' hSw; (try dsimp only at hSw); go_simp; (try with_reducible rfl))); try simp only [Act.put, List.setIfInBounds_toArray, List.set_cons_zero, List.set_cons_succ])
                    (refine wpAnyH_take (i := 6) (v := ?_) (by simp only [List.getElem?_toArray, List.getElem?_cons_succ, List.getElem?_cons_zero]; exact rfl) (by kernel_rfl) (by kernel_rfl) (by kernel_rfl) (by intro _ _ _ h; exact h) (Or.inl ⟨by rfl, ?_⟩) (by assumption) ?_; rotate_left; (focus (intro w' hSw; (try dsimp only at hSw); go_simp; (try with_reducible rfl))); try simp only [Act.put, List.setIfInBounds_toArray, List.set_cons_zero, List.set_cons_succ])
                    refine wpAnyH_ready (rs := [5]) (by kernel_rfl) (by simp) (AllReadyH.cons (by simp only [List.getElem?_toArray, List.getElem?_cons_succ, List.getElem?_cons_zero]; exact rfl) (fun K' hK => ?_) AllReadyH.nil)
                    go_simp
                    (go_at_call 16; refine (HTX.out _ G1).mono ?_; rintro e q2 ⟨rfl, g2⟩)
                    have G2 : Gr wr q2 := G1.trans g2
                    (refine hK.out _ _ (three_kz ⟨HV.out.1.1, HV.out.1.2.1, HV.out.1.2.2.1⟩ G2.below) (fun hHeld => ?_); clear hK K'; try simp only [Act.put, List.setIfInBounds_toArray, List.set_cons_zero, List.set_cons_succ])
                    (refine wpAnyH_take (i := 7) (v := ?_) (by simp only [List.getElem?_toArray, List.getElem?_cons_succ, List.getElem?_cons_zero]; exact rfl) (by kernel_rfl) (by kernel_rfl) (by kernel_rfl) (by intro _ _ _ h; exact h) (Or.inl ⟨by rfl, ?_⟩) (by assumption) ?_; rotate_left; (focus (intro w' hSw; (try dsimp only at hSw); go_simp; (try with_reducible rfl))); try simp only [Act.put, List.setIfInBounds_toArray, List.set_cons_zero, List.set_cons_succ])
                    (refine wpAnyH_take (i := 8) (v := ?_) (by simp only [List.getElem?_toArray, List.getElem?_cons_succ, List.getElem?_cons_zero]; exact rfl) (by kernel_rfl) (by kernel_rfl) (by kernel_rfl) (by intro _ _ _ h; exact h) (Or.inl ⟨by rfl, ?_⟩) (by assumption) ?_; rotate_left; (focus (intro w' hSw; (try dsimp only at hSw); go_simp; (try with_reducible rfl))); try simp only [Act.put, List.setIfInBounds_toArray, List.set_cons_zero, List.set_cons_succ])
                    refine wpAnyH_ready (rs := [9]) (by kernel_rfl) (by simp) (AllReadyH.cons (by simp only [List.getElem?_toArray, List.getElem?_cons_succ, List.getElem?_cons_zero]; exact rfl) (fun K' hK => ?_) AllReadyH.nil)
                    have Sx := HV.out.2.2.1.gr G2
                    obtain ⟨r0, r1, r2, rf⟩ := Sx
                    have zs : w.heap.size < q2.heap.size := World.block_lt_of_cell? _ _ r0
                    go_simp
                    (refine hK.out _ _ (three_sz ⟨(G2).keep0 HV.out.1.1, (G2).keep0 HV.out.1.2.1, (G2).keep0 HV.out.1.2.2.1⟩ (by omega)) (fun hHeld => ?_); clear hK K'; try simp only [Act.put, List.setIfInBounds_toArray, List.set_cons_zero, List.set_cons_succ])
                    refine wpAnyH_ready (rs := [10]) (by kernel_rfl) (by simp) (AllReadyH.cons (by simp only [List.getElem?_toArray, List.getElem?_cons_succ, List.getElem?_cons_zero]; exact rfl) (fun K' hK => ?_) AllReadyH.nil)
                    go_simp
                    (refine hK.out _ _ (three_sz ⟨(G2).keep0 HV.out.1.1, (G2).keep0 HV.out.1.2.1, (G2).keep0 HV.out.1.2.2.1⟩ (by omega)) (fun hHeld => ?_); clear hK K'; try simp only [Act.put, List.setIfInBounds_toArray, List.set_cons_zero, List.set_cons_succ])
                    refine wpAnyH_done (by kernel_rfl) ?_ _
                    go_wp2
                    refine bodyPost_ret (v := .tuple #[.agg #[.int .i64 RW, .int .i64 RH, .slice A xs.length cq], .bool true]) (by simp [results, Tryd.results22, go_sem, r0, r1, r2]) rfl ⟨RW, RH, A, xs.length, cq, by rw [HBF.out], fun _ => ⟨HWW.out.1.symm, HWW.out.2.symm, ?_⟩, ?_⟩
                    · rw [HCC.out]; exact OwnE.mono (OwnB.set3s (OwnE.gr HV.out.2.1 G2) (by omega)) (by omega)
                    · exact Below.set3s (HV.out.2.2.2.trans (G2.below.mono HV.out.2.2.2.size)) (Nat.le_refl _)
                  · have HBF := Lib.hid (show pcB t = false by rw [HQ.out, hok, decide_eq_false hT]; rfl)
                    have d9 : ((CtT RW RH cs).toList == t.toList) = false := ne_txt hT
                    generalize CtT RW RH cs = TT at *
                    clear hok hT
                    refine wp_region_held_drew (S := fun W' => W'.cell? ⟨N, 0, none⟩ = some (.int .i64 RW) ∧ W'.cell? ⟨N, 1, none⟩ = some (.int .i64 RH) ∧ W'.cell? ⟨N, 2, none⟩ = some (.slice A xs.length cq)) (by kernel_rfl) (three_kz ⟨HV.out.1.1, HV.out.1.2.1, HV.out.1.2.2.1⟩ (Below.drew (Below.refl _ _))) (fun hHeld => ?_)
                    (refine wpAnyH_take (i := 0) (v := ?_) (by simp only [List.getElem?_toArray, List.getElem?_cons_succ, List.getElem?_cons_zero]; exact rfl) (by kernel_rfl) (by kernel_rfl) (by kernel_rfl) (by intro _ _ _ h; exact h) (Or.inl ⟨by rfl, ?_⟩) (by assumption) ?_; rotate_left; (focus (intro w' hSw; (try dsimp only at hSw); go_simp; (try with_reducible rfl))); try simp only [Act.put, List.setIfInBounds_toArray, List.set_cons_zero, List.set_cons_succ])
                    (refine wpAnyH_take (i := 1) (v := ?_) (by simp only [List.getElem?_toArray, List.getElem?_cons_succ, List.getElem?_cons_zero]; exact rfl) (by kernel_rfl) (by kernel_rfl) (by kernel_rfl) (by intro _ _ _ h; exact h) (Or.inl ⟨by rfl, ?_⟩) (by assumption) ?_; rotate_left; (focus (intro w' hSw; (try dsimp only at hSw); go_simp; (try with_reducible rfl))); try simp only [Act.put, List.setIfInBounds_toArray, List.set_cons_zero, List.set_cons_succ])
                    refine wpAnyH_ready (rs := [2]) (by kernel_rfl) (by simp) (AllReadyH.cons (by simp only [List.getElem?_toArray, List.getElem?_cons_succ, List.getElem?_cons_zero]; exact rfl) (fun K' hK => ?_) AllReadyH.nil)
                    go_simp
                    (go_at_call 15; refine (HGD.out _ (Gr.drew (Gr.refl wr))).mono ?_; rintro e q1 ⟨rfl, g1⟩)
                    have G1 : Gr wr q1 := (Gr.drew (Gr.refl _)).trans g1
                    (refine hK.out _ _ (three_kz ⟨HV.out.1.1, HV.out.1.2.1, HV.out.1.2.2.1⟩ G1.below) (fun hHeld => ?_); clear hK K'; try simp only [Act.put, List.setIfInBounds_toArray, List.set_cons_zero, List.set_cons_succ])
                    (refine wpAnyH_take (i := 3) (v := ?_) (by simp only [List.getElem?_toArray, List.getElem?_cons_succ, List.getElem?_cons_zero]; exact rfl) (by kernel_rfl) (by kernel_rfl) (by kernel_rfl) (by intro _ _ _ h; exact h) (Or.inl ⟨by rfl, ?_⟩) (by assumption) ?_; rotate_left; (focus (intro w' hSw; (try dsimp only at hSw); go_simp; (try with_reducible rfl))); try simp only [Act.put, List.setIfInBounds_toArray, List.set_cons_zero, List.set_cons_succ])
                    (refine wpAnyH_take (i := 4) (v := ?_) (by simp only [List.getElem?_toArray, List.getElem?_cons_succ, List.getElem?_cons_zero]; exact rfl) (by kernel_rfl) (by kernel_rfl) (by kernel_rfl) (by intro _ _ _ h; exact h) (Or.inl ⟨by rfl, ?_⟩) (by assumption) ?_; rotate_left; (focus (intro w' hSw; (try dsimp only at hSw); go_simp; (try with_reducible rfl))); try simp only [Act.put, List.setIfInBounds_toArray, List.set_cons_zero, List.set_cons_succ])
                    (refine wpAnyH_take (i := 6) (v := ?_) (by simp only [List.getElem?_toArray, List.getElem?_cons_succ, List.getElem?_cons_zero]; exact rfl) (by kernel_rfl) (by kernel_rfl) (by kernel_rfl) (by intro _ _ _ h; exact h) (Or.inl ⟨by rfl, ?_⟩) (by assumption) ?_; rotate_left; (focus (intro w' hSw; (try dsimp only at hSw); go_simp; (try with_reducible rfl))); try simp only [Act.put, List.setIfInBounds_toArray, List.set_cons_zero, List.set_cons_succ])
                    refine wpAnyH_ready (rs := [5]) (by kernel_rfl) (by simp) (AllReadyH.cons (by simp only [List.getElem?_toArray, List.getElem?_cons_succ, List.getElem?_cons_zero]; exact rfl) (fun K' hK => ?_) AllReadyH.nil)
                    go_simp
                    (go_at_call 16; refine (HTX.out _ G1).mono ?_; rintro e q2 ⟨rfl, g2⟩)
                    have G2 : Gr wr q2 := G1.trans g2
                    (refine hK.out _ _ (three_kz ⟨HV.out.1.1, HV.out.1.2.1, HV.out.1.2.2.1⟩ G2.below) (fun hHeld => ?_); clear hK K'; try simp only [Act.put, List.setIfInBounds_toArray, List.set_cons_zero, List.set_cons_succ])
                    (refine wpAnyH_take (i := 7) (v := ?_) (by simp only [List.getElem?_toArray, List.getElem?_cons_succ, List.getElem?_cons_zero]; exact rfl) (by kernel_rfl) (by kernel_rfl) (by kernel_rfl) (by intro _ _ _ h; exact h) (Or.inl ⟨by rfl, ?_⟩) (by assumption) ?_; rotate_left; (focus (intro w' hSw; (try dsimp only at hSw); go_simp; (try with_reducible rfl))); try simp only [Act.put, List.setIfInBounds_toArray, List.set_cons_zero, List.set_cons_succ])
                    (refine wpAnyH_take (i := 8) (v := ?_) (by simp only [List.getElem?_toArray, List.getElem?_cons_succ, List.getElem?_cons_zero]; exact rfl) (by kernel_rfl) (by kernel_rfl) (by kernel_rfl) (by intro _ _ _ h; exact h) (Or.inl ⟨by rfl, ?_⟩) (by assumption) ?_; rotate_left; (focus (intro w' hSw; (try dsimp only at hSw); go_simp; (try with_reducible rfl))); try simp only [Act.put, List.setIfInBounds_toArray, List.set_cons_zero, List.set_cons_succ])
                    refine wpAnyH_ready (rs := [9]) (by kernel_rfl) (by simp) (AllReadyH.cons (by simp only [List.getElem?_toArray, List.getElem?_cons_succ, List.getElem?_cons_zero]; exact rfl) (fun K' hK => ?_) AllReadyH.nil)
                    have Sx := HV.out.2.2.1.gr G2
                    obtain ⟨r0, r1, r2, rf⟩ := Sx
                    have zs : w.heap.size < q2.heap.size := World.block_lt_of_cell? _ _ r0
                    go_simp
                    (refine hK.out _ _ (three_sz ⟨(G2).keep0 HV.out.1.1, (G2).keep0 HV.out.1.2.1, (G2).keep0 HV.out.1.2.2.1⟩ (by omega)) (fun hHeld => ?_); clear hK K'; try simp only [Act.put, List.setIfInBounds_toArray, List.set_cons_zero, List.set_cons_succ])
                    refine wpAnyH_ready (rs := [10]) (by kernel_rfl) (by simp) (AllReadyH.cons (by simp only [List.getElem?_toArray, List.getElem?_cons_succ, List.getElem?_cons_zero]; exact rfl) (fun K' hK => ?_) AllReadyH.nil)
                    go_simp
                    (refine hK.out _ _ (three_sz ⟨(G2).keep0 HV.out.1.1, (G2).keep0 HV.out.1.2.1, (G2).keep0 HV.out.1.2.2.1⟩ (by omega)) (fun hHeld => ?_); clear hK K'; try simp only [Act.put, List.setIfInBounds_toArray, List.set_cons_zero, List.set_cons_succ])
                    refine wpAnyH_done (by kernel_rfl) ?_ _
                    go_wp2
                    refine bodyPost_ret (v := .tuple #[.agg #[.int .i64 RW, .int .i64 RH, .slice A xs.length cq], .bool false]) (by simp [results, Tryd.results22, go_sem, r0, r1, r2]) rfl ⟨RW, RH, A, xs.length, cq, by rw [HBF.out], fun _ => ⟨HWW.out.1.symm, HWW.out.2.symm, ?_⟩, ?_⟩
                    · rw [HCC.out]; exact OwnE.mono (OwnB.set3s (OwnE.gr HV.out.2.1 G2) (by omega)) (by omega)
                    · exact Below.set3s (HV.out.2.2.2.trans (G2.below.mono HV.out.2.2.2.size)) (Nat.le_refl _)
          · have d8 : ¬ (0 : Int) < (y1.size : Int) := by omega
            have hC := HC3.out
            rw [if_neg hk, if_neg hk] at hC
            have HCC := Lib.hid hC.1
            have HQ := Lib.hid (show pcB t = (okB RW RH [] && decide (CtT RW RH [] = t)) by rw [HB.out, hC.1, hC.2]; rfl)
            have HL := Lib.hid (show ([] : List Blk).length ≤ 1048576 by simp)
            have HV := Lib.hid (And.intro HV.out.1 (And.intro (OwnE.nil 44 3 bcs Z (N + 1)) (And.intro HV.out.2.1 HV.out.2.2)))
            clear hC HC3 hk HB
            generalize ([] : List Blk) = cs at *
            go_upto_region 16 with fail
            cases hok : okB RW RH cs
            · have HGD := Lib.hid (fun (X : World) (g : Gr Z X) => Tryd.avGood X RW RH (N + 1) _ cs _ hok HL.out (OwnE.gr HV.out.2.1 g))
              have HBF := Lib.hid (show pcB t = false by rw [HQ.out, hok]; rfl)
              clear hok
              refine wp_region_held_drew (S := fun W' => W'.cell? ⟨N, 0, none⟩ = some (.int .i64 RW) ∧ W'.cell? ⟨N, 1, none⟩ = some (.int .i64 RH) ∧ W'.cell? ⟨N, 2, none⟩ = some (.slice none 0 0)) (by kernel_rfl) (three_kz ⟨HV.out.1.1, HV.out.1.2.1, HV.out.1.2.2.1⟩ (Below.drew (Below.refl _ _))) (fun hHeld => ?_)
              (refine wpAnyH_take (i := 0) (v := ?_) (by simp only [List.getElem?_toArray, List.getElem?_cons_succ, List.getElem?_cons_zero]; exact rfl) (by kernel_rfl) (by kernel_rfl) (by kernel_rfl) (by intro _ _ _ h; exact h) (Or.inl ⟨by rfl, ?_⟩) (by assumption) ?_; rotate_left; (focus (intro w' hSw; (try dsimp only at hSw); go_simp; (try with_reducible rfl))); try simp only [Act.put, List.setIfInBounds_toArray, List.set_cons_zero, List.set_cons_succ])
              (refine wpAnyH_take (i := 1) (v := ?_) (by simp only [List.getElem?_toArray, List.getElem?_cons_succ, List.getElem?_cons_zero]; exact rfl) (by kernel_rfl) (by kernel_rfl) (by kernel_rfl) (by intro _ _ _ h; exact h) (Or.inl ⟨by rfl, ?_⟩) (by assumption) ?_; rotate_left; (focus (intro w' hSw; (try dsimp only at hSw); go_simp; (try with_reducible rfl))); try simp only [Act.put, List.setIfInBounds_toArray, List.set_cons_zero, List.set_cons_succ])
              refine wpAnyH_ready (rs := [2]) (by kernel_rfl) (by simp) (AllReadyH.cons (by simp only [List.getElem?_toArray, List.getElem?_cons_succ, List.getElem?_cons_zero]; exact rfl) (fun K' hK => ?_) AllReadyH.nil)
              go_simp
              (go_at_call 15; refine (HGD.out _ (Gr.drew (Gr.refl Z))).mono ?_; rintro e q1 ⟨rfl, g1⟩)
              have G1 : Gr Z q1 := (Gr.drew (Gr.refl _)).trans g1
              (refine hK.out _ _ (three_kz ⟨HV.out.1.1, HV.out.1.2.1, HV.out.1.2.2.1⟩ G1.below) (fun hHeld => ?_); clear hK K'; try simp only [Act.put, List.setIfInBounds_toArray, List.set_cons_zero, List.set_cons_succ])
              (refine wpAnyH_take (i := 3) (v := ?_) (by simp only [List.getElem?_toArray, List.getElem?_cons_succ, List.getElem?_cons_zero]; exact rfl) (by kernel_rfl) (by kernel_rfl) (by kernel_rfl) (by intro _ _ _ h; exact h) (Or.inl ⟨by rfl, ?_⟩) (by assumption) ?_; rotate_left; (focus (intro w' hSw; (try dsimp only at hSw); go_simp; (try with_reducible rfl))); try simp only [Act.put, List.setIfInBounds_toArray, List.set_cons_zero, List.set_cons_succ])
              (refine wpAnyH_take (i := 4) (v := undef) (by simp only [List.getElem?_toArray, List.getElem?_cons_succ, List.getElem?_cons_zero]; exact rfl) (by kernel_rfl) (by kernel_rfl) (by kernel_rfl) (by intro _ _ _ h; exact h) (Or.inr ⟨by rfl, rfl⟩) (by assumption) ?_; try simp only [Act.put, List.setIfInBounds_toArray, List.set_cons_zero, List.set_cons_succ])
              (refine wpAnyH_take (i := 5) (v := undef) (by simp only [List.getElem?_toArray, List.getElem?_cons_succ, List.getElem?_cons_zero]; exact rfl) (by kernel_rfl) (by kernel_rfl) (by kernel_rfl) (by intro _ _ _ h; exact h) (Or.inr ⟨by rfl, rfl⟩) (by assumption) ?_; try simp only [Act.put, List.setIfInBounds_toArray, List.set_cons_zero, List.set_cons_succ])
              (refine wpAnyH_take (i := 6) (v := undef) (by simp only [List.getElem?_toArray, List.getElem?_cons_succ, List.getElem?_cons_zero]; exact rfl) (by kernel_rfl) (by kernel_rfl) (by kernel_rfl) (by intro _ _ _ h; exact h) (Or.inr ⟨by rfl, rfl⟩) (by assumption) ?_; try simp only [Act.put, List.setIfInBounds_toArray, List.set_cons_zero, List.set_cons_succ])
              (refine wpAnyH_take (i := 7) (v := undef) (by simp only [List.getElem?_toArray, List.getElem?_cons_succ, List.getElem?_cons_zero]; exact rfl) (by kernel_rfl) (by kernel_rfl) (by kernel_rfl) (by intro _ _ _ h; exact h) (Or.inr ⟨by rfl, rfl⟩) (by assumption) ?_; try simp only [Act.put, List.setIfInBounds_toArray, List.set_cons_zero, List.set_cons_succ])
              (refine wpAnyH_take (i := 8) (v := ?_) (by simp only [List.getElem?_toArray, List.getElem?_cons_succ, List.getElem?_cons_zero]; exact rfl) (by kernel_rfl) (by kernel_rfl) (by kernel_rfl) (by intro _ _ _ h; exact h) (Or.inl ⟨by rfl, ?_⟩) (by assumption) ?_; rotate_left; (focus (intro w' hSw; (try dsimp only at hSw); go_simp; (try with_reducible rfl))); try simp only [Act.put, List.setIfInBounds_toArray, List.set_cons_zero, List.set_cons_succ])
              refine wpAnyH_ready (rs := [9]) (by kernel_rfl) (by simp) (AllReadyH.cons (by simp only [List.getElem?_toArray, List.getElem?_cons_succ, List.getElem?_cons_zero]; exact rfl) (fun K' hK => ?_) AllReadyH.nil)
              have Sx := HV.out.2.2.1.gr G1
              obtain ⟨r0, r1, r2, rf⟩ := Sx
              have zs : w.heap.size < q1.heap.size := World.block_lt_of_cell? _ _ r0
              go_simp
              (refine hK.out _ _ (three_sz ⟨(G1).keep0 HV.out.1.1, (G1).keep0 HV.out.1.2.1, (G1).keep0 HV.out.1.2.2.1⟩ (by omega)) (fun hHeld => ?_); clear hK K'; try simp only [Act.put, List.setIfInBounds_toArray, List.set_cons_zero, List.set_cons_succ])
              refine wpAnyH_ready (rs := [10]) (by kernel_rfl) (by simp) (AllReadyH.cons (by simp only [List.getElem?_toArray, List.getElem?_cons_succ, List.getElem?_cons_zero]; exact rfl) (fun K' hK => ?_) AllReadyH.nil)
              go_simp
              (refine hK.out _ _ (three_sz ⟨(G1).keep0 HV.out.1.1, (G1).keep0 HV.out.1.2.1, (G1).keep0 HV.out.1.2.2.1⟩ (by omega)) (fun hHeld => ?_); clear hK K'; try simp only [Act.put, List.setIfInBounds_toArray, List.set_cons_zero, List.set_cons_succ])
              refine wpAnyH_done (by kernel_rfl) ?_ _
              go_wp2
              refine bodyPost_ret (v := .tuple #[.agg #[.int .i64 RW, .int .i64 RH, .slice none 0 0], .bool false]) (by simp [results, Tryd.results22, go_sem, r0, r1, r2]) rfl ⟨RW, RH, none, 0, 0, by rw [HBF.out], fun _ => ⟨HWW.out.1.symm, HWW.out.2.symm, ?_⟩, ?_⟩
              · rw [HCC.out]; exact OwnE.mono (OwnB.set3s (OwnE.gr HV.out.2.1 G1) (by omega)) (by omega)
              · exact Below.set3s (HV.out.2.2.2.trans (G1.below.mono HV.out.2.2.2.size)) (Nat.le_refl _)
            · have HGD := Lib.hid (fun (X : World) (g : Gr Z X) => Tryd.avGood X RW RH (N + 1) _ cs _ hok HL.out (OwnE.gr HV.out.2.1 g))
              have HTX := Lib.hid (fun (X : World) (g : Gr Z X) => Tryd.avText X RW RH (N + 1) _ cs hok (OwnE.gr HV.out.2.1 g))
              rw [show (hdC RW RH ++ ⟨(jtK cs).toArray⟩ : ByteArray) = CtT RW RH cs from rfl] at HTX
              by_cases hT : CtT RW RH cs = t
              · have HBF := Lib.hid (show pcB t = true by rw [HQ.out, hok, decide_eq_true hT]; rfl)
                rw [hT] at HTX
                clear hok hT
                refine wp_region_held_drew (S := fun W' => W'.cell? ⟨N, 0, none⟩ = some (.int .i64 RW) ∧ W'.cell? ⟨N, 1, none⟩ = some (.int .i64 RH) ∧ W'.cell? ⟨N, 2, none⟩ = some (.slice none 0 0)) (by kernel_rfl) (three_kz ⟨HV.out.1.1, HV.out.1.2.1, HV.out.1.2.2.1⟩ (Below.drew (Below.refl _ _))) (fun hHeld => ?_)
                (refine wpAnyH_take (i := 0) (v := ?_) (by simp only [List.getElem?_toArray, List.getElem?_cons_succ, List.getElem?_cons_zero]; exact rfl) (by kernel_rfl) (by kernel_rfl) (by kernel_rfl) (by intro _ _ _ h; exact h) (Or.inl ⟨by rfl, ?_⟩) (by assumption) ?_; rotate_left; (focus (intro w' hSw; (try dsimp only at hSw); go_simp; (try with_reducible rfl))); try simp only [Act.put, List.setIfInBounds_toArray, List.set_cons_zero, List.set_cons_succ])
                (refine wpAnyH_take (i := 1) (v := ?_) (by simp only [List.getElem?_toArray, List.getElem?_cons_succ, List.getElem?_cons_zero]; exact rfl) (by kernel_rfl) (by kernel_rfl) (by kernel_rfl) (by intro _ _ _ h; exact h) (Or.inl ⟨by rfl, ?_⟩) (by assumption) ?_; rotate_left; (focus (intro w' hSw; (try dsimp only at hSw); go_simp; (try with_reducible rfl))); try simp only [Act.put, List.setIfInBounds_toArray, List.set_cons_zero, List.set_cons_succ])
                refine wpAnyH_ready (rs := [2]) (by kernel_rfl) (by simp) (AllReadyH.cons (by simp only [List.getElem?_toArray, List.getElem?_cons_succ, List.getElem?_cons_zero]; exact rfl) (fun K' hK => ?_) AllReadyH.nil)
                go_simp
                (go_at_call 15; refine (HGD.out _ (Gr.drew (Gr.refl Z))).mono ?_; rintro e q1 ⟨rfl, g1⟩)
                have G1 : Gr Z q1 := (Gr.drew (Gr.refl _)).trans g1
                (refine hK.out _ _ (three_kz ⟨HV.out.1.1, HV.out.1.2.1, HV.out.1.2.2.1⟩ G1.below) (fun hHeld => ?_); clear hK K'; try simp only [Act.put, List.setIfInBounds_toArray, List.set_cons_zero, List.set_cons_succ])
                (refine wpAnyH_take (i := 3) (v := ?_) (by simp only [List.getElem?_toArray, List.getElem?_cons_succ, List.getElem?_cons_zero]; exact rfl) (by kernel_rfl) (by kernel_rfl) (by kernel_rfl) (by intro _ _ _ h; exact h) (Or.inl ⟨by rfl, ?_⟩) (by assumption) ?_; rotate_left; (focus (intro w' hSw; (try dsimp only at hSw); go_simp; (try with_reducible rfl))); try simp only [Act.put, List.setIfInBounds_toArray, List.set_cons_zero, List.set_cons_succ])
                (refine wpAnyH_take (i := 4) (v := ?_) (by simp only [List.getElem?_toArray, List.getElem?_cons_succ, List.getElem?_cons_zero]; exact rfl) (by kernel_rfl) (by kernel_rfl) (by kernel_rfl) (by intro _ _ _ h; exact h) (Or.inl ⟨by rfl, ?_⟩) (by assumption) ?_; rotate_left; (focus (intro w' hSw; (try dsimp only at hSw); go_simp; (try with_reducible rfl))); try simp only [Act.put, List.setIfInBounds_toArray, List.set_cons_zero, List.set_cons_succ])
                (refine wpAnyH_take (i := 6) (v := ?_) (by simp only [List.getElem?_toArray, List.getElem?_cons_succ, List.getElem?_cons_zero]; exact rfl) (by kernel_rfl) (by kernel_rfl) (by kernel_rfl) (by intro _ _ _ h; exact h) (Or.inl ⟨by rfl, ?_⟩) (by assumption) ?_; rotate_left; (focus (intro w' hSw; (try dsimp only at hSw); go_simp; (try with_reducible rfl))); try simp only [Act.put, List.setIfInBounds_toArray, List.set_cons_zero, List.set_cons_succ])
                refine wpAnyH_ready (rs := [5]) (by kernel_rfl) (by simp) (AllReadyH.cons (by simp only [List.getElem?_toArray, List.getElem?_cons_succ, List.getElem?_cons_zero]; exact rfl) (fun K' hK => ?_) AllReadyH.nil)
                go_simp
                (go_at_call 16; refine (HTX.out _ G1).mono ?_; rintro e q2 ⟨rfl, g2⟩)
                have G2 : Gr Z q2 := G1.trans g2
                (refine hK.out _ _ (three_kz ⟨HV.out.1.1, HV.out.1.2.1, HV.out.1.2.2.1⟩ G2.below) (fun hHeld => ?_); clear hK K'; try simp only [Act.put, List.setIfInBounds_toArray, List.set_cons_zero, List.set_cons_succ])
                (refine wpAnyH_take (i := 7) (v := ?_) (by simp only [List.getElem?_toArray, List.getElem?_cons_succ, List.getElem?_cons_zero]; exact rfl) (by kernel_rfl) (by kernel_rfl) (by kernel_rfl) (by intro _ _ _ h; exact h) (Or.inl ⟨by rfl, ?_⟩) (by assumption) ?_; rotate_left; (focus (intro w' hSw; (try dsimp only at hSw); go_simp; (try with_reducible rfl))); try simp only [Act.put, List.setIfInBounds_toArray, List.set_cons_zero, List.set_cons_succ])
                (refine wpAnyH_take (i := 8) (v := ?_) (by simp only [List.getElem?_toArray, List.getElem?_cons_succ, List.getElem?_cons_zero]; exact rfl) (by kernel_rfl) (by kernel_rfl) (by kernel_rfl) (by intro _ _ _ h; exact h) (Or.inl ⟨by rfl, ?_⟩) (by assumption) ?_; rotate_left; (focus (intro w' hSw; (try dsimp only at hSw); go_simp; (try with_reducible rfl))); try simp only [Act.put, List.setIfInBounds_toArray, List.set_cons_zero, List.set_cons_succ])
                refine wpAnyH_ready (rs := [9]) (by kernel_rfl) (by simp) (AllReadyH.cons (by simp only [List.getElem?_toArray, List.getElem?_cons_succ, List.getElem?_cons_zero]; exact rfl) (fun K' hK => ?_) AllReadyH.nil)
                have Sx := HV.out.2.2.1.gr G2
                obtain ⟨r0, r1, r2, rf⟩ := Sx
                have zs : w.heap.size < q2.heap.size := World.block_lt_of_cell? _ _ r0
                go_simp
                (refine hK.out _ _ (three_sz ⟨(G2).keep0 HV.out.1.1, (G2).keep0 HV.out.1.2.1, (G2).keep0 HV.out.1.2.2.1⟩ (by omega)) (fun hHeld => ?_); clear hK K'; try simp only [Act.put, List.setIfInBounds_toArray, List.set_cons_zero, List.set_cons_succ])
                refine wpAnyH_ready (rs := [10]) (by kernel_rfl) (by simp) (AllReadyH.cons (by simp only [List.getElem?_toArray, List.getElem?_cons_succ, List.getElem?_cons_zero]; exact rfl) (fun K' hK => ?_) AllReadyH.nil)
                go_simp
                (refine hK.out _ _ (three_sz ⟨(G2).keep0 HV.out.1.1, (G2).keep0 HV.out.1.2.1, (G2).keep0 HV.out.1.2.2.1⟩ (by omega)) (fun hHeld => ?_); clear hK K'; try simp only [Act.put, List.setIfInBounds_toArray, List.set_cons_zero, List.set_cons_succ])
                refine wpAnyH_done (by kernel_rfl) ?_ _
                go_wp2
                refine bodyPost_ret (v := .tuple #[.agg #[.int .i64 RW, .int .i64 RH, .slice none 0 0], .bool true]) (by simp [results, Tryd.results22, go_sem, r0, r1, r2]) rfl ⟨RW, RH, none, 0, 0, by rw [HBF.out], fun _ => ⟨HWW.out.1.symm, HWW.out.2.symm, ?_⟩, ?_⟩
                · rw [HCC.out]; exact OwnE.mono (OwnB.set3s (OwnE.gr HV.out.2.1 G2) (by omega)) (by omega)
                · exact Below.set3s (HV.out.2.2.2.trans (G2.below.mono HV.out.2.2.2.size)) (Nat.le_refl _)
              · have HBF := Lib.hid (show pcB t = false by rw [HQ.out, hok, decide_eq_false hT]; rfl)
                have d9 : ((CtT RW RH cs).toList == t.toList) = false := ne_txt hT
                generalize CtT RW RH cs = TT at *
                clear hok hT
                refine wp_region_held_drew (S := fun W' => W'.cell? ⟨N, 0, none⟩ = some (.int .i64 RW) ∧ W'.cell? ⟨N, 1, none⟩ = some (.int .i64 RH) ∧ W'.cell? ⟨N, 2, none⟩ = some (.slice none 0 0)) (by kernel_rfl) (three_kz ⟨HV.out.1.1, HV.out.1.2.1, HV.out.1.2.2.1⟩ (Below.drew (Below.refl _ _))) (fun hHeld => ?_)
                (refine wpAnyH_take (i := 0) (v := ?_) (by simp only [List.getElem?_toArray, List.getElem?_cons_succ, List.getElem?_cons_zero]; exact rfl) (by kernel_rfl) (by kernel_rfl) (by kernel_rfl) (by intro _ _ _ h; exact h) (Or.inl ⟨by rfl, ?_⟩) (by assumption) ?_; rotate_left; (focus (intro w' hSw; (try dsimp only at hSw); go_simp; (try with_reducible rfl))); try simp only [Act.put, List.setIfInBounds_toArray, List.set_cons_zero, List.set_cons_succ])
                (refine wpAnyH_take (i := 1) (v := ?_) (by simp only [List.getElem?_toArray, List.getElem?_cons_succ, List.getElem?_cons_zero]; exact rfl) (by kernel_rfl) (by kernel_rfl) (by kernel_rfl) (by intro _ _ _ h; exact h) (Or.inl ⟨by rfl, ?_⟩) (by assumption) ?_; rotate_left; (focus (intro w' hSw; (try dsimp only at hSw); go_simp; (try with_reducible rfl))); try simp only [Act.put, List.setIfInBounds_toArray, List.set_cons_zero, List.set_cons_succ])
                refine wpAnyH_ready (rs := [2]) (by kernel_rfl) (by simp) (AllReadyH.cons (by simp only [List.getElem?_toArray, List.getElem?_cons_succ, List.getElem?_cons_zero]; exact rfl) (fun K' hK => ?_) AllReadyH.nil)
                go_simp
                (go_at_call 15; refine (HGD.out _ (Gr.drew (Gr.refl Z))).mono ?_; rintro e q1 ⟨rfl, g1⟩)
                have G1 : Gr Z q1 := (Gr.drew (Gr.refl _)).trans g1
                (refine hK.out _ _ (three_kz ⟨HV.out.1.1, HV.out.1.2.1, HV.out.1.2.2.1⟩ G1.below) (fun hHeld => ?_); clear hK K'; try simp only [Act.put, List.setIfInBounds_toArray, List.set_cons_zero, List.set_cons_succ])
                (refine wpAnyH_take (i := 3) (v := ?_) (by simp only [List.getElem?_toArray, List.getElem?_cons_succ, List.getElem?_cons_zero]; exact rfl) (by kernel_rfl) (by kernel_rfl) (by kernel_rfl) (by intro _ _ _ h; exact h) (Or.inl ⟨by rfl, ?_⟩) (by assumption) ?_; rotate_left; (focus (intro w' hSw; (try dsimp only at hSw); go_simp; (try with_reducible rfl))); try simp only [Act.put, List.setIfInBounds_toArray, List.set_cons_zero, List.set_cons_succ])
                (refine wpAnyH_take (i := 4) (v := ?_) (by simp only [List.getElem?_toArray, List.getElem?_cons_succ, List.getElem?_cons_zero]; exact rfl) (by kernel_rfl) (by kernel_rfl) (by kernel_rfl) (by intro _ _ _ h; exact h) (Or.inl ⟨by rfl, ?_⟩) (by assumption) ?_; rotate_left; (focus (intro w' hSw; (try dsimp only at hSw); go_simp; (try with_reducible rfl))); try simp only [Act.put, List.setIfInBounds_toArray, List.set_cons_zero, List.set_cons_succ])
                (refine wpAnyH_take (i := 6) (v := ?_) (by simp only [List.getElem?_toArray, List.getElem?_cons_succ, List.getElem?_cons_zero]; exact rfl) (by kernel_rfl) (by kernel_rfl) (by kernel_rfl) (by intro _ _ _ h; exact h) (Or.inl ⟨by rfl, ?_⟩) (by assumption) ?_; rotate_left; (focus (intro w' hSw; (try dsimp only at hSw); go_simp; (try with_reducible rfl))); try simp only [Act.put, List.setIfInBounds_toArray, List.set_cons_zero, List.set_cons_succ])
                refine wpAnyH_ready (rs := [5]) (by kernel_rfl) (by simp) (AllReadyH.cons (by simp only [List.getElem?_toArray, List.getElem?_cons_succ, List.getElem?_cons_zero]; exact rfl) (fun K' hK => ?_) AllReadyH.nil)
                go_simp
                (go_at_call 16; refine (HTX.out _ G1).mono ?_; rintro e q2 ⟨rfl, g2⟩)
                have G2 : Gr Z q2 := G1.trans g2
                (refine hK.out _ _ (three_kz ⟨HV.out.1.1, HV.out.1.2.1, HV.out.1.2.2.1⟩ G2.below) (fun hHeld => ?_); clear hK K'; try simp only [Act.put, List.setIfInBounds_toArray, List.set_cons_zero, List.set_cons_succ])
                (refine wpAnyH_take (i := 7) (v := ?_) (by simp only [List.getElem?_toArray, List.getElem?_cons_succ, List.getElem?_cons_zero]; exact rfl) (by kernel_rfl) (by kernel_rfl) (by kernel_rfl) (by intro _ _ _ h; exact h) (Or.inl ⟨by rfl, ?_⟩) (by assumption) ?_; rotate_left; (focus (intro w' hSw; (try dsimp only at hSw); go_simp; (try with_reducible rfl))); try simp only [Act.put, List.setIfInBounds_toArray, List.set_cons_zero, List.set_cons_succ])
                (refine wpAnyH_take (i := 8) (v := ?_) (by simp only [List.getElem?_toArray, List.getElem?_cons_succ, List.getElem?_cons_zero]; exact rfl) (by kernel_rfl) (by kernel_rfl) (by kernel_rfl) (by intro _ _ _ h; exact h) (Or.inl ⟨by rfl, ?_⟩) (by assumption) ?_; rotate_left; (focus (intro w' hSw; (try dsimp only at hSw); go_simp; (try with_reducible rfl))); try simp only [Act.put, List.setIfInBounds_toArray, List.set_cons_zero, List.set_cons_succ])
                refine wpAnyH_ready (rs := [9]) (by kernel_rfl) (by simp) (AllReadyH.cons (by simp only [List.getElem?_toArray, List.getElem?_cons_succ, List.getElem?_cons_zero]; exact rfl) (fun K' hK => ?_) AllReadyH.nil)
                have Sx := HV.out.2.2.1.gr G2
                obtain ⟨r0, r1, r2, rf⟩ := Sx
                have zs : w.heap.size < q2.heap.size := World.block_lt_of_cell? _ _ r0
                go_simp
                (refine hK.out _ _ (three_sz ⟨(G2).keep0 HV.out.1.1, (G2).keep0 HV.out.1.2.1, (G2).keep0 HV.out.1.2.2.1⟩ (by omega)) (fun hHeld => ?_); clear hK K'; try simp only [Act.put, List.setIfInBounds_toArray, List.set_cons_zero, List.set_cons_succ])
                refine wpAnyH_ready (rs := [10]) (by kernel_rfl) (by simp) (AllReadyH.cons (by simp only [List.getElem?_toArray, List.getElem?_cons_succ, List.getElem?_cons_zero]; exact rfl) (fun K' hK => ?_) AllReadyH.nil)
                go_simp
                (refine hK.out _ _ (three_sz ⟨(G2).keep0 HV.out.1.1, (G2).keep0 HV.out.1.2.1, (G2).keep0 HV.out.1.2.2.1⟩ (by omega)) (fun hHeld => ?_); clear hK K'; try simp only [Act.put, List.setIfInBounds_toArray, List.set_cons_zero, List.set_cons_succ])
                refine wpAnyH_done (by kernel_rfl) ?_ _
                go_wp2
                refine bodyPost_ret (v := .tuple #[.agg #[.int .i64 RW, .int .i64 RH, .slice none 0 0], .bool false]) (by simp [results, Tryd.results22, go_sem, r0, r1, r2]) rfl ⟨RW, RH, none, 0, 0, by rw [HBF.out], fun _ => ⟨HWW.out.1.symm, HWW.out.2.symm, ?_⟩, ?_⟩
                · rw [HCC.out]; exact OwnE.mono (OwnB.set3s (OwnE.gr HV.out.2.1 G2) (by omega)) (by omega)
                · exact Below.set3s (HV.out.2.2.2.trans (G2.below.mono HV.out.2.2.2.size)) (Nat.le_refl _)
      · go_simp
        (refine hK.out _ _ (two_kz VV.out (Gr.alloc (Gr.drew (Gr.refl W2)) _).below) (fun hHeld => ?_); clear hK K'; try simp only [Act.put, List.setIfInBounds_toArray, List.set_cons_zero, List.set_cons_succ])
        refine wpAnyH_ready (rs := [3]) (by kernel_rfl) (by simp) (AllReadyH.cons (by simp only [List.getElem?_toArray, List.getElem?_cons_succ, List.getElem?_cons_zero]; exact rfl) (fun K' hK => ?_) AllReadyH.nil)
        go_simp
        (go_at_call_of 43 (Value.string z0); refine (HR0.out _).mono ?_; rintro e x1 ⟨rfl, rfl⟩)
        (refine hK.out _ _ (two_kz VV.out (Gr.alloc (Gr.drew (Gr.refl W2)) _).below) (fun hHeld => ?_); clear hK K'; try simp only [Act.put, List.setIfInBounds_toArray, List.set_cons_zero, List.set_cons_succ])
        refine wpAnyH_ready (rs := [7]) (by kernel_rfl) (by simp) (AllReadyH.cons (by simp only [List.getElem?_toArray, List.getElem?_cons_succ, List.getElem?_cons_zero]; exact rfl) (fun K' hK => ?_) AllReadyH.nil)
        go_simp
        (go_at_call_of 43 (Value.string z1); refine (HR1.out _).mono ?_; rintro e x2 ⟨rfl, rfl⟩)
        (refine hK.out _ _ (two_kz VV.out (Gr.alloc (Gr.drew (Gr.refl W2)) _).below) (fun hHeld => ?_); clear hK K'; try simp only [Act.put, List.setIfInBounds_toArray, List.set_cons_zero, List.set_cons_succ])
        (refine wpAnyH_take (i := 8) (v := ?_) (by simp only [List.getElem?_toArray, List.getElem?_cons_succ, List.getElem?_cons_zero]; exact rfl) (by kernel_rfl) (by kernel_rfl) (by kernel_rfl) (by intro _ _ _ h; exact h) (Or.inl ⟨by rfl, ?_⟩) (by assumption) ?_; rotate_left; (focus (intro w' hSw; (try dsimp only at hSw); go_simp; (try with_reducible rfl))); try simp only [Act.put, List.setIfInBounds_toArray, List.set_cons_zero, List.set_cons_succ])
        refine wpAnyH_ready (rs := [10]) (by kernel_rfl) (by simp) (AllReadyH.cons (by simp only [List.getElem?_toArray, List.getElem?_cons_succ, List.getElem?_cons_zero]; exact rfl) (fun K' hK => ?_) AllReadyH.nil)
        go_simp
        (refine hK.out _ _ (two_kz VV.out (Gr.drew (Gr.alloc (Gr.refl W2) _)).below) (fun hHeld => ?_); clear hK K'; try simp only [Act.put, List.setIfInBounds_toArray, List.set_cons_zero, List.set_cons_succ])
        refine wpAnyH_done (by kernel_rfl) ?_ _
        go_upto_region 8 with fail
        obtain ⟨Z, hZ⟩ : ∃ Z, (W2.alloc (.cells #[.int .i64 RW, .int .i64 RH, .slice none 0 0] 30)).drew = Z := ⟨_, rfl⟩
        rw [hZ]
        have gZ : Gr W2 Z := by rw [← hZ]; exact Gr.drew (Gr.alloc (Gr.refl _) _)
        have C0 : Bz Z W2.heap.size (.int .i64 RW) (.int .i64 RH) (.slice none 0 0) := by rw [← hZ]; exact ⟨by simp [go_sem], by simp [go_sem], by simp [go_sem], fun o => by simp [go_sem]⟩
        have uZ := gZ.keep0 UU.out
        have HV := Lib.hid (And.intro C0 (And.intro (ZZ.out.gr gZ) (BB.out.trans (gZ.below.mono BB.out.size))))
        have hzz : Z.heap.size = W2.heap.size + 1 := by rw [← hZ]; simp
        have HZZ := Lib.hid hzz
        have z7 : (2 : Int) ≤ (c : Int) := z5
        clear hZ gZ C0 hzz HR0 HR1 VV UU ZZ BB
        generalize hNN : W2.heap.size = N at *
        clear hNN
        by_cases hk : 0 < y1.size
        · have d8 : (0 : Int) < (y1.size : Int) := by omega
          have hC := HC3.out
          rw [if_pos hk, if_pos hk] at hC
          have HCQ := Lib.hid hC
          have hp3 := spl_pos 44 y1
          have hl3 := spl_len 44 y1
          generalize spl 44 y1 = xs at *
          clear hC HC3 hk
          go_wp2_with (first | (go_at_call_of 42 (Value.string y1); refine (HS3.out _).mono ?_; rintro e W3 ⟨v3, rfl, ho3, hb3⟩; obtain ⟨g3, c3, rfl, hg3, hc3, hcell3⟩ := ho3.view hp3; have hge := ownS_ge ho3 hp3 rfl; have HC := Lib.hid hcell3; have HV3 := Lib.hid (And.intro (HV.out.1.bel hb3 HV.out.1.lt) (And.intro (HV.out.2.1.bel hb3 HV.out.2.1.lt) (HV.out.2.2.trans (hb3.mono HV.out.2.2.size)))); have z9 := hb3.size; clear ho3 hb3 hcell3))
          have zN : N < g3 := by have := HZZ.out; omega
          have zx : (xs.length : Int) ≤ (c3 : Int) := by omega
          have HLX := Lib.hid (show xs.length ≤ 141 by omega)
          have HX := Lib.hid hc3
          have zM : N < W3.heap.size := by omega
          clear HV hl3 z9 hge
          go_loopw [8, 47] (fun _ i wr => QRel xs w W3 g3 N RW RH i wr) (fun _ i _ => (xs.length - intOf i).toNat)
          case atStart => exact ⟨0, Nat.zero_le _, rfl, fun j hj => absurd hj (Nat.not_lt_zero _), none, 0, OwnE.nil _ _ _ _ _, HV3.out.1, HV3.out.2.1, fun _ => rfl, HV3.out.2.2, Nat.le_refl _⟩
          case round =>
            obtain ⟨k, hk, rfl, hall, A, cq, ho, x1, x2, hcg, hbw, hsz⟩ := hrel
            have z0' : (0 : Int) ≤ (k : Int) := by omega
            have HA := Lib.hid hall
            have HO := Lib.hid ho
            have HX1 := Lib.hid x1
            have HX2 := Lib.hid x2
            have HCG := Lib.hid hcg
            have HBW := Lib.hid hbw
            clear hall ho hcg hbw
            by_cases hlt : k < xs.length
            · obtain ⟨x, hx⟩ : ∃ x, xs[k]? = some x := ⟨xs[k], by simp [hlt]⟩
              have e0 := (HCG.out (0 + k)).trans (HC.out k x hx)
              rw [Nat.zero_add] at e0
              have z1' : (k : Int) < (xs.length : Int) := by omega
              have z2' : (k : Int) < (c3 : Int) := by omega
              have z3' : (xs.length : Int) ≤ 141 := by have := HLX.out; omega
              have HLT := Lib.hid hlt
              by_cases hx3 : x.size = 3
              · have hALL := Lib.hid (show ∀ j, j < k + 1 → ∀ y, xs[j]? = some y → y.size = 3 from fun j hj y hy => by
                    rcases (show j < k ∨ j = k by omega) with q | q
                    · exact HA.out j q y hy
                    · rw [q, hx] at hy; cases hy; exact hx3)
                have hN := Lib.hid (show (xs.take (k + 1)).map mbk = (xs.take k).map mbk ++ [mbk x] by rw [List.take_add_one, hx]; simp)
                obtain ⟨a, b, d, rfl⟩ := three_bytes hx3
                rw [mbk_three] at hN
                have LK := Lib.hid (show ((xs.take k).map mbk).length ≤ 1000000000 by have := HLX.out; simp; omega)
                have ua := a.toNat_lt
                have ud := d.toNat_lt
                have wa : IntKind.i64.wrap (a.toNat : Int) = (a.toNat : Int) := IntWalk.i64_in _ (by omega)
                have wd : IntKind.i64.wrap (d.toNat : Int) = (d.toNat : Int) := IntWalk.i64_in _ (by omega)
                have wa2 : IntKind.i64.wrap ((a.toNat : Int) - 48) = (a.toNat : Int) - 48 := IntWalk.i64_in _ (by omega)
                have wd2 : IntKind.i64.wrap ((d.toNat : Int) - 48) = (d.toNat : Int) - 48 := IntWalk.i64_in _ (by omega)
                have wb := u8_eql b
                clear hx hx3 ua ud
                obtain ⟨n0, n1, n2, nf⟩ := HX1.out
                have nz : N < wr.heap.size := World.block_lt_of_cell? _ _ n0
                go_upto_region 14 with fail
                refine wp_region_held_drew (S := fun _ => True) (by kernel_rfl) trivial (fun hHeld => ?_)
                (refine wpAnyH_take (i := 0) (v := ?_) (by simp only [List.getElem?_toArray, List.getElem?_cons_succ, List.getElem?_cons_zero]; exact rfl) (by kernel_rfl) (by kernel_rfl) (by kernel_rfl) (by intro _ _ _ h; exact h) (Or.inl ⟨by rfl, ?_⟩) (by assumption) ?_; rotate_left; (focus (intro w' hSw; (try dsimp only at hSw); go_simp; (try with_reducible rfl))); try simp only [Act.put, List.setIfInBounds_toArray, List.set_cons_zero, List.set_cons_succ])
                (refine wpAnyH_take (i := 2) (v := ?_) (by simp only [List.getElem?_toArray, List.getElem?_cons_succ, List.getElem?_cons_zero]; exact rfl) (by kernel_rfl) (by kernel_rfl) (by kernel_rfl) (by intro _ _ _ h; exact h) (Or.inl ⟨by rfl, ?_⟩) (by assumption) ?_; rotate_left; (focus (intro w' hSw; (try dsimp only at hSw); go_simp; (try with_reducible rfl))); try simp only [Act.put, List.setIfInBounds_toArray, List.set_cons_zero, List.set_cons_succ])
                (refine wpAnyH_take (i := 3) (v := ?_) (by simp only [List.getElem?_toArray, List.getElem?_cons_succ, List.getElem?_cons_zero]; exact rfl) (by kernel_rfl) (by kernel_rfl) (by kernel_rfl) (by intro _ _ _ h; exact h) (Or.inl ⟨by rfl, ?_⟩) (by assumption) ?_; rotate_left; (focus (intro w' hSw; (try dsimp only at hSw); go_simp; (try with_reducible rfl))); try simp only [Act.put, List.setIfInBounds_toArray, List.set_cons_zero, List.set_cons_succ])
                (refine wpAnyH_take (i := 4) (v := ?_) (by simp only [List.getElem?_toArray, List.getElem?_cons_succ, List.getElem?_cons_zero]; exact rfl) (by kernel_rfl) (by kernel_rfl) (by kernel_rfl) (by intro _ _ _ h; exact h) (Or.inl ⟨by rfl, ?_⟩) (by assumption) ?_; rotate_left; (focus (intro w' hSw; (try dsimp only at hSw); go_simp; (try with_reducible rfl))); try simp only [Act.put, List.setIfInBounds_toArray, List.set_cons_zero, List.set_cons_succ])
                (refine wpAnyH_take (i := 5) (v := ?_) (by simp only [List.getElem?_toArray, List.getElem?_cons_succ, List.getElem?_cons_zero]; exact rfl) (by kernel_rfl) (by kernel_rfl) (by kernel_rfl) (by intro _ _ _ h; exact h) (Or.inl ⟨by rfl, ?_⟩) (by assumption) ?_; rotate_left; (focus (intro w' hSw; (try dsimp only at hSw); go_simp; (try with_reducible rfl))); try simp only [Act.put, List.setIfInBounds_toArray, List.set_cons_zero, List.set_cons_succ])
                (refine wpAnyH_take (i := 6) (v := ?_) (by simp only [List.getElem?_toArray, List.getElem?_cons_succ, List.getElem?_cons_zero]; exact rfl) (by kernel_rfl) (by kernel_rfl) (by kernel_rfl) (by intro _ _ _ h; exact h) (Or.inl ⟨by rfl, ?_⟩) (by assumption) ?_; rotate_left; (focus (intro w' hSw; (try dsimp only at hSw); go_simp; (try with_reducible rfl))); try simp only [Act.put, List.setIfInBounds_toArray, List.set_cons_zero, List.set_cons_succ])
                (refine wpAnyH_take (i := 7) (v := ?_) (by simp only [List.getElem?_toArray, List.getElem?_cons_succ, List.getElem?_cons_zero]; exact rfl) (by kernel_rfl) (by kernel_rfl) (by kernel_rfl) (by intro _ _ _ h; exact h) (Or.inl ⟨by rfl, ?_⟩) (by assumption) ?_; rotate_left; (focus (intro w' hSw; (try dsimp only at hSw); go_simp; (try with_reducible rfl))); try simp only [Act.put, List.setIfInBounds_toArray, List.set_cons_zero, List.set_cons_succ])
                (refine wpAnyH_take (i := 8) (v := ?_) (by simp only [List.getElem?_toArray, List.getElem?_cons_succ, List.getElem?_cons_zero]; exact rfl) (by kernel_rfl) (by kernel_rfl) (by kernel_rfl) (by intro _ _ _ h; exact h) (Or.inl ⟨by rfl, ?_⟩) (by assumption) ?_; rotate_left; (focus (intro w' hSw; (try dsimp only at hSw); go_simp; (try with_reducible rfl))); try simp only [Act.put, List.setIfInBounds_toArray, List.set_cons_zero, List.set_cons_succ])
                (refine wpAnyH_take (i := 9) (v := ?_) (by simp only [List.getElem?_toArray, List.getElem?_cons_succ, List.getElem?_cons_zero]; exact rfl) (by kernel_rfl) (by kernel_rfl) (by kernel_rfl) (by intro _ _ _ h; exact h) (Or.inl ⟨by rfl, ?_⟩) (by assumption) ?_; rotate_left; (focus (intro w' hSw; (try dsimp only at hSw); go_simp; (try with_reducible rfl))); try simp only [Act.put, List.setIfInBounds_toArray, List.set_cons_zero, List.set_cons_succ])
                (refine wpAnyH_take (i := 10) (v := ?_) (by simp only [List.getElem?_toArray, List.getElem?_cons_succ, List.getElem?_cons_zero]; exact rfl) (by kernel_rfl) (by kernel_rfl) (by kernel_rfl) (by intro _ _ _ h; exact h) (Or.inl ⟨by rfl, ?_⟩) (by assumption) ?_; rotate_left; (focus (intro w' hSw; (try dsimp only at hSw); go_simp; (try with_reducible rfl))); try simp only [Act.put, List.setIfInBounds_toArray, List.set_cons_zero, List.set_cons_succ])
                (refine wpAnyH_take (i := 11) (v := ?_) (by simp only [List.getElem?_toArray, List.getElem?_cons_succ, List.getElem?_cons_zero]; exact rfl) (by kernel_rfl) (by kernel_rfl) (by kernel_rfl) (by intro _ _ _ h; exact h) (Or.inl ⟨by rfl, ?_⟩) (by assumption) ?_; rotate_left; (focus (intro w' hSw; (try dsimp only at hSw); go_simp; (try with_reducible rfl))); try simp only [Act.put, List.setIfInBounds_toArray, List.set_cons_zero, List.set_cons_succ])
                (refine wpAnyH_take (i := 12) (v := ?_) (by simp only [List.getElem?_toArray, List.getElem?_cons_succ, List.getElem?_cons_zero]; exact rfl) (by kernel_rfl) (by kernel_rfl) (by kernel_rfl) (by intro _ _ _ h; exact h) (Or.inl ⟨by rfl, ?_⟩) (by assumption) ?_; rotate_left; (focus (intro w' hSw; (try dsimp only at hSw); go_simp; (try with_reducible rfl))); try simp only [Act.put, List.setIfInBounds_toArray, List.set_cons_zero, List.set_cons_succ])
                (refine wpAnyH_take (i := 13) (v := ?_) (by simp only [List.getElem?_toArray, List.getElem?_cons_succ, List.getElem?_cons_zero]; exact rfl) (by kernel_rfl) (by kernel_rfl) (by kernel_rfl) (by intro _ _ _ h; exact h) (Or.inl ⟨by rfl, ?_⟩) (by assumption) ?_; rotate_left; (focus (intro w' hSw; (try dsimp only at hSw); go_simp; (try with_reducible rfl))); try simp only [Act.put, List.setIfInBounds_toArray, List.set_cons_zero, List.set_cons_succ])
                refine wpAnyH_ready (rs := [1, 14]) (by kernel_rfl) (by simp) (AllReadyH.cons (by simp only [List.getElem?_toArray, List.getElem?_cons_succ, List.getElem?_cons_zero]; exact rfl) (fun K' hK => ?_) (AllReadyH.cons (by simp only [List.getElem?_toArray, List.getElem?_cons_succ, List.getElem?_cons_zero]; exact rfl) (fun K' hK => ?_) AllReadyH.nil))
                · go_simp
                  (refine hK.out _ _ (trivial) (fun hHeld => ?_); clear hK K'; try simp only [Act.put, List.setIfInBounds_toArray, List.set_cons_zero, List.set_cons_succ])
                  refine wpAnyH_ready (rs := [14]) (by kernel_rfl) (by simp) (AllReadyH.cons (by simp only [List.getElem?_toArray, List.getElem?_cons_succ, List.getElem?_cons_zero]; exact rfl) (fun K' hK => ?_) AllReadyH.nil)
                  go_simp
                  (refine hK.out _ _ (trivial) (fun hHeld => ?_); clear hK K'; try simp only [Act.put, List.setIfInBounds_toArray, List.set_cons_zero, List.set_cons_succ])
                  refine wpAnyH_ready (rs := [15]) (by kernel_rfl) (by simp) (AllReadyH.cons (by simp only [List.getElem?_toArray, List.getElem?_cons_succ, List.getElem?_cons_zero]; exact rfl) (fun K' hK => ?_) AllReadyH.nil)
                  refine step_appE bcs_len bcs_one rfl (.tmp 56) (.tmp 69) 28 rfl 44 Tryd.underlying28 Tryd.infoB rfl (by decide) (by decide) W3.heap.size _ _ rfl (OwnE.gr HO.out (Gr.alloc (Gr.drew (Gr.refl wr)) _)) ⟨wr.heap.size, 0, none⟩ 1 1 [((a.toNat : Int) - 48, (d.toNat : Int) - 48, b == 124)] rfl rfl (fun j u hu => alloc_cells (by show ([Value.int .i64 (IntKind.i64.wrap (IntKind.i64.wrap (a.toNat : Int) - 48)), Value.int .i64 (IntKind.i64.wrap (IntKind.i64.wrap (d.toNat : Int) - 48)), Value.bool ((b.toNat : Int) == 124)] : List Value)[j]? = some u; rw [wa, wa2, wd, wd2, wb]; simpa [ecs, bcs] using hu)) LK.out (by simp) (by simp; omega) ?_; intro v4 w4 ho4 hb4 gb4 _; rw [← hN.out] at ho4; obtain ⟨A5, c5, rfl, ho4⟩ := OwnE.eta ho4; rw [List.length_map, List.length_take, Nat.min_eq_left (show k + 1 ≤ xs.length by omega)] at ho4 ⊢
                  have bz : Below W3.heap.size wr w4 := ((Gr.alloc (Gr.drew (Gr.refl wr)) _).below.mono hsz).trans hb4
                  have X4 := Lib.hid (And.intro (HX1.out.bel bz zM) (HX2.out.bel bz (Nat.lt_trans s2 zM)))
                  obtain ⟨m0, m1, p4, f4⟩ := X4.out.1
                  have O4 := Lib.hid ho4
                  have BZ := Lib.hid bz
                  clear ho4 hb4 gb4 bz
                  (refine hK.out _ _ (trivial) (fun hHeld => ?_); clear hK K'; try simp only [Act.put, List.setIfInBounds_toArray, List.set_cons_zero, List.set_cons_succ])
                  refine wpAnyH_ready (rs := [16]) (by kernel_rfl) (by simp) (AllReadyH.cons (by simp only [List.getElem?_toArray, List.getElem?_cons_succ, List.getElem?_cons_zero]; exact rfl) (fun K' hK => ?_) AllReadyH.nil)
                  go_simp
                  (refine hK.out _ _ (trivial) (fun hHeld => ?_); clear hK K'; try simp only [Act.put, List.setIfInBounds_toArray, List.set_cons_zero, List.set_cons_succ])
                  refine wpAnyH_ready (rs := [17]) (by kernel_rfl) (by simp) (AllReadyH.cons (by simp only [List.getElem?_toArray, List.getElem?_cons_succ, List.getElem?_cons_zero]; exact rfl) (fun K' hK => ?_) AllReadyH.nil)
                  go_simp
                  (refine hK.out _ _ (trivial) (fun hHeld => ?_); clear hK K'; try simp only [Act.put, List.setIfInBounds_toArray, List.set_cons_zero, List.set_cons_succ])
                  refine wpAnyH_done (by kernel_rfl) ?_ _
                  go_wp2
                  go_roundw
                  case rel => exact ⟨k + 1, HLT.out, by go_num, hALL.out, A5, c5, OwnE.setOther (a := ⟨N, 2, none⟩) O4.out zM _, Bz.own2 X4.out.1, Bz.set1 X4.out.2 (by omega) _, fun o => (World.cell?_setCell_other _ _ _ _ (by intro e; cases e; omega)).trans ((BZ.out.cell (p := ⟨g3, o, none⟩) hg3).trans (HCG.out o)), (HBW.out.trans (BZ.out.mono (by omega))).setCell (by simp; omega) _, by have := BZ.out.size; simp; omega⟩
                  case measure => have := HLT.out; have := HLX.out; simp [intOf]; omega
                · go_simp
                  (refine hK.out _ _ (trivial) (fun hHeld => ?_); clear hK K'; try simp only [Act.put, List.setIfInBounds_toArray, List.set_cons_zero, List.set_cons_succ])
                  refine wpAnyH_ready (rs := [1]) (by kernel_rfl) (by simp) (AllReadyH.cons (by simp only [List.getElem?_toArray, List.getElem?_cons_succ, List.getElem?_cons_zero]; exact rfl) (fun K' hK => ?_) AllReadyH.nil)
                  go_simp
                  (refine hK.out _ _ (trivial) (fun hHeld => ?_); clear hK K'; try simp only [Act.put, List.setIfInBounds_toArray, List.set_cons_zero, List.set_cons_succ])
                  refine wpAnyH_ready (rs := [15]) (by kernel_rfl) (by simp) (AllReadyH.cons (by simp only [List.getElem?_toArray, List.getElem?_cons_succ, List.getElem?_cons_zero]; exact rfl) (fun K' hK => ?_) AllReadyH.nil)
                  refine step_appE bcs_len bcs_one rfl (.tmp 56) (.tmp 69) 28 rfl 44 Tryd.underlying28 Tryd.infoB rfl (by decide) (by decide) W3.heap.size _ _ rfl (OwnE.gr HO.out (Gr.alloc (Gr.drew (Gr.refl wr)) _)) ⟨wr.heap.size, 0, none⟩ 1 1 [((a.toNat : Int) - 48, (d.toNat : Int) - 48, b == 124)] rfl rfl (fun j u hu => alloc_cells (by show ([Value.int .i64 (IntKind.i64.wrap (IntKind.i64.wrap (a.toNat : Int) - 48)), Value.int .i64 (IntKind.i64.wrap (IntKind.i64.wrap (d.toNat : Int) - 48)), Value.bool ((b.toNat : Int) == 124)] : List Value)[j]? = some u; rw [wa, wa2, wd, wd2, wb]; simpa [ecs, bcs] using hu)) LK.out (by simp) (by simp; omega) ?_; intro v4 w4 ho4 hb4 gb4 _; rw [← hN.out] at ho4; obtain ⟨A5, c5, rfl, ho4⟩ := OwnE.eta ho4; rw [List.length_map, List.length_take, Nat.min_eq_left (show k + 1 ≤ xs.length by omega)] at ho4 ⊢
                  have bz : Below W3.heap.size wr w4 := ((Gr.alloc (Gr.drew (Gr.refl wr)) _).below.mono hsz).trans hb4
                  have X4 := Lib.hid (And.intro (HX1.out.bel bz zM) (HX2.out.bel bz (Nat.lt_trans s2 zM)))
                  obtain ⟨m0, m1, p4, f4⟩ := X4.out.1
                  have O4 := Lib.hid ho4
                  have BZ := Lib.hid bz
                  clear ho4 hb4 gb4 bz
                  (refine hK.out _ _ (trivial) (fun hHeld => ?_); clear hK K'; try simp only [Act.put, List.setIfInBounds_toArray, List.set_cons_zero, List.set_cons_succ])
                  refine wpAnyH_ready (rs := [16]) (by kernel_rfl) (by simp) (AllReadyH.cons (by simp only [List.getElem?_toArray, List.getElem?_cons_succ, List.getElem?_cons_zero]; exact rfl) (fun K' hK => ?_) AllReadyH.nil)
                  go_simp
                  (refine hK.out _ _ (trivial) (fun hHeld => ?_); clear hK K'; try simp only [Act.put, List.setIfInBounds_toArray, List.set_cons_zero, List.set_cons_succ])
                  refine wpAnyH_ready (rs := [17]) (by kernel_rfl) (by simp) (AllReadyH.cons (by simp only [List.getElem?_toArray, List.getElem?_cons_succ, List.getElem?_cons_zero]; exact rfl) (fun K' hK => ?_) AllReadyH.nil)
                  go_simp
                  (refine hK.out _ _ (trivial) (fun hHeld => ?_); clear hK K'; try simp only [Act.put, List.setIfInBounds_toArray, List.set_cons_zero, List.set_cons_succ])
                  refine wpAnyH_done (by kernel_rfl) ?_ _
                  go_wp2
                  go_roundw
                  case rel => exact ⟨k + 1, HLT.out, by go_num, hALL.out, A5, c5, OwnE.setOther (a := ⟨N, 2, none⟩) O4.out zM _, Bz.own2 X4.out.1, Bz.set1 X4.out.2 (by omega) _, fun o => (World.cell?_setCell_other _ _ _ _ (by intro e; cases e; omega)).trans ((BZ.out.cell (p := ⟨g3, o, none⟩) hg3).trans (HCG.out o)), (HBW.out.trans (BZ.out.mono (by omega))).setCell (by simp; omega) _, by have := BZ.out.size; simp; omega⟩
                  case measure => have := HLT.out; have := HLX.out; simp [intOf]; omega
              · have HBF := Lib.hid (show pcB t = false by
                    rw [HB.out, HCQ.out.2, show xs.all (fun x => x.size == 3) = false from List.all_eq_false.2 ⟨x, List.mem_of_getElem? hx, by simpa using hx3⟩]; rfl)
                have d2 : ¬ (x.size : Int) = 3 := by omega
                have d3 : ((x.size : Int) == 3) = false := by simpa using d2
                have d4 : ((x.size : Int) != 3) = true := by simpa using d2
                obtain ⟨r0, r1, r2, rf⟩ := HX2.out
                go_wp2
                refine bodyPost_ret (v := .tuple #[.agg #[.int .i64 0, .int .i64 0, .slice none 0 0], .bool false]) (by simp [results, Tryd.results22, go_sem, r0, r1, r2]) rfl ⟨0, 0, none, 0, 0, by rw [HBF.out], fun q => absurd (HBF.out.symm.trans q) (by decide), ?_⟩
                exact Below.set3s HBW.out (Nat.le_refl _)
            · obtain rfl : k = xs.length := by omega
              have z1' : ¬ ((xs.length : Int) < (xs.length : Int)) := by omega
              have ho := HO.out
              rw [List.take_length] at ho
              have hall : xs.all (fun x => x.size == 3) = true := by
                rw [List.all_eq_true]
                intro x hx
                obtain ⟨j, hj, rfl⟩ := List.getElem_of_mem hx
                have := HA.out j hj xs[j] (by simp [hj])
                simp [this]
              have HCC := Lib.hid HCQ.out.1
              have HQ := Lib.hid (show pcB t = (okB RW RH (xs.map mbk) && decide (CtT RW RH (xs.map mbk) = t)) by rw [HB.out, HCQ.out.2, hall, HCQ.out.1]; rfl)
              have HL := Lib.hid (show (xs.map mbk).length ≤ 1048576 by have := HLX.out; simp; omega)
              have HV := Lib.hid (And.intro HX1.out (And.intro (OwnE.mono ho (show N + 1 ≤ W3.heap.size from zM)) (And.intro HX2.out HBW.out)))
              clear ho hall HB HO HCQ x1 x2
              generalize xs.map mbk = cs at *
              go_upto_region 16 with fail
              cases hok : okB RW RH cs
              · have HGD := Lib.hid (fun (X : World) (g : Gr wr X) => Tryd.avGood X RW RH (N + 1) _ cs _ hok HL.out (OwnE.gr HV.out.2.1 g))
                have HBF := Lib.hid (show pcB t = false by rw [HQ.out, hok]; rfl)
                clear hok
                refine wp_region_held_drew (S := fun W' => W'.cell? ⟨N, 0, none⟩ = some (.int .i64 RW) ∧ W'.cell? ⟨N, 1, none⟩ = some (.int .i64 RH) ∧ W'.cell? ⟨N, 2, none⟩ = some (.slice A xs.length cq)) (by kernel_rfl) (three_kz ⟨HV.out.1.1, HV.out.1.2.1, HV.out.1.2.2.1⟩ (Below.drew (Below.refl _ _))) (fun hHeld => ?_)
                (refine wpAnyH_take (i := 0) (v := ?_) (by simp only [List.getElem?_toArray, List.getElem?_cons_succ, List.getElem?_cons_zero]; exact rfl) (by kernel_rfl) (by kernel_rfl) (by kernel_rfl) (by intro _ _ _ h; exact h) (Or.inl ⟨by rfl, ?_⟩) (by assumption) ?_; rotate_left; (focus (intro w' hSw; (try dsimp only at hSw); go_simp; (try with_reducible rfl))); try simp only [Act.put, List.setIfInBounds_toArray, List.set_cons_zero, List.set_cons_succ])
                (refine wpAnyH_take (i := 1) (v := ?_) (by simp only [List.getElem?_toArray, List.getElem?_cons_succ, List.getElem?_cons_zero]; exact rfl) (by kernel_rfl) (by kernel_rfl) (by kernel_rfl) (by intro _ _ _ h; exact h) (Or.inl ⟨by rfl, ?_⟩) (by assumption) ?_; rotate_left; (focus (intro w' hSw; (try dsimp only at hSw); go_simp; (try with_reducible rfl))); try simp only [Act.put, List.setIfInBounds_toArray, List.set_cons_zero, List.set_cons_succ])
                refine wpAnyH_ready (rs := [2]) (by kernel_rfl) (by simp) (AllReadyH.cons (by simp only [List.getElem?_toArray, List.getElem?_cons_succ, List.getElem?_cons_zero]; exact rfl) (fun K' hK => ?_) AllReadyH.nil)
                go_simp
                (go_at_call 15; refine (HGD.out _ (Gr.drew (Gr.refl wr))).mono ?_; rintro e q1 ⟨rfl, g1⟩)
                have G1 : Gr wr q1 := (Gr.drew (Gr.refl _)).trans g1
                (refine hK.out _ _ (three_kz ⟨HV.out.1.1, HV.out.1.2.1, HV.out.1.2.2.1⟩ G1.below) (fun hHeld => ?_); clear hK K'; try simp only [Act.put, List.setIfInBounds_toArray, List.set_cons_zero, List.set_cons_succ])
                (refine wpAnyH_take (i := 3) (v := ?_) (by simp only [List.getElem?_toArray, List.getElem?_cons_succ, List.getElem?_cons_zero]; exact rfl) (by kernel_rfl) (by kernel_rfl) (by kernel_rfl) (by intro _ _ _ h; exact h) (Or.inl ⟨by rfl, ?_⟩) (by assumption) ?_; rotate_left; (focus (intro w' hSw; (try dsimp only at hSw); go_simp; (try with_reducible rfl))); try simp only [Act.put, List.setIfInBounds_toArray, List.set_cons_zero, List.set_cons_succ])
                (refine wpAnyH_take (i := 4) (v := undef) (by simp only [List.getElem?_toArray, List.getElem?_cons_succ, List.getElem?_cons_zero]; exact rfl) (by kernel_rfl) (by kernel_rfl) (by kernel_rfl) (by intro _ _ _ h; exact h) (Or.inr ⟨by rfl, rfl⟩) (by assumption) ?_; try simp only [Act.put, List.setIfInBounds_toArray, List.set_cons_zero, List.set_cons_succ])
                (refine wpAnyH_take (i := 5) (v := undef) (by simp only [List.getElem?_toArray, List.getElem?_cons_succ, List.getElem?_cons_zero]; exact rfl) (by kernel_rfl) (by kernel_rfl) (by kernel_rfl) (by intro _ _ _ h; exact h) (Or.inr ⟨by rfl, rfl⟩) (by assumption) ?_; try simp only [Act.put, List.setIfInBounds_toArray, List.set_cons_zero, List.set_cons_succ])
                (refine wpAnyH_take (i := 6) (v := undef) (by simp only [List.getElem?_toArray, List.getElem?_cons_succ, List.getElem?_cons_zero]; exact rfl) (by kernel_rfl) (by kernel_rfl) (by kernel_rfl) (by intro _ _ _ h; exact h) (Or.inr ⟨by rfl, rfl⟩) (by assumption) ?_; try simp only [Act.put, List.setIfInBounds_toArray, List.set_cons_zero, List.set_cons_succ])
                (refine wpAnyH_take (i := 7) (v := undef) (by simp only [List.getElem?_toArray, List.getElem?_cons_succ, List.getElem?_cons_zero]; exact rfl) (by kernel_rfl) (by kernel_rfl) (by kernel_rfl) (by intro _ _ _ h; exact h) (Or.inr ⟨by rfl, rfl⟩) (by assumption) ?_; try simp only [Act.put, List.setIfInBounds_toArray, List.set_cons_zero, List.set_cons_succ])
                (refine wpAnyH_take (i := 8) (v := ?_) (by simp only [List.getElem?_toArray, List.getElem?_cons_succ, List.getElem?_cons_zero]; exact rfl) (by kernel_rfl) (by kernel_rfl) (by kernel_rfl) (by intro _ _ _ h; exact h) (Or.inl ⟨by rfl, ?_⟩) (by assumption) ?_; rotate_left; (focus (intro w' hSw; (try dsimp only at hSw); go_simp; (try with_reducible rfl))); try simp only [Act.put, List.setIfInBounds_toArray, List.set_cons_zero, List.set_cons_succ])
                refine wpAnyH_ready (rs := [9]) (by kernel_rfl) (by simp) (AllReadyH.cons (by simp only [List.getElem?_toArray, List.getElem?_cons_succ, List.getElem?_cons_zero]; exact rfl) (fun K' hK => ?_) AllReadyH.nil)
                have Sx := HV.out.2.2.1.gr G1
                obtain ⟨r0, r1, r2, rf⟩ := Sx
                have zs : w.heap.size < q1.heap.size := World.block_lt_of_cell? _ _ r0
                go_simp
                (refine hK.out _ _ (three_sz ⟨(G1).keep0 HV.out.1.1, (G1).keep0 HV.out.1.2.1, (G1).keep0 HV.out.1.2.2.1⟩ (by omega)) (fun hHeld => ?_); clear hK K'; try simp only [Act.put, List.setIfInBounds_toArray, List.set_cons_zero, List.set_cons_succ])
                refine wpAnyH_ready (rs := [10]) (by kernel_rfl) (by simp) (AllReadyH.cons (by simp only [List.getElem?_toArray, List.getElem?_cons_succ, List.getElem?_cons_zero]; exact rfl) (fun K' hK => ?_) AllReadyH.nil)
                go_simp
                (refine hK.out _ _ (three_sz ⟨(G1).keep0 HV.out.1.1, (G1).keep0 HV.out.1.2.1, (G1).keep0 HV.out.1.2.2.1⟩ (by omega)) (fun hHeld => ?_); clear hK K'; try simp only [Act.put, List.setIfInBounds_toArray, List.set_cons_zero, List.set_cons_succ])
                refine wpAnyH_done (by kernel_rfl) ?_ _
                go_wp2
                refine bodyPost_ret (v := .tuple #[.agg #[.int .i64 RW, .int .i64 RH, .slice A xs.length cq], .bool false]) (by simp [results, Tryd.results22, go_sem, r0, r1, r2]) rfl ⟨RW, RH, A, xs.length, cq, by rw [HBF.out], fun _ => ⟨HWW.out.1.symm, HWW.out.2.symm, ?_⟩, ?_⟩
                · rw [HCC.out]; exact OwnE.mono (OwnB.set3s (OwnE.gr HV.out.2.1 G1) (by omega)) (by omega)
                · exact Below.set3s (HV.out.2.2.2.trans (G1.below.mono HV.out.2.2.2.size)) (Nat.le_refl _)
              · have HGD := Lib.hid (fun (X : World) (g : Gr wr X) => Tryd.avGood X RW RH (N + 1) _ cs _ hok HL.out (OwnE.gr HV.out.2.1 g))
                have HTX := Lib.hid (fun (X : World) (g : Gr wr X) => Tryd.avText X RW RH (N + 1) _ cs hok (OwnE.gr HV.out.2.1 g))
                rw [show (hdC RW RH ++ ⟨(jtK cs).toArray⟩ : ByteArray) = CtT RW RH cs from rfl] at HTX
                by_cases hT : CtT RW RH cs = t
                · have HBF := Lib.hid (show pcB t = true by rw [HQ.out, hok, decide_eq_true hT]; rfl)
                  rw [hT] at HTX
                  clear hok hT
                  refine wp_region_held_drew (S := fun W' => W'.cell? ⟨N, 0, none⟩ = some (.int .i64 RW) ∧ W'.cell? ⟨N, 1, none⟩ = some (.int .i64 RH) ∧ W'.cell? ⟨N, 2, none⟩ = some (.slice A xs.length cq)) (by kernel_rfl) (three_kz ⟨HV.out.1.1, HV.out.1.2.1, HV.out.1.2.2.1⟩ (Below.drew (Below.refl _ _))) (fun hHeld => ?_)
                  (refine wpAnyH_take (i := 0) (v := ?_) (by simp only [List.getElem?_toArray, List.getElem?_cons_succ, List.getElem?_cons_zero]; exact rfl) (by kernel_rfl) (by kernel_rfl) (by kernel_rfl) (by intro _ _ _ h; exact h) (Or.inl ⟨by rfl, ?_⟩) (by assumption) ?_; rotate_left; (focus (intro w' hSw; (try dsimp only at hSw); go_simp; (try with_reducible rfl))); try simp only [Act.put, List.setIfInBounds_toArray, List.set_cons_zero, List.set_cons_succ])
                  (refine wpAnyH_take (i := 1) (v := ?_) (by simp only [List.getElem?_toArray, List.getElem?_cons_succ, List.getElem?_cons_zero]; exact rfl) (by kernel_rfl) (by kernel_rfl) (by kernel_rfl) (by intro _ _ _ h; exact h) (Or.inl ⟨by rfl, ?_⟩) (by assumption) ?_; rotate_left; (focus (intro w' hSw; (try dsimp only at hSw); go_simp; (try with_reducible rfl))); try simp only [Act.put, List.setIfInBounds_toArray, List.set_cons_zero, List.set_cons_succ])
                  refine wpAnyH_ready (rs := [2]) (by kernel_rfl) (by simp) (AllReadyH.cons (by simp only [List.getElem?_toArray, List.getElem?_cons_succ, List.getElem?_cons_zero]; exact rfl) (fun K' hK => ?_) AllReadyH.nil)
                  go_simp
                  (go_at_call 15; refine (HGD.out _ (Gr.drew (Gr.refl wr))).mono ?_; rintro e q1 ⟨rfl, g1⟩)
                  have G1 : Gr wr q1 := (Gr.drew (Gr.refl _)).trans g1
                  (refine hK.out _ _ (three_kz ⟨HV.out.1.1, HV.out.1.2.1, HV.out.1.2.2.1⟩ G1.below) (fun hHeld => ?_); clear hK K'; try simp only [Act.put, List.setIfInBounds_toArray, List.set_cons_zero, List.set_cons_succ])
                  (refine wpAnyH_take (i := 3) (v := ?_) (by simp only [List.getElem?_toArray, List.getElem?_cons_succ, List.getElem?_cons_zero]; exact rfl) (by kernel_rfl) (by kernel_rfl) (by kernel_rfl) (by intro _ _ _ h; exact h) (Or.inl ⟨by rfl, ?_⟩) (by assumption) ?_; rotate_left; (focus (intro w' hSw; (try dsimp only at hSw); go_simp; (try with_reducible rfl))); try simp only [Act.put, List.setIfInBounds_toArray, List.set_cons_zero, List.set_cons_succ])
                  (refine wpAnyH_take (i := 4) (v := ?_) (by simp only [List.getElem?_toArray, List.getElem?_cons_succ, List.getElem?_cons_zero]; exact rfl) (by kernel_rfl) (by kernel_rfl) (by kernel_rfl) (by intro _ _ _ h; exact h) (Or.inl ⟨by rfl, ?_⟩) (by assumption) ?_; rotate_left; (focus (intro w' hSw; (try dsimp only at hSw); go_simp; (try with_reducible rfl))); try simp only [Act.put, List.setIfInBounds_toArray, List.set_cons_zero, List.set_cons_succ])
                  (refine wpAnyH_take (i := 6) (v := ?_) (by simp only [List.getElem?_toArray, List.getElem?_cons_succ, List.getElem?_cons_zero]; exact rfl) (by kernel_rfl) (by kernel_rfl) (by kernel_rfl) (by intro _ _ _ h; exact h) (Or.inl ⟨by rfl, ?_⟩) (by assumption) ?_; rotate_left; (focus (intro w' hSw; (try dsimp only at hSw); go_simp; (try with_reducible rfl))); try simp only [Act.put, List.setIfInBounds_toArray, List.set_cons_zero, List.set_cons_succ])
                  refine wpAnyH_ready (rs := [5]) (by kernel_rfl) (by simp) (AllReadyH.cons (by simp only [List.getElem?_toArray, List.getElem?_cons_succ, List.getElem?_cons_zero]; exact rfl) (fun K' hK => ?_) AllReadyH.nil)
                  go_simp
                  (go_at_call 16; refine (HTX.out _ G1).mono ?_; rintro e q2 ⟨rfl, g2⟩)
                  have G2 : Gr wr q2 := G1.trans g2
                  (refine hK.out _ _ (three_kz ⟨HV.out.1.1, HV.out.1.2.1, HV.out.1.2.2.1⟩ G2.below) (fun hHeld => ?_); clear hK K'; try simp only [Act.put, List.setIfInBounds_toArray, List.set_cons_zero, List.set_cons_succ])
                  (refine wpAnyH_take (i := 7) (v := ?_) (by simp only [List.getElem?_toArray, List.getElem?_cons_succ, List.getElem?_cons_zero]; exact rfl) (by kernel_rfl) (by kernel_rfl) (by kernel_rfl) (by intro _ _ _ h; exact h) (Or.inl ⟨by rfl, ?_⟩) (by assumption) ?_; rotate_left; (focus (intro w' hSw; (try dsimp only at hSw); go_simp; (try with_reducible rfl))); try simp only [Act.put, List.setIfInBounds_toArray, List.set_cons_zero, List.set_cons_succ])
                  (refine wpAnyH_take (i := 8) (v := ?_) (by simp only [List.getElem?_toArray, List.getElem?_cons_succ, List.getElem?_cons_zero]; exact rfl) (by kernel_rfl) (by kernel_rfl) (by kernel_rfl) (by intro _ _ _ h; exact h) (Or.inl ⟨by rfl, ?_⟩) (by assumption) ?_; rotate_left; (focus (intro w' hSw; (try dsimp only at hSw); go_simp; (try with_reducible rfl))); try simp only [Act.put, List.setIfInBounds_toArray, List.set_cons_zero, List.set_cons_succ])
                  refine wpAnyH_ready (rs := [9]) (by kernel_rfl) (by simp) (AllReadyH.cons (by simp only [List.getElem?_toArray, List.getElem?_cons_succ, List.getElem?_cons_zero]; exact rfl) (fun K' hK => ?_) AllReadyH.nil)
                  have Sx := HV.out.2.2.1.gr G2
                  obtain ⟨r0, r1, r2, rf⟩ := Sx
                  have zs : w.heap.size < q2.heap.size := World.block_lt_of_cell? _ _ r0
                  go_simp
                  (refine hK.out _ _ (three_sz ⟨(G2).keep0 HV.out.1.1, (G2).keep0 HV.out.1.2.1, (G2).keep0 HV.out.1.2.2.1⟩ (by omega)) (fun hHeld => ?_); clear hK K'; try simp only [Act.put, List.setIfInBounds_toArray, List.set_cons_zero, List.set_cons_succ])
                  refine wpAnyH_ready (rs := [10]) (by kernel_rfl) (by simp) (AllReadyH.cons (by simp only [List.getElem?_toArray, List.getElem?_cons_succ, List.getElem?_cons_zero]; exact rfl) (fun K' hK => ?_) AllReadyH.nil)
                  go_simp
                  (refine hK.out _ _ (three_sz ⟨(G2).keep0 HV.out.1.1, (G2).keep0 HV.out.1.2.1, (G2).keep0 HV.out.1.2.2.1⟩ (by omega)) (fun hHeld => ?_); clear hK K'; try simp only [Act.put, List.setIfInBounds_toArray, List.set_cons_zero, List.set_cons_succ])
                  refine wpAnyH_done (by kernel_rfl) ?_ _
                  go_wp2
                  refine bodyPost_ret (v := .tuple #[.agg #[.int .i64 RW, .int .i64 RH, .slice A xs.length cq], .bool true]) (by simp [results, Tryd.results22, go_sem, r0, r1, r2]) rfl ⟨RW, RH, A, xs.length, cq, by rw [HBF.out], fun _ => ⟨HWW.out.1.symm, HWW.out.2.symm, ?_⟩, ?_⟩
                  · rw [HCC.out]; exact OwnE.mono (OwnB.set3s (OwnE.gr HV.out.2.1 G2) (by omega)) (by omega)
                  · exact Below.set3s (HV.out.2.2.2.trans (G2.below.mono HV.out.2.2.2.size)) (Nat.le_refl _)
                · have HBF := Lib.hid (show pcB t = false by rw [HQ.out, hok, decide_eq_false hT]; rfl)
                  have d9 : ((CtT RW RH cs).toList == t.toList) = false := ne_txt hT
                  generalize CtT RW RH cs = TT at *
                  clear hok hT
                  refine wp_region_held_drew (S := fun W' => W'.cell? ⟨N, 0, none⟩ = some (.int .i64 RW) ∧ W'.cell? ⟨N, 1, none⟩ = some (.int .i64 RH) ∧ W'.cell? ⟨N, 2, none⟩ = some (.slice A xs.length cq)) (by kernel_rfl) (three_kz ⟨HV.out.1.1, HV.out.1.2.1, HV.out.1.2.2.1⟩ (Below.drew (Below.refl _ _))) (fun hHeld => ?_)
                  (refine wpAnyH_take (i := 0) (v := ?_) (by simp only [List.getElem?_toArray, List.getElem?_cons_succ, List.getElem?_cons_zero]; exact rfl) (by kernel_rfl) (by kernel_rfl) (by kernel_rfl) (by intro _ _ _ h; exact h) (Or.inl ⟨by rfl, ?_⟩) (by assumption) ?_; rotate_left; (focus (intro w' hSw; (try dsimp only at hSw); go_simp; (try with_reducible rfl))); try simp only [Act.put, List.setIfInBounds_toArray, List.set_cons_zero, List.set_cons_succ])
                  (refine wpAnyH_take (i := 1) (v := ?_) (by simp only [List.getElem?_toArray, List.getElem?_cons_succ, List.getElem?_cons_zero]; exact rfl) (by kernel_rfl) (by kernel_rfl) (by kernel_rfl) (by intro _ _ _ h; exact h) (Or.inl ⟨by rfl, ?_⟩) (by assumption) ?_; rotate_left; (focus (intro w' hSw; (try dsimp only at hSw); go_simp; (try with_reducible rfl))); try simp only [Act.put, List.setIfInBounds_toArray, List.set_cons_zero, List.set_cons_succ])
                  refine wpAnyH_ready (rs := [2]) (by kernel_rfl) (by simp) (AllReadyH.cons (by simp only [List.getElem?_toArray, List.getElem?_cons_succ, List.getElem?_cons_zero]; exact rfl) (fun K' hK => ?_) AllReadyH.nil)
                  go_simp
                  (go_at_call 15; refine (HGD.out _ (Gr.drew (Gr.refl wr))).mono ?_; rintro e q1 ⟨rfl, g1⟩)
                  have G1 : Gr wr q1 := (Gr.drew (Gr.refl _)).trans g1
                  (refine hK.out _ _ (three_kz ⟨HV.out.1.1, HV.out.1.2.1, HV.out.1.2.2.1⟩ G1.below) (fun hHeld => ?_); clear hK K'; try simp only [Act.put, List.setIfInBounds_toArray, List.set_cons_zero, List.set_cons_succ])
                  (refine wpAnyH_take (i := 3) (v := ?_) (by simp only [List.getElem?_toArray, List.getElem?_cons_succ, List.getElem?_cons_zero]; exact rfl) (by kernel_rfl) (by kernel_rfl) (by kernel_rfl) (by intro _ _ _ h; exact h) (Or.inl ⟨by rfl, ?_⟩) (by assumption) ?_; rotate_left; (focus (intro w' hSw; (try dsimp only at hSw); go_simp; (try with_reducible rfl))); try simp only [Act.put, List.setIfInBounds_toArray, List.set_cons_zero, List.set_cons_succ])
                  (refine wpAnyH_take (i := 4) (v := ?_) (by simp only [List.getElem?_toArray, List.getElem?_cons_succ, List.getElem?_cons_zero]; exact rfl) (by kernel_rfl) (by kernel_rfl) (by kernel_rfl) (by intro _ _ _ h; exact h) (Or.inl ⟨by rfl, ?_⟩) (by assumption) ?_; rotate_left; (focus (intro w' hSw; (try dsimp only at hSw); go_simp; (try with_reducible rfl))); try simp only [Act.put, List.setIfInBounds_toArray, List.set_cons_zero, List.set_cons_succ])
                  (refine wpAnyH_take (i := 6) (v := ?_) (by simp only [List.getElem?_toArray, List.getElem?_cons_succ, List.getElem?_cons_zero]; exact rfl) (by kernel_rfl) (by kernel_rfl) (by kernel_rfl) (by intro _ _ _ h; exact h) (Or.inl ⟨by rfl, ?_⟩) (by assumption) ?_; rotate_left; (focus (intro w' hSw; (try dsimp only at hSw); go_simp; (try with_reducible rfl))); try simp only [Act.put, List.setIfInBounds_toArray, List.set_cons_zero, List.set_cons_succ])
                  refine wpAnyH_ready (rs := [5]) (by kernel_rfl) (by simp) (AllReadyH.cons (by simp only [List.getElem?_toArray, List.getElem?_cons_succ, List.getElem?_cons_zero]; exact rfl) (fun K' hK => ?_) AllReadyH.nil)
                  go_simp
                  (go_at_call 16; refine (HTX.out _ G1).mono ?_; rintro e q2 ⟨rfl, g2⟩)
                  have G2 : Gr wr q2 := G1.trans g2
                  (refine hK.out _ _ (three_kz ⟨HV.out.1.1, HV.out.1.2.1, HV.out.1.2.2.1⟩ G2.below) (fun hHeld => ?_); clear hK K'; try simp only [Act.put, List.setIfInBounds_toArray, List.set_cons_zero, List.set_cons_succ])
                  (refine wpAnyH_take (i := 7) (v := ?_) (by simp only [List.getElem?_toArray, List.getElem?_cons_succ, List.getElem?_cons_zero]; exact rfl) (by kernel_rfl) (by kernel_rfl) (by kernel_rfl) (by intro _ _ _ h; exact h) (Or.inl ⟨by rfl, ?_⟩) (by assumption) ?_; rotate_left; (focus (intro w' hSw; (try dsimp only at hSw); go_simp; (try with_reducible rfl))); try simp only [Act.put, List.setIfInBounds_toArray, List.set_cons_zero, List.set_cons_succ])
                  (refine wpAnyH_take (i := 8) (v := ?_) (by simp only [List.getElem?_toArray, List.getElem?_cons_succ, List.getElem?_cons_zero]; exact rfl) (by kernel_rfl) (by kernel_rfl) (by kernel_rfl) (by intro _ _ _ h; exact h) (Or.inl ⟨by rfl, ?_⟩) (by assumption) ?_; rotate_left; (focus (intro w' hSw; (try dsimp only at hSw); go_simp; (try with_reducible rfl))); try simp only [Act.put, List.setIfInBounds_toArray, List.set_cons_zero, List.set_cons_succ])
                  refine wpAnyH_ready (rs := [9]) (by kernel_rfl) (by simp) (AllReadyH.cons (by simp only [List.getElem?_toArray, List.getElem?_cons_succ, List.getElem?_cons_zero]; exact rfl) (fun K' hK => ?_) AllReadyH.nil)
                  have Sx := HV.out.2.2.1.gr G2
                  obtain ⟨r0, r1, r2, rf⟩ := Sx
                  have zs : w.heap.size < q2.heap.size := World.block_lt_of_cell? _ _ r0
                  go_simp
                  (refine hK.out _ _ (three_sz ⟨(G2).keep0 HV.out.1.1, (G2).keep0 HV.out.1.2.1, (G2).keep0 HV.out.1.2.2.1⟩ (by omega)) (fun hHeld => ?_); clear hK K'; try simp only [Act.put, List.setIfInBounds_toArray, List.set_cons_zero, List.set_cons_succ])
                  refine wpAnyH_ready (rs := [10]) (by kernel_rfl) (by simp) (AllReadyH.cons (by simp only [List.getElem?_toArray, List.getElem?_cons_succ, List.getElem?_cons_zero]; exact rfl) (fun K' hK => ?_) AllReadyH.nil)
                  go_simp
                  (refine hK.out _ _ (three_sz ⟨(G2).keep0 HV.out.1.1, (G2).keep0 HV.out.1.2.1, (G2).keep0 HV.out.1.2.2.1⟩ (by omega)) (fun hHeld => ?_); clear hK K'; try simp only [Act.put, List.setIfInBounds_toArray, List.set_cons_zero, List.set_cons_succ])
                  refine wpAnyH_done (by kernel_rfl) ?_ _
                  go_wp2
                  refine bodyPost_ret (v := .tuple #[.agg #[.int .i64 RW, .int .i64 RH, .slice A xs.length cq], .bool false]) (by simp [results, Tryd.results22, go_sem, r0, r1, r2]) rfl ⟨RW, RH, A, xs.length, cq, by rw [HBF.out], fun _ => ⟨HWW.out.1.symm, HWW.out.2.symm, ?_⟩, ?_⟩
                  · rw [HCC.out]; exact OwnE.mono (OwnB.set3s (OwnE.gr HV.out.2.1 G2) (by omega)) (by omega)
                  · exact Below.set3s (HV.out.2.2.2.trans (G2.below.mono HV.out.2.2.2.size)) (Nat.le_refl _)
        · have d8 : ¬ (0 : Int) < (y1.size : Int) := by omega
          have hC := HC3.out
          rw [if_neg hk, if_neg hk] at hC
          have HCC := Lib.hid hC.1
          have HQ := Lib.hid (show pcB t = (okB RW RH [] && decide (CtT RW RH [] = t)) by rw [HB.out, hC.1, hC.2]; rfl)
          have HL := Lib.hid (show ([] : List Blk).length ≤ 1048576 by simp)
          have HV := Lib.hid (And.intro HV.out.1 (And.intro (OwnE.nil 44 3 bcs Z (N + 1)) (And.intro HV.out.2.1 HV.out.2.2)))
          clear hC HC3 hk HB
          generalize ([] : List Blk) = cs at *
          go_upto_region 16 with fail
          cases hok : okB RW RH cs
          · have HGD := Lib.hid (fun (X : World) (g : Gr Z X) => Tryd.avGood X RW RH (N + 1) _ cs _ hok HL.out (OwnE.gr HV.out.2.1 g))
            have HBF := Lib.hid (show pcB t = false by rw [HQ.out, hok]; rfl)
            clear hok
            refine wp_region_held_drew (S := fun W' => W'.cell? ⟨N, 0, none⟩ = some (.int .i64 RW) ∧ W'.cell? ⟨N, 1, none⟩ = some (.int .i64 RH) ∧ W'.cell? ⟨N, 2, none⟩ = some (.slice none 0 0)) (by kernel_rfl) (three_kz ⟨HV.out.1.1, HV.out.1.2.1, HV.out.1.2.2.1⟩ (Below.drew (Below.refl _ _))) (fun hHeld => ?_)
            (refine wpAnyH_take (i := 0) (v := ?_) (by simp only [List.getElem?_toArray, List.getElem?_cons_succ, List.getElem?_cons_zero]; exact rfl) (by kernel_rfl) (by kernel_rfl) (by kernel_rfl) (by intro _ _ _ h; exact h) (Or.inl ⟨by rfl, ?_⟩) (by assumption) ?_; rotate_left; (focus (intro w' hSw; (try dsimp only at hSw); go_simp; (try with_reducible rfl))); try simp only [Act.put, List.setIfInBounds_toArray, List.set_cons_zero, List.set_cons_succ])
            (refine wpAnyH_take (i := 1) (v := ?_) (by simp only [List.getElem?_toArray, List.getElem?_cons_succ, List.getElem?_cons_zero]; exact rfl) (by kernel_rfl) (by kernel_rfl) (by kernel_rfl) (by intro _ _ _ h; exact h) (Or.inl ⟨by rfl, ?_⟩) (by assumption) ?_; rotate_left; (focus (intro w' hSw; (try dsimp only at hSw); go_simp; (try with_reducible rfl))); try simp only [Act.put, List.setIfInBounds_toArray, List.set_cons_zero, List.set_cons_succ])
            refine wpAnyH_ready (rs := [2]) (by kernel_rfl) (by simp) (AllReadyH.cons (by simp only [List.getElem?_toArray, List.getElem?_cons_succ, List.getElem?_cons_zero]; exact rfl) (fun K' hK => ?_) AllReadyH.nil)
            go_simp
            (go_at_call 15; refine (HGD.out _ (Gr.drew (Gr.refl Z))).mono ?_; rintro e q1 ⟨rfl, g1⟩)
            have G1 : Gr Z q1 := (Gr.drew (Gr.refl _)).trans g1
            (refine hK.out _ _ (three_kz ⟨HV.out.1.1, HV.out.1.2.1, HV.out.1.2.2.1⟩ G1.below) (fun hHeld => ?_); clear hK K'; try simp only [Act.put, List.setIfInBounds_toArray, List.set_cons_zero, List.set_cons_succ])
            (refine wpAnyH_take (i := 3) (v := ?_) (by simp only [List.getElem?_toArray, List.getElem?_cons_succ, List.getElem?_cons_zero]; exact rfl) (by kernel_rfl) (by kernel_rfl) (by kernel_rfl) (by intro _ _ _ h; exact h) (Or.inl ⟨by rfl, ?_⟩) (by assumption) ?_; rotate_left; (focus (intro w' hSw; (try dsimp only at hSw); go_simp; (try with_reducible rfl))); try simp only [Act.put, List.setIfInBounds_toArray, List.set_cons_zero, List.set_cons_succ])
            (refine wpAnyH_take (i := 4) (v := undef) (by simp only [List.getElem?_toArray, List.getElem?_cons_succ, List.getElem?_cons_zero]; exact rfl) (by kernel_rfl) (by kernel_rfl) (by kernel_rfl) (by intro _ _ _ h; exact h) (Or.inr ⟨by rfl, rfl⟩) (by assumption) ?_; try simp only [Act.put, List.setIfInBounds_toArray, List.set_cons_zero, List.set_cons_succ])
            (refine wpAnyH_take (i := 5) (v := undef) (by simp only [List.getElem?_toArray, List.getElem?_cons_succ, List.getElem?_cons_zero]; exact rfl) (by kernel_rfl) (by kernel_rfl) (by kernel_rfl) (by intro _ _ _ h; exact h) (Or.inr ⟨by rfl, rfl⟩) (by assumption) ?_; try simp only [Act.put, List.setIfInBounds_toArray, List.set_cons_zero, List.set_cons_succ])
            (refine wpAnyH_take (i := 6) (v := undef) (by simp only [List.getElem?_toArray, List.getElem?_cons_succ, List.getElem?_cons_zero]; exact rfl) (by kernel_rfl) (by kernel_rfl) (by kernel_rfl) (by intro _ _ _ h; exact h) (Or.inr ⟨by rfl, rfl⟩) (by assumption) ?_; try simp only [Act.put, List.setIfInBounds_toArray, List.set_cons_zero, List.set_cons_succ])
            (refine wpAnyH_take (i := 7) (v := undef) (by simp only [List.getElem?_toArray, List.getElem?_cons_succ, List.getElem?_cons_zero]; exact rfl) (by kernel_rfl) (by kernel_rfl) (by kernel_rfl) (by intro _ _ _ h; exact h) (Or.inr ⟨by rfl, rfl⟩) (by assumption) ?_; try simp only [Act.put, List.setIfInBounds_toArray, List.set_cons_zero, List.set_cons_succ])
            (refine wpAnyH_take (i := 8) (v := ?_) (by simp only [List.getElem?_toArray, List.getElem?_cons_succ, List.getElem?_cons_zero]; exact rfl) (by kernel_rfl) (by kernel_rfl) (by kernel_rfl) (by intro _ _ _ h; exact h) (Or.inl ⟨by rfl, ?_⟩) (by assumption) ?_; rotate_left; (focus (intro w' hSw; (try dsimp only at hSw); go_simp; (try with_reducible rfl))); try simp only [Act.put, List.setIfInBounds_toArray, List.set_cons_zero, List.set_cons_succ])
            refine wpAnyH_ready (rs := [9]) (by kernel_rfl) (by simp) (AllReadyH.cons (by simp only [List.getElem?_toArray, List.getElem?_cons_succ, List.getElem?_cons_zero]; exact rfl) (fun K' hK => ?_) AllReadyH.nil)
            have Sx := HV.out.2.2.1.gr G1
            obtain ⟨r0, r1, r2, rf⟩ := Sx
            have zs : w.heap.size < q1.heap.size := World.block_lt_of_cell? _ _ r0
            go_simp
            (refine hK.out _ _ (three_sz ⟨(G1).keep0 HV.out.1.1, (G1).keep0 HV.out.1.2.1, (G1).keep0 HV.out.1.2.2.1⟩ (by omega)) (fun hHeld => ?_); clear hK K'; try simp only [Act.put, List.setIfInBounds_toArray, List.set_cons_zero, List.set_cons_succ])
            refine wpAnyH_ready (rs := [10]) (by kernel_rfl) (by simp) (AllReadyH.cons (by simp only [List.getElem?_toArray, List.getElem?_cons_succ, List.getElem?_cons_zero]; exact rfl) (fun K' hK => ?_) AllReadyH.nil)
            go_simp
            (refine hK.out _ _ (three_sz ⟨(G1).keep0 HV.out.1.1, (G1).keep0 HV.out.1.2.1, (G1).keep0 HV.out.1.2.2.1⟩ (by omega)) (fun hHeld => ?_); clear hK K'; try simp only [Act.put, List.setIfInBounds_toArray, List.set_cons_zero, List.set_cons_succ])
            refine wpAnyH_done (by kernel_rfl) ?_ _
            go_wp2
            refine bodyPost_ret (v := .tuple #[.agg #[.int .i64 RW, .int .i64 RH, .slice none 0 0], .bool false]) (by simp [results, Tryd.results22, go_sem, r0, r1, r2]) rfl ⟨RW, RH, none, 0, 0, by rw [HBF.out], fun _ => ⟨HWW.out.1.symm, HWW.out.2.symm, ?_⟩, ?_⟩
            · rw [HCC.out]; exact OwnE.mono (OwnB.set3s (OwnE.gr HV.out.2.1 G1) (by omega)) (by omega)
            · exact Below.set3s (HV.out.2.2.2.trans (G1.below.mono HV.out.2.2.2.size)) (Nat.le_refl _)
          · have HGD := Lib.hid (fun (X : World) (g : Gr Z X) => Tryd.avGood X RW RH (N + 1) _ cs _ hok HL.out (OwnE.gr HV.out.2.1 g))
            have HTX := Lib.hid (fun (X : World) (g : Gr Z X) => Tryd.avText X RW RH (N + 1) _ cs hok (OwnE.gr HV.out.2.1 g))
            rw [show (hdC RW RH ++ ⟨(jtK cs).toArray⟩ : ByteArray) = CtT RW RH cs from rfl] at HTX
            by_cases hT : CtT RW RH cs = t
            · have HBF := Lib.hid (show pcB t = true by rw [HQ.out, hok, decide_eq_true hT]; rfl)
              rw [hT] at HTX
              clear hok hT
              refine wp_region_held_drew (S := fun W' => W'.cell? ⟨N, 0, none⟩ = some (.int .i64 RW) ∧ W'.cell? ⟨N, 1, none⟩ = some (.int .i64 RH) ∧ W'.cell? ⟨N, 2, none⟩ = some (.slice none 0 0)) (by kernel_rfl) (three_kz ⟨HV.out.1.1, HV.out.1.2.1, HV.out.1.2.2.1⟩ (Below.drew (Below.refl _ _))) (fun hHeld => ?_)
              (refine wpAnyH_take (i := 0) (v := ?_) (by simp only [List.getElem?_toArray, List.getElem?_cons_succ, List.getElem?_cons_zero]; exact rfl) (by kernel_rfl) (by kernel_rfl) (by kernel_rfl) (by intro _ _ _ h; exact h) (Or.inl ⟨by rfl, ?_⟩) (by assumption) ?_; rotate_left; (focus (intro w' hSw; (try dsimp only at hSw); go_simp; (try with_reducible rfl))); try simp only [Act.put, List.setIfInBounds_toArray, List.set_cons_zero, List.set_cons_succ])
              (refine wpAnyH_take (i := 1) (v := ?_) (by simp only [List.getElem?_toArray, List.getElem?_cons_succ, List.getElem?_cons_zero]; exact rfl) (by kernel_rfl) (by kernel_rfl) (by kernel_rfl) (by intro _ _ _ h; exact h) (Or.inl ⟨by rfl, ?_⟩) (by assumption) ?_; rotate_left; (focus (intro w' hSw; (try dsimp only at hSw); go_simp; (try with_reducible rfl))); try simp only [Act.put, List.setIfInBounds_toArray, List.set_cons_zero, List.set_cons_succ])
              refine wpAnyH_ready (rs := [2]) (by kernel_rfl) (by simp) (AllReadyH.cons (by simp only [List.getElem?_toArray, List.getElem?_cons_succ, List.getElem?_cons_zero]; exact rfl) (fun K' hK => ?_) AllReadyH.nil)
              go_simp
              (go_at_call 15; refine (HGD.out _ (Gr.drew (Gr.refl Z))).mono ?_; rintro e q1 ⟨rfl, g1⟩)
              have G1 : Gr Z q1 := (Gr.drew (Gr.refl _)).trans g1
              (refine hK.out _ _ (three_kz ⟨HV.out.1.1, HV.out.1.2.1, HV.out.1.2.2.1⟩ G1.below) (fun hHeld => ?_); clear hK K'; try simp only [Act.put, List.setIfInBounds_toArray, List.set_cons_zero, List.set_cons_succ])
              (refine wpAnyH_take (i := 3) (v := ?_) (by simp only [List.getElem?_toArray, List.getElem?_cons_succ, List.getElem?_cons_zero]; exact rfl) (by kernel_rfl) (by kernel_rfl) (by kernel_rfl) (by intro _ _ _ h; exact h) (Or.inl ⟨by rfl, ?_⟩) (by assumption) ?_; rotate_left; (focus (intro w' hSw; (try dsimp only at hSw); go_simp; (try with_reducible rfl))); try simp only [Act.put, List.setIfInBounds_toArray, List.set_cons_zero, List.set_cons_succ])
              (refine wpAnyH_take (i := 4) (v := ?_) (by simp only [List.getElem?_toArray, List.getElem?_cons_succ, List.getElem?_cons_zero]; exact rfl) (by kernel_rfl) (by kernel_rfl) (by kernel_rfl) (by intro _ _ _ h; exact h) (Or.inl ⟨by rfl, ?_⟩) (by assumption) ?_; rotate_left; (focus (intro w' hSw; (try dsimp only at hSw); go_simp; (try with_reducible rfl))); try simp only [Act.put, List.setIfInBounds_toArray, List.set_cons_zero, List.set_cons_succ])
              (refine wpAnyH_take (i := 6) (v := ?_) (by simp only [List.getElem?_toArray, List.getElem?_cons_succ, List.getElem?_cons_zero]; exact rfl) (by kernel_rfl) (by kernel_rfl) (by kernel_rfl) (by intro _ _ _ h; exact h) (Or.inl ⟨by rfl, ?_⟩) (by assumption) ?_; rotate_left; (focus (intro w' hSw; (try dsimp only at hSw); go_simp; (try with_reducible rfl))); try simp only [Act.put, List.setIfInBounds_toArray, List.set_cons_zero, List.set_cons_succ])
              refine wpAnyH_ready (rs := [5]) (by kernel_rfl) (by simp) (AllReadyH.cons (by simp only [List.getElem?_toArray, List.getElem?_cons_succ, List.getElem?_cons_zero]; exact rfl) (fun K' hK => ?_) AllReadyH.nil)
              go_simp
              (go_at_call 16; refine (HTX.out _ G1).mono ?_; rintro e q2 ⟨rfl, g2⟩)
              have G2 : Gr Z q2 := G1.trans g2
              (refine hK.out _ _ (three_kz ⟨HV.out.1.1, HV.out.1.2.1, HV.out.1.2.2.1⟩ G2.below) (fun hHeld => ?_); clear hK K'; try simp only [Act.put, List.setIfInBounds_toArray, List.set_cons_zero, List.set_cons_succ])
              (refine wpAnyH_take (i := 7) (v := ?_) (by simp only [List.getElem?_toArray, List.getElem?_cons_succ, List.getElem?_cons_zero]; exact rfl) (by kernel_rfl) (by kernel_rfl) (by kernel_rfl) (by intro _ _ _ h; exact h) (Or.inl ⟨by rfl, ?_⟩) (by assumption) ?_; rotate_left; (focus (intro w' hSw; (try dsimp only at hSw); go_simp; (try with_reducible rfl))); try simp only [Act.put, List.setIfInBounds_toArray, List.set_cons_zero, List.set_cons_succ])
              (refine wpAnyH_take (i := 8) (v := ?_) (by simp only [List.getElem?_toArray, List.getElem?_cons_succ, List.getElem?_cons_zero]; exact rfl) (by kernel_rfl) (by kernel_rfl) (by kernel_rfl) (by intro _ _ _ h; exact h) (Or.inl ⟨by rfl, ?_⟩) (by assumption) ?_; rotate_left; (focus (intro w' hSw; (try dsimp only at hSw); go_simp; (try with_reducible rfl))); try simp only [Act.put, List.setIfInBounds_toArray, List.set_cons_zero, List.set_cons_succ])
              refine wpAnyH_ready (rs := [9]) (by kernel_rfl) (by simp) (AllReadyH.cons (by simp only [List.getElem?_toArray, List.getElem?_cons_succ, List.getElem?_cons_zero]; exact rfl) (fun K' hK => ?_) AllReadyH.nil)
              have Sx := HV.out.2.2.1.gr G2
              obtain ⟨r0, r1, r2, rf⟩ := Sx
              have zs : w.heap.size < q2.heap.size := World.block_lt_of_cell? _ _ r0
              go_simp
              (refine hK.out _ _ (three_sz ⟨(G2).keep0 HV.out.1.1, (G2).keep0 HV.out.1.2.1, (G2).keep0 HV.out.1.2.2.1⟩ (by omega)) (fun hHeld => ?_); clear hK K'; try simp only [Act.put, List.setIfInBounds_toArray, List.set_cons_zero, List.set_cons_succ])
              refine wpAnyH_ready (rs := [10]) (by kernel_rfl) (by simp) (AllReadyH.cons (by simp only [List.getElem?_toArray, List.getElem?_cons_succ, List.getElem?_cons_zero]; exact rfl) (fun K' hK => ?_) AllReadyH.nil)
              go_simp
              (refine hK.out _ _ (three_sz ⟨(G2).keep0 HV.out.1.1, (G2).keep0 HV.out.1.2.1, (G2).keep0 HV.out.1.2.2.1⟩ (by omega)) (fun hHeld => ?_); clear hK K'; try simp only [Act.put, List.setIfInBounds_toArray, List.set_cons_zero, List.set_cons_succ])
              refine wpAnyH_done (by kernel_rfl) ?_ _
              go_wp2
              refine bodyPost_ret (v := .tuple #[.agg #[.int .i64 RW, .int .i64 RH, .slice none 0 0], .bool true]) (by simp [results, Tryd.results22, go_sem, r0, r1, r2]) rfl ⟨RW, RH, none, 0, 0, by rw [HBF.out], fun _ => ⟨HWW.out.1.symm, HWW.out.2.symm, ?_⟩, ?_⟩
              · rw [HCC.out]; exact OwnE.mono (OwnB.set3s (OwnE.gr HV.out.2.1 G2) (by omega)) (by omega)
              · exact Below.set3s (HV.out.2.2.2.trans (G2.below.mono HV.out.2.2.2.size)) (Nat.le_refl _)
            · have HBF := Lib.hid (show pcB t = false by rw [HQ.out, hok, decide_eq_false hT]; rfl)
              have d9 : ((CtT RW RH cs).toList == t.toList) = false := ne_txt hT
              generalize CtT RW RH cs = TT at *
              clear hok hT
              refine wp_region_held_drew (S := fun W' => W'.cell? ⟨N, 0, none⟩ = some (.int .i64 RW) ∧ W'.cell? ⟨N, 1, none⟩ = some (.int .i64 RH) ∧ W'.cell? ⟨N, 2, none⟩ = some (.slice none 0 0)) (by kernel_rfl) (three_kz ⟨HV.out.1.1, HV.out.1.2.1, HV.out.1.2.2.1⟩ (Below.drew (Below.refl _ _))) (fun hHeld => ?_)
              (refine wpAnyH_take (i := 0) (v := ?_) (by simp only [List.getElem?_toArray, List.getElem?_cons_succ, List.getElem?_cons_zero]; exact rfl) (by kernel_rfl) (by kernel_rfl) (by kernel_rfl) (by intro _ _ _ h; exact h) (Or.inl ⟨by rfl, ?_⟩) (by assumption) ?_; rotate_left; (focus (intro w' hSw; (try dsimp only at hSw); go_simp; (try with_reducible rfl))); try simp only [Act.put, List.setIfInBounds_toArray, List.set_cons_zero, List.set_cons_succ])
              (refine wpAnyH_take (i := 1) (v := ?_) (by simp only [List.getElem?_toArray, List.getElem?_cons_succ, List.getElem?_cons_zero]; exact rfl) (by kernel_rfl) (by kernel_rfl) (by kernel_rfl) (by intro _ _ _ h; exact h) (Or.inl ⟨by rfl, ?_⟩) (by assumption) ?_; rotate_left; (focus (intro w' hSw; (try dsimp only at hSw); go_simp; (try with_reducible rfl))); try simp only [Act.put, List.setIfInBounds_toArray, List.set_cons_zero, List.set_cons_succ])
              refine wpAnyH_ready (rs := [2]) (by kernel_rfl) (by simp) (AllReadyH.cons (by simp only [List.getElem?_toArray, List.getElem?_cons_succ, List.getElem?_cons_zero]; exact rfl) (fun K' hK => ?_) AllReadyH.nil)
              go_simp
              (go_at_call 15; refine (HGD.out _ (Gr.drew (Gr.refl Z))).mono ?_; rintro e q1 ⟨rfl, g1⟩)
              have G1 : Gr Z q1 := (Gr.drew (Gr.refl _)).trans g1
              (refine hK.out _ _ (three_kz ⟨HV.out.1.1, HV.out.1.2.1, HV.out.1.2.2.1⟩ G1.below) (fun hHeld => ?_); clear hK K'; try simp only [Act.put, List.setIfInBounds_toArray, List.set_cons_zero, List.set_cons_succ])
              (refine wpAnyH_take (i := 3) (v := ?_) (by simp only [List.getElem?_toArray, List.getElem?_cons_succ, List.getElem?_cons_zero]; exact rfl) (by kernel_rfl) (by kernel_rfl) (by kernel_rfl) (by intro _ _ _ h; exact h) (Or.inl ⟨by rfl, ?_⟩) (by assumption) ?_; rotate_left; (focus (intro w' hSw; (try dsimp only at hSw); go_simp; (try with_reducible rfl))); try simp only [Act.put, List.setIfInBounds_toArray, List.set_cons_zero, List.set_cons_succ])
              (refine wpAnyH_take (i := 4) (v := ?_) (by simp only [List.getElem?_toArray, List.getElem?_cons_succ, List.getElem?_cons_zero]; exact rfl) (by kernel_rfl) (by kernel_rfl) (by kernel_rfl) (by intro _ _ _ h; exact h) (Or.inl ⟨by rfl, ?_⟩) (by assumption) ?_; rotate_left; (focus (intro w' hSw; (try dsimp only at hSw); go_simp; (try with_reducible rfl))); try simp only [Act.put, List.setIfInBounds_toArray, List.set_cons_zero, List.set_cons_succ])
              (refine wpAnyH_take (i := 6) (v := ?_) (by simp only [List.getElem?_toArray, List.getElem?_cons_succ, List.getElem?_cons_zero]; exact rfl) (by kernel_rfl) (by kernel_rfl) (by kernel_rfl) (by intro _ _ _ h; exact h) (Or.inl ⟨by rfl, ?_⟩) (by assumption) ?_; rotate_left; (focus (intro w' hSw; (try dsimp only at hSw); go_simp; (try with_reducible rfl))); try simp only [Act.put, List.setIfInBounds_toArray, List.set_cons_zero, List.set_cons_succ])
              refine wpAnyH_ready (rs := [5]) (by kernel_rfl) (by simp) (AllReadyH.cons (by simp only [List.getElem?_toArray, List.getElem?_cons_succ, List.getElem?_cons_zero]; exact rfl) (fun K' hK => ?_) AllReadyH.nil)
              go_simp
              (go_at_call 16; refine (HTX.out _ G1).mono ?_; rintro e q2 ⟨rfl, g2⟩)
              have G2 : Gr Z q2 := G1.trans g2
              (refine hK.out _ _ (three_kz ⟨HV.out.1.1, HV.out.1.2.1, HV.out.1.2.2.1⟩ G2.below) (fun hHeld => ?_); clear hK K'; try simp only [Act.put, List.setIfInBounds_toArray, List.set_cons_zero, List.set_cons_succ])
              (refine wpAnyH_take (i := 7) (v := ?_) (by simp only [List.getElem?_toArray, List.getElem?_cons_succ, List.getElem?_cons_zero]; exact rfl) (by kernel_rfl) (by kernel_rfl) (by kernel_rfl) (by intro _ _ _ h; exact h) (Or.inl ⟨by rfl, ?_⟩) (by assumption) ?_; rotate_left; (focus (intro w' hSw; (try dsimp only at hSw); go_simp; (try with_reducible rfl))); try simp only [Act.put, List.setIfInBounds_toArray, List.set_cons_zero, List.set_cons_succ])
              (refine wpAnyH_take (i := 8) (v := ?_) (by simp only [List.getElem?_toArray, List.getElem?_cons_succ, List.getElem?_cons_zero]; exact rfl) (by kernel_rfl) (by kernel_rfl) (by kernel_rfl) (by intro _ _ _ h; exact h) (Or.inl ⟨by rfl, ?_⟩) (by assumption) ?_; rotate_left; (focus (intro w' hSw; (try dsimp only at hSw); go_simp; (try with_reducible rfl))); try simp only [Act.put, List.setIfInBounds_toArray, List.set_cons_zero, List.set_cons_succ])
              refine wpAnyH_ready (rs := [9]) (by kernel_rfl) (by simp) (AllReadyH.cons (by simp only [List.getElem?_toArray, List.getElem?_cons_succ, List.getElem?_cons_zero]; exact rfl) (fun K' hK => ?_) AllReadyH.nil)
              have Sx := HV.out.2.2.1.gr G2
              obtain ⟨r0, r1, r2, rf⟩ := Sx
              have zs : w.heap.size < q2.heap.size := World.block_lt_of_cell? _ _ r0
              go_simp
              (refine hK.out _ _ (three_sz ⟨(G2).keep0 HV.out.1.1, (G2).keep0 HV.out.1.2.1, (G2).keep0 HV.out.1.2.2.1⟩ (by omega)) (fun hHeld => ?_); clear hK K'; try simp only [Act.put, List.setIfInBounds_toArray, List.set_cons_zero, List.set_cons_succ])
              refine wpAnyH_ready (rs := [10]) (by kernel_rfl) (by simp) (AllReadyH.cons (by simp only [List.getElem?_toArray, List.getElem?_cons_succ, List.getElem?_cons_zero]; exact rfl) (fun K' hK => ?_) AllReadyH.nil)
              go_simp
              (refine hK.out _ _ (three_sz ⟨(G2).keep0 HV.out.1.1, (G2).keep0 HV.out.1.2.1, (G2).keep0 HV.out.1.2.2.1⟩ (by omega)) (fun hHeld => ?_); clear hK K'; try simp only [Act.put, List.setIfInBounds_toArray, List.set_cons_zero, List.set_cons_succ])
              refine wpAnyH_done (by kernel_rfl) ?_ _
              go_wp2
              refine bodyPost_ret (v := .tuple #[.agg #[.int .i64 RW, .int .i64 RH, .slice none 0 0], .bool false]) (by simp [results, Tryd.results22, go_sem, r0, r1, r2]) rfl ⟨RW, RH, none, 0, 0, by rw [HBF.out], fun _ => ⟨HWW.out.1.symm, HWW.out.2.symm, ?_⟩, ?_⟩
              · rw [HCC.out]; exact OwnE.mono (OwnB.set3s (OwnE.gr HV.out.2.1 G2) (by omega)) (by omega)
              · exact Below.set3s (HV.out.2.2.2.trans (G2.below.mono HV.out.2.2.2.size)) (Nat.le_refl _)
    · have HB := Lib.hid (HB2.out h3)
      have d2 : ¬ (zs.length : Int) = 2 := fun q => h3 (by omega)
      have d3 : ((zs.length : Int) == 2) = false := by simpa using d2
      have d4 : ((zs.length : Int) != 2) = true := by simpa using d2
      clear h3 hz2 HB2 HB3 HW HC3 HS3
      go_enter Tryd.func22, Tryd.ntmps22
      go_wp2_with (first | (go_at_call_of 42 (Value.string t); refine (HSP.out _).mono ?_; rintro e W ⟨v, rfl, ho, hb⟩; obtain ⟨g, c, rfl, hg, hc, hcell⟩ := ho.view hpos; have Z0 : Bz W w.heap.size (.int .i64 0) (.int .i64 0) (.slice none 0 0) := ⟨cell_k2 hb (by simp [go_sem]), cell_k2 hb (by simp [go_sem]), cell_k2 hb (by simp [go_sem]), fun o => ((bcell hb).2 _ _ (by simp)).trans (by simp [go_sem])⟩; have u0 := hcell 0 y0 rfl; have u1 := hcell 1 y1 rfl; have z5 : (2 : Int) ≤ (c : Int) := (by simp at hc; omega); clear hcell) | (go_at_call_of 42 (Value.string y0); refine (HS2.out _).mono ?_; rintro e W2 ⟨v2, rfl, ho2, hb2⟩; obtain ⟨g2, c2, rfl, hg2, hc2, hcell2⟩ := ho2.view hp2; have Z2 := Z0.bel hb2 Z0.lt; obtain ⟨r0, r1, r2, rf⟩ := Z2))
      refine bodyPost_ret (v := .tuple #[.agg #[.int .i64 0, .int .i64 0, .slice none 0 0], .bool false]) (by simp [results, Tryd.results22, go_sem, r0, r1, r2]) rfl ⟨0, 0, none, 0, 0, by rw [HB.out], fun q => absurd (HB.out.symm.trans q) (by decide), ?_⟩
      exact Below.set3s ((((Gr.alloc (Gr.refl w) _).below).trans (hb.mono (by simp))).trans (hb2.mono (Nat.le_trans (by simp) hb.size))) (Nat.le_refl _)
  · have HB := Lib.hid (show pcB t = false by
      unfold pcB
      rw [hys]
      by_cases h3 : t.size ≤ 140
      · rw [decide_eq_false (show ¬ ys.length = 2 from fun q => h2 ⟨h3, q⟩)]; simp
      · rw [decide_eq_false h3]; rfl)
    clear hys hsz
    by_cases h3 : t.size ≤ 140
    · have d1 : ¬ (140 : Int) < (t.size : Int) := by omega
      have d2 : ¬ (ys.length : Int) = 2 := fun q => h2 ⟨h3, by omega⟩
      have d3 : ((ys.length : Int) == 2) = false := by simpa using d2
      have d4 : ((ys.length : Int) != 2) = true := by simpa using d2
      clear h2 h3
      go_enter Tryd.func22, Tryd.ntmps22
      go_wp2_with (first | (go_at_call_of 42 (Value.string t); refine (HSP.out _).mono ?_; rintro e W ⟨v, rfl, ho, hb⟩; obtain ⟨g, c, rfl, hg, hc, hcell⟩ := ho.view hpos; have Z0 : Bz W w.heap.size (.int .i64 0) (.int .i64 0) (.slice none 0 0) := ⟨cell_k2 hb (by simp [go_sem]), cell_k2 hb (by simp [go_sem]), cell_k2 hb (by simp [go_sem]), fun o => ((bcell hb).2 _ _ (by simp)).trans (by simp [go_sem])⟩; obtain ⟨r0, r1, r2, rf⟩ := Z0))
      refine bodyPost_ret (v := .tuple #[.agg #[.int .i64 0, .int .i64 0, .slice none 0 0], .bool false]) (by simp [results, Tryd.results22, go_sem, r0, r1, r2]) rfl ⟨0, 0, none, 0, 0, by rw [HB.out], fun q => absurd (HB.out.symm.trans q) (by decide), ?_⟩
      exact Below.set3s (((Gr.alloc (Gr.refl w) _).below).trans (hb.mono (by simp))) (Nat.le_refl _)
    · have d1 : (140 : Int) < (t.size : Int) := by omega
      clear h2 h3
      go_enter Tryd.func22, Tryd.ntmps22
      go_wp2_with (first | (go_at_call_of 42 (Value.string t); refine (HSP.out _).mono ?_; rintro e W ⟨v, rfl, ho, hb⟩; obtain ⟨g, c, rfl, hg, hc, hcell⟩ := ho.view hpos; have Z0 : Bz W w.heap.size (.int .i64 0) (.int .i64 0) (.slice none 0 0) := ⟨cell_k2 hb (by simp [go_sem]), cell_k2 hb (by simp [go_sem]), cell_k2 hb (by simp [go_sem]), fun o => ((bcell hb).2 _ _ (by simp)).trans (by simp [go_sem])⟩; obtain ⟨r0, r1, r2, rf⟩ := Z0))
      refine bodyPost_ret (v := .tuple #[.agg #[.int .i64 0, .int .i64 0, .slice none 0 0], .bool false]) (by simp [results, Tryd.results22, go_sem, r0, r1, r2]) rfl ⟨0, 0, none, 0, 0, by rw [HB.out], fun q => absurd (HB.out.symm.trans q) (by decide), ?_⟩
      exact Below.set3s (((Gr.alloc (Gr.refl w) _).below).trans (hb.mono (by simp))) (Nat.le_refl _)
end Go.Proofs
