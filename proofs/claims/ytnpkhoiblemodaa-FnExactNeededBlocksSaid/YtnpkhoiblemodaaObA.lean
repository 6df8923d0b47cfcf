/-
  Chapter 4: a closed block open again, both sides.
-/
import Derived.Test.YtnpkhoiblemodaaAvYo
import Derived.Test.YtnpkhoiblemodaaBrF
namespace Go.Proofs
open Go.RowKit Av
set_option linter.unusedVariables false
set_option linter.unusedSimpArgs false
theorem cell_gbZ {w w' : World} {row : Option Nat} (d : w.grownBy w' row) {b o : Nat} {v : Value} (h : w.cell? ⟨b, o, none⟩ = some v) (hne : some b ≠ row) : w'.cell? ⟨b, o, none⟩ = some v := d.cell h hne
theorem cell_set3 {w : World} {a : Nat} {i b : Nat} {u v1 v2 v3 : Value} (h : w.cell? ⟨a, i, none⟩ = some u) (hb : a ≠ b) : (((w.setCell ⟨b, 0, none⟩ v1).setCell ⟨b, 1, none⟩ v2).setCell ⟨b, 2, none⟩ v3).cell? ⟨a, i, none⟩ = some u := by
  have k : ∀ (W : World) (o : Nat) (v : Value), W.cell? ⟨a, i, none⟩ = some u → (W.setCell ⟨b, o, none⟩ v).cell? ⟨a, i, none⟩ = some u := fun W o v q => (World.cell?_setCell_other _ _ _ _ (by intro e; cases e; exact hb rfl)).trans q
  exact k _ _ _ (k _ _ _ (k _ _ _ h))
theorem set3_0 {w : World} {b : Nat} {u v1 v2 v3 : Value} (h : w.cell? ⟨b, 0, none⟩ = some u) : (((w.setCell ⟨b, 0, none⟩ v1).setCell ⟨b, 1, none⟩ v2).setCell ⟨b, 2, none⟩ v3).cell? ⟨b, 0, none⟩ = some v1 :=
  (World.cell?_setCell_other _ _ _ _ (by simp)).trans ((World.cell?_setCell_other _ _ _ _ (by simp)).trans (World.cell?_setCell_same _ _ _ h))
theorem set3_1 {w : World} {b : Nat} {u v1 v2 v3 : Value} (h : w.cell? ⟨b, 1, none⟩ = some u) : (((w.setCell ⟨b, 0, none⟩ v1).setCell ⟨b, 1, none⟩ v2).setCell ⟨b, 2, none⟩ v3).cell? ⟨b, 1, none⟩ = some v2 :=
  (World.cell?_setCell_other _ _ _ _ (by simp)).trans (World.cell?_setCell_same _ _ _ ((World.cell?_setCell_other _ _ _ _ (by simp)).trans h))
theorem set3_2 {w : World} {b : Nat} {u v1 v2 v3 : Value} (h : w.cell? ⟨b, 2, none⟩ = some u) : (((w.setCell ⟨b, 0, none⟩ v1).setCell ⟨b, 1, none⟩ v2).setCell ⟨b, 2, none⟩ v3).cell? ⟨b, 2, none⟩ = some v3 :=
  World.cell?_setCell_same _ _ _ ((World.cell?_setCell_other _ _ _ _ (by simp)).trans ((World.cell?_setCell_other _ _ _ _ (by simp)).trans h))
theorem Below.set3 {n b : Nat} {a w : World} {v1 v2 v3 : Value} (h : Below n a w) (hb : n ≤ b) : Below n a (((w.setCell ⟨b, 0, none⟩ v1).setCell ⟨b, 1, none⟩ v2).setCell ⟨b, 2, none⟩ v3) :=
  ((h.setCell (p := ⟨b, 0, none⟩) hb _).setCell (p := ⟨b, 1, none⟩) hb _).setCell (p := ⟨b, 2, none⟩) hb _
def obB (W H : Int) (ps : List Blk) (b : Blk) : Bool := okB W H ps && has ps b
def obL (W H : Int) (ps : List Blk) (b : Blk) : List Blk := if obB W H ps b then ps.filter (fun z => !decide (z = b)) else []
def ifN (b : Bool) (n : Int) : Int := if b then n else 0
theorem obL_len (W H : Int) (ps : List Blk) (b : Blk) : (obL W H ps b).length ≤ 30 := by
  unfold obL
  cases h : obB W H ps b
  · simp
  · rw [if_pos rfl]
    unfold obB at h
    rw [Bool.and_eq_true] at h
    exact Nat.le_trans (List.length_filter_le _ _) (of_decide_eq_true h.1).2.2.2.2.1
/-- a city that a call hands back -/
def RetC (w : World) (W H : Int) (cs : List Blk) (b : Bool) (e : Ending) (w' : World) : Prop := ∃ v', e = .returned (.tuple #[.agg #[.int .i64 W, .int .i64 H, v'], .bool b]) ∧ OwnB w' w.heap.size v' cs ∧ Below w.heap.size w w'
set_option maxRecDepth 100000 in
set_option maxHeartbeats 1600000 in
theorem Try.sOpenBlock (w : World) (W H : Int) (B : Nat) (a : Value) (ps : List Blk) (x y : Int) (u : Bool) (hl : ps.length ≤ 1048576) (h : OwnB w B a ps) :
    Calls Try.prog 15 #[.agg #[.int .i64 W, .int .i64 H, a], .agg #[.int .i64 x, .int .i64 y, .bool u]] w (RetC w (ifN (obB W H ps (x, y, u)) W) (ifN (obB W H ps (x, y, u)) H) (obL W H ps (x, y, u)) (obB W H ps (x, y, u))) := by
  obtain ⟨A, c, rfl, h⟩ := OwnE.eta h
  have GD := Lib.hid (fun (X : World) (g : Gr w X) v hv => Try.avGood X W H B _ ps v hv hl (OwnE.gr h g))
  have SH := Lib.hid (fun (X : World) (g : Gr w X) v hv => Try.avShut X W H B _ ps x y u v hv hl (OwnE.gr h g))
  cases hb : obB W H ps (x, y, u)
  · rw [show obL W H ps (x, y, u) = [] by simp [obL, hb]]
    unfold ifN
    simp only [Bool.false_eq_true, if_false]
    cases hg : okB W H ps
    · have HG := Lib.hid hg
      clear hb hg h
      go_enter Try.func15, Try.ntmps15
      go_wp2_with (first | (go_at_call 28; refine (GD.out _ (by repeat (first | exact Gr.refl _ | refine Gr.alloc ?_ _ | refine Gr.trans ?_ (by assumption) | refine Gr.drew ?_ | refine Gr.drewN ?_ _ | refine Gr.grow ?_ _ | refine Gr.setCell ?_ (by (try simp); (try omega)) _)) _ HG.out).mono ?_; rintro e W1 ⟨rfl, h1⟩; have a01 : W1.cell? ⟨w.heap.size, 0, none⟩ = some (.int .i64 W) := h1.keep0 (by simp [go_sem]); have a11 : W1.cell? ⟨w.heap.size, 1, none⟩ = some (.int .i64 H) := h1.keep0 (by simp [go_sem]); have a21 : W1.cell? ⟨w.heap.size, 2, none⟩ = some (.slice A ps.length c) := h1.keep0 (by simp [go_sem]); have b01 : W1.cell? ⟨w.heap.size + 1, 0, none⟩ = some (.int .i64 x) := h1.keep0 (by simp [go_sem]); have b11 : W1.cell? ⟨w.heap.size + 1, 1, none⟩ = some (.int .i64 y) := h1.keep0 (by simp [go_sem]); have b21 : W1.cell? ⟨w.heap.size + 1, 2, none⟩ = some (.bool u) := h1.keep0 (by simp [go_sem]); have r01 : W1.cell? ⟨w.heap.size + 2, 0, none⟩ = some (.int .i64 0) := h1.keep0 (by simp [go_sem]); have r11 : W1.cell? ⟨w.heap.size + 2, 1, none⟩ = some (.int .i64 0) := h1.keep0 (by simp [go_sem]); have r21 : W1.cell? ⟨w.heap.size + 2, 2, none⟩ = some (.slice none 0 0) := h1.keep0 (by simp [go_sem]); have rf1 : ∀ o, W1.frozen? ⟨w.heap.size + 2, o, none⟩ = false := fun o => ((bcell h1.below).2 _ _ (by simp)).trans (by simp [go_sem])))
      refine bodyPost_ret (v := .tuple #[.agg #[.int .i64 0, .int .i64 0, .slice none 0 0], .bool false]) (by simp [results, Try.results15, go_sem, r01, r11, r21]) rfl ⟨_, rfl, OwnE.nil _ _ _ _ _, Gr.below (by repeat (first | exact Gr.refl _ | refine Gr.alloc ?_ _ | refine Gr.trans ?_ (by assumption) | refine Gr.drew ?_ | refine Gr.drewN ?_ _ | refine Gr.grow ?_ _ | refine Gr.setCell ?_ (by (try simp); (try omega)) _))⟩
    · have HG := Lib.hid hg
      have HC := Lib.hid (show has ps (x, y, u) = false by unfold obB at hb; rw [hg, Bool.true_and] at hb; exact hb)
      clear hb hg h
      go_enter Try.func15, Try.ntmps15
      go_wp2_with (first | (go_at_call 28; refine (GD.out _ (by repeat (first | exact Gr.refl _ | refine Gr.alloc ?_ _ | refine Gr.trans ?_ (by assumption) | refine Gr.drew ?_ | refine Gr.drewN ?_ _ | refine Gr.grow ?_ _ | refine Gr.setCell ?_ (by (try simp); (try omega)) _)) _ HG.out).mono ?_; rintro e W1 ⟨rfl, h1⟩; have a01 : W1.cell? ⟨w.heap.size, 0, none⟩ = some (.int .i64 W) := h1.keep0 (by simp [go_sem]); have a11 : W1.cell? ⟨w.heap.size, 1, none⟩ = some (.int .i64 H) := h1.keep0 (by simp [go_sem]); have a21 : W1.cell? ⟨w.heap.size, 2, none⟩ = some (.slice A ps.length c) := h1.keep0 (by simp [go_sem]); have b01 : W1.cell? ⟨w.heap.size + 1, 0, none⟩ = some (.int .i64 x) := h1.keep0 (by simp [go_sem]); have b11 : W1.cell? ⟨w.heap.size + 1, 1, none⟩ = some (.int .i64 y) := h1.keep0 (by simp [go_sem]); have b21 : W1.cell? ⟨w.heap.size + 1, 2, none⟩ = some (.bool u) := h1.keep0 (by simp [go_sem]); have r01 : W1.cell? ⟨w.heap.size + 2, 0, none⟩ = some (.int .i64 0) := h1.keep0 (by simp [go_sem]); have r11 : W1.cell? ⟨w.heap.size + 2, 1, none⟩ = some (.int .i64 0) := h1.keep0 (by simp [go_sem]); have r21 : W1.cell? ⟨w.heap.size + 2, 2, none⟩ = some (.slice none 0 0) := h1.keep0 (by simp [go_sem]); have rf1 : ∀ o, W1.frozen? ⟨w.heap.size + 2, o, none⟩ = false := fun o => ((bcell h1.below).2 _ _ (by simp)).trans (by simp [go_sem])) | (go_at_call 30; refine (SH.out _ (by repeat (first | exact Gr.refl _ | refine Gr.alloc ?_ _ | refine Gr.trans ?_ (by assumption) | refine Gr.drew ?_ | refine Gr.drewN ?_ _ | refine Gr.grow ?_ _ | refine Gr.setCell ?_ (by (try simp); (try omega)) _)) _ HC.out).mono ?_; rintro e W2 ⟨rfl, h2⟩; have h3 := h1.trans h2; have a02 : W2.cell? ⟨w.heap.size, 0, none⟩ = some (.int .i64 W) := h3.keep0 (by simp [go_sem]); have a12 : W2.cell? ⟨w.heap.size, 1, none⟩ = some (.int .i64 H) := h3.keep0 (by simp [go_sem]); have a22 : W2.cell? ⟨w.heap.size, 2, none⟩ = some (.slice A ps.length c) := h3.keep0 (by simp [go_sem]); have b02 : W2.cell? ⟨w.heap.size + 1, 0, none⟩ = some (.int .i64 x) := h3.keep0 (by simp [go_sem]); have b12 : W2.cell? ⟨w.heap.size + 1, 1, none⟩ = some (.int .i64 y) := h3.keep0 (by simp [go_sem]); have b22 : W2.cell? ⟨w.heap.size + 1, 2, none⟩ = some (.bool u) := h3.keep0 (by simp [go_sem]); have r02 : W2.cell? ⟨w.heap.size + 2, 0, none⟩ = some (.int .i64 0) := h3.keep0 (by simp [go_sem]); have r12 : W2.cell? ⟨w.heap.size + 2, 1, none⟩ = some (.int .i64 0) := h3.keep0 (by simp [go_sem]); have r22 : W2.cell? ⟨w.heap.size + 2, 2, none⟩ = some (.slice none 0 0) := h3.keep0 (by simp [go_sem]); have rf2 : ∀ o, W2.frozen? ⟨w.heap.size + 2, o, none⟩ = false := fun o => ((bcell h3.below).2 _ _ (by simp)).trans (by simp [go_sem])))
      refine bodyPost_ret (v := .tuple #[.agg #[.int .i64 0, .int .i64 0, .slice none 0 0], .bool false]) (by simp [results, Try.results15, go_sem, r02, r12, r22]) rfl ⟨_, rfl, OwnE.nil _ _ _ _ _, Gr.below (by repeat (first | exact Gr.refl _ | refine Gr.alloc ?_ _ | refine Gr.trans ?_ (by assumption) | refine Gr.drew ?_ | refine Gr.drewN ?_ _ | refine Gr.grow ?_ _ | refine Gr.setCell ?_ (by (try simp); (try omega)) _))⟩
  · rw [show obL W H ps (x, y, u) = ps.filter (fun z => !decide (z = (x, y, u))) by simp [obL, hb]]
    unfold ifN
    simp only [if_true]
    have hb' := hb
    unfold obB at hb'
    rw [Bool.and_eq_true] at hb'
    have HG := Lib.hid hb'.1
    have ok := of_decide_eq_true hb'.1
    have h30 := ok.2.2.2.2.1
    have hu := ok.2.2.2.2.2.2
    have HC := Lib.hid hb'.2
    have OP := Lib.hid (fun (X : World) (g : Gr w X) => Try.avOpen X W H B _ ps x y u (by omega) (OwnE.gr h g))
    generalize ps.filter (fun z => !decide (z = (x, y, u))) = R at *
    clear hb hb' h ok hu h30
    go_enter Try.func15, Try.ntmps15
    go_wp2_with (first | (go_at_call 28; refine (GD.out _ (by repeat (first | exact Gr.refl _ | refine Gr.alloc ?_ _ | refine Gr.trans ?_ (by assumption) | refine Gr.drew ?_ | refine Gr.drewN ?_ _ | refine Gr.grow ?_ _ | refine Gr.setCell ?_ (by (try simp); (try omega)) _)) _ HG.out).mono ?_; rintro e W1 ⟨rfl, h1⟩; have a01 : W1.cell? ⟨w.heap.size, 0, none⟩ = some (.int .i64 W) := h1.keep0 (by simp [go_sem]); have a11 : W1.cell? ⟨w.heap.size, 1, none⟩ = some (.int .i64 H) := h1.keep0 (by simp [go_sem]); have a21 : W1.cell? ⟨w.heap.size, 2, none⟩ = some (.slice A ps.length c) := h1.keep0 (by simp [go_sem]); have b01 : W1.cell? ⟨w.heap.size + 1, 0, none⟩ = some (.int .i64 x) := h1.keep0 (by simp [go_sem]); have b11 : W1.cell? ⟨w.heap.size + 1, 1, none⟩ = some (.int .i64 y) := h1.keep0 (by simp [go_sem]); have b21 : W1.cell? ⟨w.heap.size + 1, 2, none⟩ = some (.bool u) := h1.keep0 (by simp [go_sem]); have r01 : W1.cell? ⟨w.heap.size + 2, 0, none⟩ = some (.int .i64 0) := h1.keep0 (by simp [go_sem]); have r11 : W1.cell? ⟨w.heap.size + 2, 1, none⟩ = some (.int .i64 0) := h1.keep0 (by simp [go_sem]); have r21 : W1.cell? ⟨w.heap.size + 2, 2, none⟩ = some (.slice none 0 0) := h1.keep0 (by simp [go_sem]); have rf1 : ∀ o, W1.frozen? ⟨w.heap.size + 2, o, none⟩ = false := fun o => ((bcell h1.below).2 _ _ (by simp)).trans (by simp [go_sem])) | (go_at_call 30; refine (SH.out _ (by repeat (first | exact Gr.refl _ | refine Gr.alloc ?_ _ | refine Gr.trans ?_ (by assumption) | refine Gr.drew ?_ | refine Gr.drewN ?_ _ | refine Gr.grow ?_ _ | refine Gr.setCell ?_ (by (try simp); (try omega)) _)) _ HC.out).mono ?_; rintro e W2 ⟨rfl, h2⟩; have h3 := h1.trans h2; have a02 : W2.cell? ⟨w.heap.size, 0, none⟩ = some (.int .i64 W) := h3.keep0 (by simp [go_sem]); have a12 : W2.cell? ⟨w.heap.size, 1, none⟩ = some (.int .i64 H) := h3.keep0 (by simp [go_sem]); have a22 : W2.cell? ⟨w.heap.size, 2, none⟩ = some (.slice A ps.length c) := h3.keep0 (by simp [go_sem]); have b02 : W2.cell? ⟨w.heap.size + 1, 0, none⟩ = some (.int .i64 x) := h3.keep0 (by simp [go_sem]); have b12 : W2.cell? ⟨w.heap.size + 1, 1, none⟩ = some (.int .i64 y) := h3.keep0 (by simp [go_sem]); have b22 : W2.cell? ⟨w.heap.size + 1, 2, none⟩ = some (.bool u) := h3.keep0 (by simp [go_sem]); have r02 : W2.cell? ⟨w.heap.size + 2, 0, none⟩ = some (.int .i64 0) := h3.keep0 (by simp [go_sem]); have r12 : W2.cell? ⟨w.heap.size + 2, 1, none⟩ = some (.int .i64 0) := h3.keep0 (by simp [go_sem]); have r22 : W2.cell? ⟨w.heap.size + 2, 2, none⟩ = some (.slice none 0 0) := h3.keep0 (by simp [go_sem]); have rf2 : ∀ o, W2.frozen? ⟨w.heap.size + 2, o, none⟩ = false := fun o => ((bcell h3.below).2 _ _ (by simp)).trans (by simp [go_sem])) | (go_at_call 37; refine (OP.out _ (by repeat (first | exact Gr.refl _ | refine Gr.alloc ?_ _ | refine Gr.trans ?_ (by assumption) | refine Gr.drew ?_ | refine Gr.drewN ?_ _ | refine Gr.grow ?_ _ | refine Gr.setCell ?_ (by (try simp); (try omega)) _))).mono ?_; rintro e W3 ⟨v3, rfl, ho3, hb3⟩; obtain ⟨A3, c3, rfl, ho3⟩ := OwnE.eta ho3; have zz := World.block_lt_of_cell? _ _ r02; have r03 := cell_k2 hb3 r02; have r13 := cell_k2 hb3 r12; have r23 := cell_k2 hb3 r22; have rf3 : ∀ o, W3.frozen? ⟨w.heap.size + 2, o, none⟩ = false := fun o => (hb3.frozen (p := ⟨w.heap.size + 2, o, none⟩) zz).trans (rf2 o)))
    have GG := (show Gr w W2 from (Gr.alloc (Gr.alloc (Gr.alloc (Gr.refl w) _) _) _).trans h3).below
    have zq : w.heap.size + 2 < W2.heap.size := zz
    refine bodyPost_ret (v := .tuple #[.agg #[.int .i64 W, .int .i64 H, .slice A3 R.length c3], .bool true]) (by simp [results, Try.results15, go_sem, r03, r13, r23]) rfl ⟨_, rfl, ?_, ?_⟩
    · exact OwnE.mono (OwnE.setOther (a := ⟨w.heap.size + 2, 2, none⟩) (OwnE.setOther (a := ⟨w.heap.size + 2, 1, none⟩) (OwnE.setOther (a := ⟨w.heap.size + 2, 0, none⟩) ho3 zq _) zq _) zq _) (by omega)
    · exact (((GG.trans (hb3.mono GG.size)).setCell (by simp; omega) _).setCell (by simp; omega) _).setCell (by simp; omega) _
set_option maxRecDepth 100000 in
set_option maxHeartbeats 1600000 in
theorem Try.iOpenBlock (w : World) (W H : Int) (B : Nat) (a : Value) (ps : List Blk) (x y : Int) (u : Bool) (hl : ps.length ≤ 1048576) (h : OwnB w B a ps) :
    Calls Try.prog 16 #[.agg #[.int .i64 W, .int .i64 H, a], .agg #[.int .i64 x, .int .i64 y, .bool u]] w (RetC w (ifN (obB W H ps (x, y, u)) W) (ifN (obB W H ps (x, y, u)) H) (obL W H ps (x, y, u)) (obB W H ps (x, y, u))) := by
  obtain ⟨A, c, rfl, h⟩ := OwnE.eta h
  have GD := Lib.hid (fun (X : World) (g : Gr w X) v hv => Try.iIsCity X W H B _ ps v hv hl (OwnE.gr h g))
  cases hb : obB W H ps (x, y, u)
  · rw [show obL W H ps (x, y, u) = [] by simp [obL, hb]]
    unfold ifN
    simp only [Bool.false_eq_true, if_false]
    cases hg : okB W H ps
    · have HG := Lib.hid hg
      clear hb hg h
      go_enter Try.func16, Try.ntmps16
      go_wp2_with (first | (go_at_call 33; refine (GD.out _ (by repeat (first | exact Gr.refl _ | refine Gr.alloc ?_ _ | refine Gr.trans ?_ (by assumption) | refine Gr.drew ?_ | refine Gr.drewN ?_ _ | refine Gr.grow ?_ _ | refine Gr.setCell ?_ (by (try simp); (try omega)) _)) _ HG.out).mono ?_; rintro e W1 ⟨rfl, h1⟩; have a01 : W1.cell? ⟨w.heap.size, 0, none⟩ = some (.int .i64 W) := h1.keep0 (by simp [go_sem]); have a11 : W1.cell? ⟨w.heap.size, 1, none⟩ = some (.int .i64 H) := h1.keep0 (by simp [go_sem]); have a21 : W1.cell? ⟨w.heap.size, 2, none⟩ = some (.slice A ps.length c) := h1.keep0 (by simp [go_sem]); have b01 : W1.cell? ⟨w.heap.size + 1, 0, none⟩ = some (.int .i64 x) := h1.keep0 (by simp [go_sem]); have b11 : W1.cell? ⟨w.heap.size + 1, 1, none⟩ = some (.int .i64 y) := h1.keep0 (by simp [go_sem]); have b21 : W1.cell? ⟨w.heap.size + 1, 2, none⟩ = some (.bool u) := h1.keep0 (by simp [go_sem]); have r01 : W1.cell? ⟨w.heap.size + 2, 0, none⟩ = some (.int .i64 0) := h1.keep0 (by simp [go_sem]); have r11 : W1.cell? ⟨w.heap.size + 2, 1, none⟩ = some (.int .i64 0) := h1.keep0 (by simp [go_sem]); have r21 : W1.cell? ⟨w.heap.size + 2, 2, none⟩ = some (.slice none 0 0) := h1.keep0 (by simp [go_sem]); have rf1 : ∀ o, W1.frozen? ⟨w.heap.size + 2, o, none⟩ = false := fun o => ((bcell h1.below).2 _ _ (by simp)).trans (by simp [go_sem])))
      refine bodyPost_ret (v := .tuple #[.agg #[.int .i64 0, .int .i64 0, .slice none 0 0], .bool false]) (by simp [results, Try.results16, go_sem, r01, r11, r21]) rfl ⟨_, rfl, OwnE.nil _ _ _ _ _, Gr.below (by repeat (first | exact Gr.refl _ | refine Gr.alloc ?_ _ | refine Gr.trans ?_ (by assumption) | refine Gr.drew ?_ | refine Gr.drewN ?_ _ | refine Gr.grow ?_ _ | refine Gr.setCell ?_ (by (try simp); (try omega)) _))⟩
    · have HG := Lib.hid hg
      have hh : has ps (x, y, u) = false := by unfold obB at hb; rw [hg, Bool.true_and] at hb; exact hb
      have SH := Lib.hid (fun (X : World) (g : Gr w X) => Try.placeOfClosed X W H B _ ps x y u (of_decide_eq_true hg).2.2.2.2.2.2 hl (OwnE.gr h g))
      rw [hh] at SH
      generalize plc ps (x, y, u) = pk at *
      clear hb hg h hh
      go_enter Try.func16, Try.ntmps16
      go_wp2_with (first | (go_at_call 33; refine (GD.out _ (by repeat (first | exact Gr.refl _ | refine Gr.alloc ?_ _ | refine Gr.trans ?_ (by assumption) | refine Gr.drew ?_ | refine Gr.drewN ?_ _ | refine Gr.grow ?_ _ | refine Gr.setCell ?_ (by (try simp); (try omega)) _)) _ HG.out).mono ?_; rintro e W1 ⟨rfl, h1⟩; have a01 : W1.cell? ⟨w.heap.size, 0, none⟩ = some (.int .i64 W) := h1.keep0 (by simp [go_sem]); have a11 : W1.cell? ⟨w.heap.size, 1, none⟩ = some (.int .i64 H) := h1.keep0 (by simp [go_sem]); have a21 : W1.cell? ⟨w.heap.size, 2, none⟩ = some (.slice A ps.length c) := h1.keep0 (by simp [go_sem]); have b01 : W1.cell? ⟨w.heap.size + 1, 0, none⟩ = some (.int .i64 x) := h1.keep0 (by simp [go_sem]); have b11 : W1.cell? ⟨w.heap.size + 1, 1, none⟩ = some (.int .i64 y) := h1.keep0 (by simp [go_sem]); have b21 : W1.cell? ⟨w.heap.size + 1, 2, none⟩ = some (.bool u) := h1.keep0 (by simp [go_sem]); have r01 : W1.cell? ⟨w.heap.size + 2, 0, none⟩ = some (.int .i64 0) := h1.keep0 (by simp [go_sem]); have r11 : W1.cell? ⟨w.heap.size + 2, 1, none⟩ = some (.int .i64 0) := h1.keep0 (by simp [go_sem]); have r21 : W1.cell? ⟨w.heap.size + 2, 2, none⟩ = some (.slice none 0 0) := h1.keep0 (by simp [go_sem]); have rf1 : ∀ o, W1.frozen? ⟨w.heap.size + 2, o, none⟩ = false := fun o => ((bcell h1.below).2 _ _ (by simp)).trans (by simp [go_sem])) | (go_at_call 35; refine (SH.out _ (by repeat (first | exact Gr.refl _ | refine Gr.alloc ?_ _ | refine Gr.trans ?_ (by assumption) | refine Gr.drew ?_ | refine Gr.drewN ?_ _ | refine Gr.grow ?_ _ | refine Gr.setCell ?_ (by (try simp); (try omega)) _))).mono ?_; rintro e W2 ⟨rfl, h2⟩; have h3 := h1.trans h2; have a02 : W2.cell? ⟨w.heap.size, 0, none⟩ = some (.int .i64 W) := h3.keep0 (by simp [go_sem]); have a12 : W2.cell? ⟨w.heap.size, 1, none⟩ = some (.int .i64 H) := h3.keep0 (by simp [go_sem]); have a22 : W2.cell? ⟨w.heap.size, 2, none⟩ = some (.slice A ps.length c) := h3.keep0 (by simp [go_sem]); have b02 : W2.cell? ⟨w.heap.size + 1, 0, none⟩ = some (.int .i64 x) := h3.keep0 (by simp [go_sem]); have b12 : W2.cell? ⟨w.heap.size + 1, 1, none⟩ = some (.int .i64 y) := h3.keep0 (by simp [go_sem]); have b22 : W2.cell? ⟨w.heap.size + 1, 2, none⟩ = some (.bool u) := h3.keep0 (by simp [go_sem]); have r02 : W2.cell? ⟨w.heap.size + 2, 0, none⟩ = some (.int .i64 0) := h3.keep0 (by simp [go_sem]); have r12 : W2.cell? ⟨w.heap.size + 2, 1, none⟩ = some (.int .i64 0) := h3.keep0 (by simp [go_sem]); have r22 : W2.cell? ⟨w.heap.size + 2, 2, none⟩ = some (.slice none 0 0) := h3.keep0 (by simp [go_sem]); have rf2 : ∀ o, W2.frozen? ⟨w.heap.size + 2, o, none⟩ = false := fun o => ((bcell h3.below).2 _ _ (by simp)).trans (by simp [go_sem])))
      refine bodyPost_ret (v := .tuple #[.agg #[.int .i64 0, .int .i64 0, .slice none 0 0], .bool false]) (by simp [results, Try.results16, go_sem, r02, r12, r22]) rfl ⟨_, rfl, OwnE.nil _ _ _ _ _, Gr.below (by repeat (first | exact Gr.refl _ | refine Gr.alloc ?_ _ | refine Gr.trans ?_ (by assumption) | refine Gr.drew ?_ | refine Gr.drewN ?_ _ | refine Gr.grow ?_ _ | refine Gr.setCell ?_ (by (try simp); (try omega)) _))⟩
  · rw [show obL W H ps (x, y, u) = ps.filter (fun z => !decide (z = (x, y, u))) by simp [obL, hb]]
    unfold ifN
    simp only [if_true]
    have hb' := hb
    unfold obB at hb'
    rw [Bool.and_eq_true] at hb'
    have HG := Lib.hid hb'.1
    have ok := of_decide_eq_true hb'.1
    have h30 := ok.2.2.2.2.1
    have hu := ok.2.2.2.2.2.2
    have hm := (has_iff hu (x, y, u)).1 (of_decide_eq_true hb'.2)
    have hdf := del_filter hu (plc ps (x, y, u)) hm.1
    rw [hm.2] at hdf
    have OP := Lib.hid (fun (X : World) (g : Gr w X) => Try.opening X W H B _ ps (plc ps (x, y, u)) hm.1 (by omega) (OwnE.gr h g))
    have SH := Lib.hid (fun (X : World) (g : Gr w X) => Try.placeOfClosed X W H B _ ps x y u hu hl (OwnE.gr h g))
    rw [hb'.2] at SH
    rw [← hdf] at OP
    generalize ps.filter (fun z => !decide (z = (x, y, u))) = R at *
    generalize plc ps (x, y, u) = pk at *
    clear hb hb' h ok hu h30 hm hdf
    go_enter Try.func16, Try.ntmps16
    go_wp2_with (first | (go_at_call 33; refine (GD.out _ (by repeat (first | exact Gr.refl _ | refine Gr.alloc ?_ _ | refine Gr.trans ?_ (by assumption) | refine Gr.drew ?_ | refine Gr.drewN ?_ _ | refine Gr.grow ?_ _ | refine Gr.setCell ?_ (by (try simp); (try omega)) _)) _ HG.out).mono ?_; rintro e W1 ⟨rfl, h1⟩; have a01 : W1.cell? ⟨w.heap.size, 0, none⟩ = some (.int .i64 W) := h1.keep0 (by simp [go_sem]); have a11 : W1.cell? ⟨w.heap.size, 1, none⟩ = some (.int .i64 H) := h1.keep0 (by simp [go_sem]); have a21 : W1.cell? ⟨w.heap.size, 2, none⟩ = some (.slice A ps.length c) := h1.keep0 (by simp [go_sem]); have b01 : W1.cell? ⟨w.heap.size + 1, 0, none⟩ = some (.int .i64 x) := h1.keep0 (by simp [go_sem]); have b11 : W1.cell? ⟨w.heap.size + 1, 1, none⟩ = some (.int .i64 y) := h1.keep0 (by simp [go_sem]); have b21 : W1.cell? ⟨w.heap.size + 1, 2, none⟩ = some (.bool u) := h1.keep0 (by simp [go_sem]); have r01 : W1.cell? ⟨w.heap.size + 2, 0, none⟩ = some (.int .i64 0) := h1.keep0 (by simp [go_sem]); have r11 : W1.cell? ⟨w.heap.size + 2, 1, none⟩ = some (.int .i64 0) := h1.keep0 (by simp [go_sem]); have r21 : W1.cell? ⟨w.heap.size + 2, 2, none⟩ = some (.slice none 0 0) := h1.keep0 (by simp [go_sem]); have rf1 : ∀ o, W1.frozen? ⟨w.heap.size + 2, o, none⟩ = false := fun o => ((bcell h1.below).2 _ _ (by simp)).trans (by simp [go_sem])) | (go_at_call 35; refine (SH.out _ (by repeat (first | exact Gr.refl _ | refine Gr.alloc ?_ _ | refine Gr.trans ?_ (by assumption) | refine Gr.drew ?_ | refine Gr.drewN ?_ _ | refine Gr.grow ?_ _ | refine Gr.setCell ?_ (by (try simp); (try omega)) _))).mono ?_; rintro e W2 ⟨rfl, h2⟩; have h3 := h1.trans h2; have a02 : W2.cell? ⟨w.heap.size, 0, none⟩ = some (.int .i64 W) := h3.keep0 (by simp [go_sem]); have a12 : W2.cell? ⟨w.heap.size, 1, none⟩ = some (.int .i64 H) := h3.keep0 (by simp [go_sem]); have a22 : W2.cell? ⟨w.heap.size, 2, none⟩ = some (.slice A ps.length c) := h3.keep0 (by simp [go_sem]); have b02 : W2.cell? ⟨w.heap.size + 1, 0, none⟩ = some (.int .i64 x) := h3.keep0 (by simp [go_sem]); have b12 : W2.cell? ⟨w.heap.size + 1, 1, none⟩ = some (.int .i64 y) := h3.keep0 (by simp [go_sem]); have b22 : W2.cell? ⟨w.heap.size + 1, 2, none⟩ = some (.bool u) := h3.keep0 (by simp [go_sem]); have r02 : W2.cell? ⟨w.heap.size + 2, 0, none⟩ = some (.int .i64 0) := h3.keep0 (by simp [go_sem]); have r12 : W2.cell? ⟨w.heap.size + 2, 1, none⟩ = some (.int .i64 0) := h3.keep0 (by simp [go_sem]); have r22 : W2.cell? ⟨w.heap.size + 2, 2, none⟩ = some (.slice none 0 0) := h3.keep0 (by simp [go_sem]); have rf2 : ∀ o, W2.frozen? ⟨w.heap.size + 2, o, none⟩ = false := fun o => ((bcell h3.below).2 _ _ (by simp)).trans (by simp [go_sem])) | (go_at_call 38; refine (OP.out _ (by repeat (first | exact Gr.refl _ | refine Gr.alloc ?_ _ | refine Gr.trans ?_ (by assumption) | refine Gr.drew ?_ | refine Gr.drewN ?_ _ | refine Gr.grow ?_ _ | refine Gr.setCell ?_ (by (try simp); (try omega)) _))).mono ?_; rintro e W3 ⟨v3, rfl, ho3, hb3⟩; obtain ⟨A3, c3, rfl, ho3⟩ := OwnE.eta ho3; have zz := World.block_lt_of_cell? _ _ r02; have r03 := cell_k2 hb3 r02; have r13 := cell_k2 hb3 r12; have r23 := cell_k2 hb3 r22; have rf3 : ∀ o, W3.frozen? ⟨w.heap.size + 2, o, none⟩ = false := fun o => (hb3.frozen (p := ⟨w.heap.size + 2, o, none⟩) zz).trans (rf2 o)))
    have GG := (show Gr w W2 from (Gr.alloc (Gr.alloc (Gr.alloc (Gr.refl w) _) _) _).trans h3).below
    have zq : w.heap.size + 2 < W2.heap.size := zz
    refine bodyPost_ret (v := .tuple #[.agg #[.int .i64 W, .int .i64 H, .slice A3 R.length c3], .bool true]) (by simp [results, Try.results16, go_sem, r03, r13, r23]) rfl ⟨_, rfl, ?_, ?_⟩
    · exact OwnE.mono (OwnE.setOther (a := ⟨w.heap.size + 2, 2, none⟩) (OwnE.setOther (a := ⟨w.heap.size + 2, 1, none⟩) (OwnE.setOther (a := ⟨w.heap.size + 2, 0, none⟩) ho3 zq _) zq _) zq _) (by omega)
    · exact (((GG.trans (hb3.mono GG.size)).setCell (by simp; omega) _).setCell (by simp; omega) _).setCell (by simp; omega) _
end Go.Proofs
