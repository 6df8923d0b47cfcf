/-
  Chapter 4: a city told from the other side, the model.
-/
import Derived.Test.YtnpkhoiblemodaaCbC
import Derived.Test.YtnpkhoiblemodaaMrW
import Derived.Deep.DeepCutAuto
namespace Go.Proofs
open Go.RowKit Av
set_option linter.unusedVariables false
set_option linter.unusedSimpArgs false
def MRel (w W0 : World) (W H : Int) (V : Value) (ps : List Blk) (i : Value) (wr : World) : Prop := ∃ k : Nat, k ≤ ps.length ∧ i = .int .i64 k ∧ ∃ A4 c4, OwnB wr (w.heap.size + 3) (.slice A4 k c4) (mirL W ps k) ∧ Bx wr w.heap.size (.int .i64 W) (.int .i64 H) V ∧ Bx wr (w.heap.size + 1) (.int .i64 0) (.int .i64 0) (.slice none 0 0) ∧ Bx wr (w.heap.size + 2) (.int .i64 W) (.int .i64 H) (.slice A4 k c4) ∧ Below w.heap.size w wr
set_option maxRecDepth 100000 in
set_option maxHeartbeats 3200000 in
theorem Try.avMirror (w : World) (W H : Int) (B : Nat) (a : Value) (ps : List Blk) (hg : okB W H ps = true) (h : OwnB w B a ps) :
    Calls Try.prog 48 #[.agg #[.int .i64 W, .int .i64 H, a]] w (RetT w W H (mirL W ps ps.length)) := by
  have mixed : Try.prog.follows .mixedOrders = true := by kernel_rfl
  have hok : Ok W H ps := of_decide_eq_true hg
  have HOK := Lib.hid (mirL_ok hok)
  have HIS := Lib.hid (fun j hj => hok.2.2.2.2.2.1 _ (getD_mem ps j hj))
  have h30 := hok.2.2.2.2.1
  have w8 := hok.2.1
  have w1 := hok.1
  obtain ⟨A, c, rfl, h2⟩ := OwnE.eta h
  have HC := Lib.hid (OwnB.elsM h2)
  clear h h2 hg hok
  go_enter Try.func48, Try.ntmps48
  go_wp2
  go_loopw [5, 6, 15] (fun _ _ i wr => MRel w w W H (.slice A ps.length c) ps i wr) (fun _ _ i _ => (ps.length - intOf i).toNat)
  case atStart => exact ⟨0, Nat.zero_le _, rfl, none, 0, OwnE.nil _ _ _ _ _, ⟨by simp [go_sem], by simp [go_sem], by simp [go_sem], fun o => by simp [go_sem]⟩, ⟨by simp [go_sem], by simp [go_sem], by simp [go_sem], fun o => by simp [go_sem]⟩, ⟨by simp [go_sem], by simp [go_sem], by simp [go_sem], fun o => by simp [go_sem]⟩, Gr.below (by repeat (first | exact Gr.refl _ | refine Gr.alloc ?_ _ | refine Gr.trans ?_ (by assumption) | refine Gr.drew ?_ | refine Gr.drewN ?_ _ | refine Gr.grow ?_ _ | refine Gr.setCell ?_ (by (try simp); (try omega)) _))⟩
  case round =>
    obtain ⟨k, hk, rfl, A4, c4, ho, x1, x2, x3, hb⟩ := hrel
    by_cases hlt : k < ps.length
    · obtain ⟨g, rfl, c0, c1, c2⟩ := HC.out k hlt
      have q := HIS.out k hlt
      have hst := mirL_step W hlt
      rcases hp : ps.getD k b0 with ⟨x, y, u⟩
      rw [hp] at c0 c1 c2 q hst
      simp only at c0 c1 c2
      have e0 := cell_k2 hb c0
      have e1 := cell_k2 hb c1
      have e2 := cell_k2 hb c2
      have z0 : (0 : Int) ≤ (k : Int) := by omega
      have z1 : (k : Int) < (ps.length : Int) := by omega
      have ub := up_b (x, y, u)
      have bx0 : 0 ≤ x := q.1
      have bx1 : x ≤ 7 := by have := q.2.1; simp only at this; omega
      have HST := Lib.hid hst
      obtain ⟨X, hX⟩ : ∃ X, wr.alloc (.cells #[.int .i64 x, .int .i64 y, .bool u] 34) = X := ⟨_, rfl⟩
      have gX : Gr wr X := by rw [← hX]; exact Gr.alloc (Gr.refl _) _
      have y0 : X.cell? ⟨wr.heap.size, 0, none⟩ = some (.int .i64 x) := by rw [← hX]; simp [go_sem]
      have y1 : X.cell? ⟨wr.heap.size, 1, none⟩ = some (.int .i64 y) := by rw [← hX]; simp [go_sem]
      have y2 : X.cell? ⟨wr.heap.size, 2, none⟩ = some (.bool u) := by rw [← hX]; simp [go_sem]
      have l3 := x3.lt
      have X1 := Lib.hid (x1.bel gX.below x1.lt)
      have X2 := Lib.hid (x2.bel gX.below x2.lt)
      have X3 := Lib.hid (x3.bel gX.below x3.lt)
      have szX := gX.below.size
      have HO := Lib.hid (OwnE.gr ho gX)
      have HBX := Lib.hid (hb.trans (gX.below.mono hb.size))
      obtain ⟨p0, p1, p2, _⟩ := X1.out
      obtain ⟨s0, s1, s2, _⟩ := X3.out
      have HX := Lib.hid hX
      have HM := Lib.hid (HOK.out k hk)
      clear hX gX c0 c1 c2 x1 x2 x3 ho hb q hp hst ub
      cases u
      · have hm : mirB W (x, y, false) = (W - 1 - x - 1, y, false) := by simp [mirB, up]
        rw [hm] at HST
        clear hm
        go_upto_region 5 with fail
        rw [HX.out]
        clear HX
        go_wp2_with (first | (go_at_call 31; refine (Try.avClose _ W H _ _ (mirL W ps k) _ _ _ HM.out.1.2.2.2.2.2.2 (by have := HM.out.2; omega) HO.out).mono ?_; rintro e w2 ⟨v2, rfl, ho2, hb2⟩; obtain ⟨A5, c5, e5, ho2⟩ := OwnE.eta ho2; rw [ins_len, HM.out.2] at e5 ho2; subst e5; have Y1 := Lib.hid (X1.out.bel hb2 X1.out.lt); have Y2 := Lib.hid (X2.out.bel hb2 X2.out.lt); have Y3 := Lib.hid (X3.out.bel hb2 X3.out.lt); obtain ⟨u0, u1, u2, uf⟩ := Y3.out; have HO2 := Lib.hid ho2; have HB2 := Lib.hid hb2; clear ho2 hb2))
        have lX : w.heap.size + 2 < X.heap.size := X3.out.lt
        go_roundw
        case rel => exact ⟨k + 1, by omega, by go_num, A5, c5, by rw [HST.out]; exact OwnB.set3o (OwnE.mono HO2.out (by omega)) (by omega), Bx.set Y1.out (by omega), Bx.set Y2.out (by omega), Bx.own Y3.out, Below.set3 (HBX.out.trans (HB2.out.mono HBX.out.size)) (by omega)⟩
        case measure => simp [intOf]; omega
      · have hm : mirB W (x, y, true) = (W - 1 - x, y, true) := by simp [mirB, up]
        rw [hm] at HST
        clear hm
        go_upto_region 5 with fail
        rw [HX.out]
        clear HX
        go_wp2_with (first | (go_at_call 31; refine (Try.avClose _ W H _ _ (mirL W ps k) _ _ _ HM.out.1.2.2.2.2.2.2 (by have := HM.out.2; omega) HO.out).mono ?_; rintro e w2 ⟨v2, rfl, ho2, hb2⟩; obtain ⟨A5, c5, e5, ho2⟩ := OwnE.eta ho2; rw [ins_len, HM.out.2] at e5 ho2; subst e5; have Y1 := Lib.hid (X1.out.bel hb2 X1.out.lt); have Y2 := Lib.hid (X2.out.bel hb2 X2.out.lt); have Y3 := Lib.hid (X3.out.bel hb2 X3.out.lt); obtain ⟨u0, u1, u2, uf⟩ := Y3.out; have HO2 := Lib.hid ho2; have HB2 := Lib.hid hb2; clear ho2 hb2))
        have lX : w.heap.size + 2 < X.heap.size := X3.out.lt
        go_roundw
        case rel => exact ⟨k + 1, by omega, by go_num, A5, c5, by rw [HST.out]; exact OwnB.set3o (OwnE.mono HO2.out (by omega)) (by omega), Bx.set Y1.out (by omega), Bx.set Y2.out (by omega), Bx.own Y3.out, Below.set3 (HBX.out.trans (HB2.out.mono HBX.out.size)) (by omega)⟩
        case measure => simp [intOf]; omega
    · obtain rfl : k = ps.length := by omega
      obtain ⟨s0, s1, s2, _⟩ := x3
      obtain ⟨r0, r1, r2, rf⟩ := x2
      have HO := Lib.hid ho
      have HB := Lib.hid hb
      have l2 : w.heap.size + 1 < w.heap.size + 3 := by omega
      clear ho hb x1
      go_wp2
      refine bodyPost_ret (v := .agg #[.int .i64 W, .int .i64 H, .slice A4 ps.length c4]) (by simp [results, Try.results48, go_sem, r0, r1, r2]) rfl ⟨_, rfl, ?_, ?_⟩
      · exact OwnE.mono (OwnB.set3o HO.out l2) (by omega)
      · exact Below.set3 HB.out (by omega)
def mrB (W H : Int) (ps : List Blk) : Bool := okB W H ps
def mrL (W H : Int) (ps : List Blk) : List Blk := if okB W H ps then mirL W ps ps.length else []
theorem mrL_len (W H : Int) (ps : List Blk) : (mrL W H ps).length ≤ 30 := by
  unfold mrL
  cases h : okB W H ps
  · simp
  · rw [if_pos rfl]
    have ok : Ok W H ps := of_decide_eq_true h
    rw [(mirL_ok ok _ (Nat.le_refl _)).2]
    exact ok.2.2.2.2.1
set_option maxRecDepth 100000 in
set_option maxHeartbeats 1600000 in
theorem Try.sMirrorCity (w : World) (W H : Int) (B : Nat) (a : Value) (ps : List Blk) (hl : ps.length ≤ 1048576) (h : OwnB w B a ps) :
    Calls Try.prog 25 #[.agg #[.int .i64 W, .int .i64 H, a]] w (RetC w (ifN (okB W H ps) W) (ifN (okB W H ps) H) (mrL W H ps) (okB W H ps)) := by
  obtain ⟨A, c, rfl, h2⟩ := OwnE.eta h
  cases hb : okB W H ps
  · rw [show mrL W H ps = [] by simp [mrL, hb]]
    unfold ifN
    simp only [Bool.false_eq_true, if_false]
    have PG := Lib.hid (fun (X : World) (g : Gr w X) => Try.avGood X W H B _ ps _ hb hl (OwnE.gr h2 g))
    clear hb h h2
    go_enter Try.func25, Try.ntmps25
    go_wp2_with (first | (go_at_call 28; refine (PG.out _ (by repeat (first | exact Gr.refl _ | refine Gr.alloc ?_ _ | refine Gr.trans ?_ (by assumption) | refine Gr.drew ?_ | refine Gr.drewN ?_ _ | refine Gr.grow ?_ _ | refine Gr.setCell ?_ (by (try simp); (try omega)) _))).mono ?_; rintro e W1 ⟨rfl, q1⟩; have a0 : W1.cell? ⟨w.heap.size, 0, none⟩ = some (.int .i64 W) := q1.keep0 (by simp [go_sem]); have a1 : W1.cell? ⟨w.heap.size, 1, none⟩ = some (.int .i64 H) := q1.keep0 (by simp [go_sem]); have a2 : W1.cell? ⟨w.heap.size, 2, none⟩ = some (.slice A ps.length c) := q1.keep0 (by simp [go_sem]); have r0 : W1.cell? ⟨w.heap.size + 1, 0, none⟩ = some (.int .i64 0) := q1.keep0 (by simp [go_sem]); have r1 : W1.cell? ⟨w.heap.size + 1, 1, none⟩ = some (.int .i64 0) := q1.keep0 (by simp [go_sem]); have r2 : W1.cell? ⟨w.heap.size + 1, 2, none⟩ = some (.slice none 0 0) := q1.keep0 (by simp [go_sem]); have rf : ∀ o, W1.frozen? ⟨w.heap.size + 1, o, none⟩ = false := fun o => ((bcell q1.below).2 _ _ (by simp)).trans (by simp [go_sem])))
    refine bodyPost_ret (v := .tuple #[.agg #[.int .i64 0, .int .i64 0, .slice none 0 0], .bool false]) (by simp [results, Try.results25, go_sem, r0, r1, r2]) rfl ⟨_, rfl, OwnE.nil _ _ _ _ _, Gr.below (by repeat (first | exact Gr.refl _ | refine Gr.alloc ?_ _ | refine Gr.trans ?_ (by assumption) | refine Gr.drew ?_ | refine Gr.drewN ?_ _ | refine Gr.grow ?_ _ | refine Gr.setCell ?_ (by (try simp); (try omega)) _))⟩
  · rw [show mrL W H ps = mirL W ps ps.length by simp [mrL, hb]]
    unfold ifN
    simp only [if_true]
    have PG := Lib.hid (fun (X : World) (g : Gr w X) => Try.avGood X W H B _ ps _ hb hl (OwnE.gr h2 g))
    have PM := Lib.hid (fun (X : World) (g : Gr w X) => Try.avMirror X W H B _ ps hb (OwnE.gr h2 g))
    generalize mirL W ps ps.length = R at *
    clear hb h h2
    go_enter Try.func25, Try.ntmps25
    go_wp2_with (first | (go_at_call 28; refine (PG.out _ (by repeat (first | exact Gr.refl _ | refine Gr.alloc ?_ _ | refine Gr.trans ?_ (by assumption) | refine Gr.drew ?_ | refine Gr.drewN ?_ _ | refine Gr.grow ?_ _ | refine Gr.setCell ?_ (by (try simp); (try omega)) _))).mono ?_; rintro e W1 ⟨rfl, q1⟩; have a0 : W1.cell? ⟨w.heap.size, 0, none⟩ = some (.int .i64 W) := q1.keep0 (by simp [go_sem]); have a1 : W1.cell? ⟨w.heap.size, 1, none⟩ = some (.int .i64 H) := q1.keep0 (by simp [go_sem]); have a2 : W1.cell? ⟨w.heap.size, 2, none⟩ = some (.slice A ps.length c) := q1.keep0 (by simp [go_sem]); have r0 : W1.cell? ⟨w.heap.size + 1, 0, none⟩ = some (.int .i64 0) := q1.keep0 (by simp [go_sem]); have r1 : W1.cell? ⟨w.heap.size + 1, 1, none⟩ = some (.int .i64 0) := q1.keep0 (by simp [go_sem]); have r2 : W1.cell? ⟨w.heap.size + 1, 2, none⟩ = some (.slice none 0 0) := q1.keep0 (by simp [go_sem]); have rf : ∀ o, W1.frozen? ⟨w.heap.size + 1, o, none⟩ = false := fun o => ((bcell q1.below).2 _ _ (by simp)).trans (by simp [go_sem])) | (go_at_call 48; refine (PM.out _ (by repeat (first | exact Gr.refl _ | refine Gr.alloc ?_ _ | refine Gr.trans ?_ (by assumption) | refine Gr.drew ?_ | refine Gr.drewN ?_ _ | refine Gr.grow ?_ _ | refine Gr.setCell ?_ (by (try simp); (try omega)) _))).mono ?_; rintro e W2 ⟨v2, rfl, ho2, hb2⟩; obtain ⟨A2, c2, rfl, ho2⟩ := OwnE.eta ho2; have zz := World.block_lt_of_cell? _ _ r0; have t0 := cell_k2 hb2 r0; have t1 := cell_k2 hb2 r1; have t2 := cell_k2 hb2 r2; have tf : ∀ o, W2.frozen? ⟨w.heap.size + 1, o, none⟩ = false := fun o => (hb2.frozen (p := ⟨w.heap.size + 1, o, none⟩) zz).trans (rf o)))
    have GG := (show Gr w W1 from (by repeat (first | exact Gr.refl _ | refine Gr.alloc ?_ _ | refine Gr.trans ?_ (by assumption) | refine Gr.drew ?_ | refine Gr.drewN ?_ _ | refine Gr.grow ?_ _ | refine Gr.setCell ?_ (by (try simp); (try omega)) _))).below
    refine bodyPost_ret (v := .tuple #[.agg #[.int .i64 W, .int .i64 H, .slice A2 R.length c2], .bool true]) (by simp [results, Try.results25, go_sem, t0, t1, t2]) rfl ⟨_, rfl, ?_, ?_⟩
    · exact OwnE.mono (OwnB.set3o ho2 zz) GG.size
    · exact Below.set3 (GG.trans (hb2.mono GG.size)) (by omega)
end Go.Proofs
