/-
  Contracts of chapter 4: a city with a closed block open (the model).
-/
import Derived.Test.YtnpkhoiblemodaaAvXo
namespace Go.Proofs
open Go.RowKit Av
set_option linter.unusedVariables false
set_option linter.unusedSimpArgs false
theorem Try.eqlIB (x y : Int) (u : Bool) (p q : Int) (t : Bool) (w : World) : Sem.run Try.prog (Op.equalIn 10000 34 (.agg #[.int .i64 x, .int .i64 y, .bool u]) (.agg #[.int .i64 p, .int .i64 q, .bool t])) w = .ok (decide ((x, y, u) = (p, q, t))) w := by
  have u3 := Try.underlying3
  have a3 := Try.isAgg3
  have z3 := Try.sizeOf3
  have u4 := Try.underlying4
  have a4 := Try.isAgg4
  have z4 := Try.sizeOf4
  have hS : Try.prog.underlying 34 = some (.struct (Try.prog.fieldsOf 34)) := by kernel_rfl
  have hp : Try.prog.stoodInHeld 34 = false := by kernel_rfl
  rw [show (10000 : Nat) = 9999 + 1 from rfl, run_equalIn_agg w 9999 34 _ _ hS hp]
  simp only [Program.fieldsOf, Try.underlying34]
  go_simp
  by_cases h1 : x = p <;> by_cases h2 : y = q <;> by_cases h3 : u = t <;> simp [h1, h2, h3]
/-- the first k without one -/
def flb (ps : List Blk) (b : Blk) (k : Nat) : List Blk := (ps.take k).filter (fun x => !decide (x = b))
theorem flb_succ (ps : List Blk) (b : Blk) (k : Nat) (h : k < ps.length) : flb ps b (k + 1) = if ps.getD k b0 = b then flb ps b k else flb ps b k ++ [ps.getD k b0] := by
  unfold flb
  have e : ps.getD k b0 = ps[k] := getD_eq _ _ h
  rw [← List.take_append_getElem h, List.filter_append, e]
  by_cases q : ps[k] = b
  · simp [q]
  · simp [q]
theorem flb_len (ps : List Blk) (b : Blk) (k : Nat) : (flb ps b k).length ≤ k := Nat.le_trans (List.length_filter_le _ _) (by simp; omega)
theorem flb_all (ps : List Blk) (b : Blk) : flb ps b ps.length = ps.filter (fun x => !decide (x = b)) := by unfold flb; rw [List.take_length]
theorem grown_below {W1 wr w5 : World} {row : Option Nat} {B : Nat} (h : W1.grownBy wr row) (hb : Below B wr w5) (hB : W1.heap.size ≤ B) : W1.grownBy w5 row :=
  ⟨hb.os.trans h.os, hb.tape.trans h.tape, hb.output.trans h.output, Nat.le_trans h.size hb.size, fun j hj hne => (hb.block j (Nat.lt_of_lt_of_le hj hB)).trans (h.block j hj hne)⟩
def Try.OpR (W H : Int) (ps : List Blk) (b : Blk) (w W1 : World) (s : Value) (wr : World) : Prop :=
  ∃ (k : Nat) (A : Option Addr) (L c : Nat), s = .int .i64 k ∧ k ≤ ps.length ∧ wr.cell? ⟨w.heap.size + 1 + 1 + 1, 0, none⟩ = some (.int .i64 W) ∧ wr.cell? ⟨w.heap.size + 1 + 1 + 1, 1, none⟩ = some (.int .i64 H) ∧ wr.cell? ⟨w.heap.size + 1 + 1 + 1, 2, none⟩ = some (.slice A L c) ∧
    wr.frozen? ⟨w.heap.size + 1 + 1 + 1, 2, none⟩ = false ∧ OwnB wr W1.heap.size (.slice A L c) (flb ps b k) ∧ W1.grownBy wr (some (w.heap.size + 1 + 1 + 1))
set_option maxRecDepth 100000 in
set_option maxHeartbeats 4000000 in
theorem Try.avOpen (w : World) (W H : Int) (B : Nat) (a : Value) (ps : List Blk) (x y : Int) (u : Bool) (hl : ps.length ≤ 100) (h : OwnB w B a ps) :
    Calls Try.prog 37 #[.agg #[.int .i64 W, .int .i64 H, a], .agg #[.int .i64 x, .int .i64 y, .bool u]] w fun e w' => ∃ v, e = .returned (.agg #[.int .i64 W, .int .i64 H, v]) ∧ OwnB w' w.heap.size v (ps.filter (fun z => !decide (z = (x, y, u)))) ∧ Below w.heap.size w w' := by
  have mixed : Try.prog.follows .mixedOrders = true := by kernel_rfl
  obtain ⟨A, c, rfl, h⟩ := OwnE.eta h
  obtain ⟨W1, hW1⟩ : ∃ W1, (((w.alloc (.cells #[.int .i64 W, .int .i64 H, .slice A ps.length c] 30)).alloc (.cells #[.int .i64 x, .int .i64 y, .bool u] 34)).alloc (.cells #[.int .i64 0, .int .i64 0, .slice none 0 0] 30)).alloc (.cells #[.int .i64 W, .int .i64 H, .slice none 0 0] 30) = W1 := ⟨_, rfl⟩
  have GW : Gr w W1 := by subst hW1; exact by repeat (first | exact Gr.refl _ | refine Gr.alloc ?_ _ | refine Gr.trans ?_ (by assumption) | refine Gr.drew ?_ | refine Gr.drewN ?_ _ | refine Gr.grow ?_ _ | refine Gr.setCell ?_ (by (try simp); (try omega)) _)
  have k0 : W1.cell? ⟨w.heap.size + 1, 0, none⟩ = some (.int .i64 x) := by subst hW1; simp [go_sem]
  have k1 : W1.cell? ⟨w.heap.size + 1, 1, none⟩ = some (.int .i64 y) := by subst hW1; simp [go_sem]
  have k2 : W1.cell? ⟨w.heap.size + 1, 2, none⟩ = some (.bool u) := by subst hW1; simp [go_sem]
  have k3 : W1.cell? ⟨w.heap.size + 1 + 1 + 1, 0, none⟩ = some (.int .i64 W) := by subst hW1; simp [go_sem]
  have k4 : W1.cell? ⟨w.heap.size + 1 + 1 + 1, 1, none⟩ = some (.int .i64 H) := by subst hW1; simp [go_sem]
  have k5 : W1.cell? ⟨w.heap.size + 1 + 1 + 1, 2, none⟩ = some (.slice none 0 0) := by subst hW1; simp [go_sem]
  have k6 : W1.frozen? ⟨w.heap.size + 1 + 1 + 1, 2, none⟩ = false := by subst hW1; simp [go_sem]
  have k7 : W1.cell? ⟨w.heap.size, 2, none⟩ = some (.slice A ps.length c) := by subst hW1; simp [go_sem]
  have k8 : W1.cell? ⟨w.heap.size + 1 + 1, 0, none⟩ = some (.int .i64 0) := by subst hW1; simp [go_sem]
  have k9 : W1.cell? ⟨w.heap.size + 1 + 1, 1, none⟩ = some (.int .i64 0) := by subst hW1; simp [go_sem]
  have k10 : W1.cell? ⟨w.heap.size + 1 + 1, 2, none⟩ = some (.slice none 0 0) := by subst hW1; simp [go_sem]
  have k11 : W1.frozen? ⟨w.heap.size + 1 + 1, 0, none⟩ = false ∧ W1.frozen? ⟨w.heap.size + 1 + 1, 1, none⟩ = false ∧ W1.frozen? ⟨w.heap.size + 1 + 1, 2, none⟩ = false := by subst hW1; simp [go_sem]
  have HK4 := Lib.hid (And.intro k8 (And.intro k9 (And.intro k10 k11)))
  clear k8 k9 k10 k11
  have szW : W1.heap.size = w.heap.size + 4 := by rw [← hW1]; simp
  have HLT := Lib.hid (OwnE.lt h)
  have HOW := Lib.hid (OwnE.gr h GW)
  have HG := Lib.hid GW
  have HK := Lib.hid (And.intro k0 (And.intro k1 k2))
  have HK3 := Lib.hid (And.intro k3 (And.intro k4 (And.intro k5 k6)))
  clear h GW
  go_enter Try.func37, Try.ntmps37
  go_wp2_with fail
  have HV := Lib.hid (show ∀ k, k < ps.length → ∃ g, A = some ⟨g, 0, none⟩ ∧ g < w.heap.size ∧ W1.cell? ⟨g, k * 3, none⟩ = some (.int .i64 (ps.getD k b0).1) ∧ W1.cell? ⟨g, k * 3 + 1, none⟩ = some (.int .i64 (ps.getD k b0).2.1) ∧ W1.cell? ⟨g, k * 3 + 2, none⟩ = some (.bool (ps.getD k b0).2.2) from fun k hk => by
    rcases OwnB.view HOW.out with ⟨hx, _⟩ | ⟨_, g, c', e, _, hg, _, _, hc, _⟩
    · rw [hx] at hk; simp at hk
    · cases e
      obtain ⟨c0, c1, c2⟩ := hc k hk
      exact ⟨g, rfl, HLT.out g rfl, c0, c1, c2⟩)
  clear hW1 k0 k1 k2 k3 k4 k5 k6 k7
  go_loopw [16] (fun iv wr => Try.OpR W H ps (x, y, u) w W1 iv wr) (fun i _ => ps.length - (intOf i).toNat)
  case atStart =>
    refine ⟨0, none, 0, 0, rfl, Nat.zero_le _, ?_, ?_, ?_, ?_, OwnE.nil _ _ _ _ _, grownBy_setCell (World.grownBy.refl W1 _)⟩
    · rw [World.cell?_setCell_other _ ⟨w.heap.size + 1 + 1 + 1, 2, none⟩ ⟨w.heap.size + 1 + 1 + 1, 0, none⟩ _ (by simp)]; exact HK3.out.1
    · rw [World.cell?_setCell_other _ ⟨w.heap.size + 1 + 1 + 1, 2, none⟩ ⟨w.heap.size + 1 + 1 + 1, 1, none⟩ _ (by simp)]; exact HK3.out.2.1
    · exact World.cell?_setCell_same _ _ _ HK3.out.2.2.1
    · simp [HK3.out.2.2.2]
  case round =>
    obtain ⟨k, A4, L, c4, rfl, hk, t0, t1, t2, t3, ho, hg⟩ := hrel
    by_cases hlt : k < ps.length
    · obtain ⟨g, rfl, hgw, e0, e1, e2⟩ := HV.out k hlt
      rcases hp : ps.getD k b0 with ⟨p0, p1, p2⟩
      rw [hp] at e0 e1 e2
      simp only at e0 e1 e2
      replace e0 := hg.cell e0 (by simp; omega)
      replace e1 := hg.cell e1 (by simp; omega)
      replace e2 := hg.cell e2 (by simp; omega)
      have m0 := hg.cell HK.out.1 (by simp)
      have m1 := hg.cell HK.out.2.1 (by simp)
      have m2 := hg.cell HK.out.2.2 (by simp)
      have z0 : (0 : Int) ≤ (k : Int) := by omega
      have z1 : (k : Int) < (ps.length : Int) := by omega
      have hs := hg.size
      have hs1 : w.heap.size + 1 < wr.heap.size := by omega
      have hs3 : w.heap.size + 1 + 1 + 1 < wr.heap.size := by omega
      have hfs := flb_succ ps (x, y, u) k hlt
      rw [hp] at hfs
      have hfl := flb_len ps (x, y, u) k
      have HFL := Lib.hid hfl
      have HO := Lib.hid ho
      have HGR := Lib.hid hg
      have HT := Lib.hid (And.intro t0 (And.intro t1 (And.intro t2 t3)))
      clear ho hg hp hfl
      by_cases he : (p0, p1, p2) = (x, y, u)
      · have hE := fun w' => Try.eqlIB p0 p1 p2 x y u w'
        rw [decide_eq_true he] at hE
        rw [if_pos he] at hfs
        have HFS := Lib.hid hfs
        clear hfs he
        go_wp2_with fail
        go_roundw
        case rel =>
          have gA := Gr.alloc (Gr.refl wr) (.cells #[.int .i64 p0, .int .i64 p1, .bool p2] 34)
          have hb := World.block_lt_of_cell? _ _ HT.out.1
          exact ⟨k + 1, A4, L, c4, by go_num, by omega, gA.keep0 HT.out.1, gA.keep0 HT.out.2.1, gA.keep0 HT.out.2.2.1, ((bcell gA.below).2 _ _ hb).trans HT.out.2.2.2, by rw [HFS.out]; exact HO.out.gr gA, grown_below HGR.out gA.below HGR.out.size⟩
        case measure => simp [intOf]; omega
      · have hE := fun w' => Try.eqlIB p0 p1 p2 x y u w'
        rw [decide_eq_false he] at hE
        rw [if_neg he] at hfs
        have HFS := Lib.hid hfs
        clear hfs he
        go_wp2_with (at_builtin; refine wpList_appE bcs_len bcs_one rfl _ _ 28 rfl 34 Try.underlying28 Try.infoB rfl (by decide) (by decide) W1.heap.size _ _ rfl (HO.out.gr (Gr.alloc (Gr.alloc (Gr.refl _) _) _)) _ 1 1 [(p0, p1, p2)] rfl rfl (fun j u hu => alloc_cells' (by simp) (by simpa [ecs, bcs] using hu)) (by have := HFL.out; omega) (by simp) (by simp; omega) ?_; intro v5 w5 ho5 hb5 _ _; obtain ⟨A5, c5, L5, rfl, ho5⟩ := own_open ho5; have gA : Gr wr ((wr.alloc (.cells #[.int .i64 p0, .int .i64 p1, .bool p2] 34)).alloc (.cells #[.int .i64 p0, .int .i64 p1, .bool p2] 34)) := Gr.alloc (Gr.alloc (Gr.refl _) _) _; have n0 := (hb5.cell (p := ⟨w.heap.size + 1 + 1 + 1, 0, none⟩) (by simp; omega)).trans (gA.keep0 HT.out.1); have n1 := (hb5.cell (p := ⟨w.heap.size + 1 + 1 + 1, 1, none⟩) (by simp; omega)).trans (gA.keep0 HT.out.2.1); have n2 := (hb5.cell (p := ⟨w.heap.size + 1 + 1 + 1, 2, none⟩) (by simp; omega)).trans (gA.keep0 HT.out.2.2.1); have n3 := (hb5.frozen (p := ⟨w.heap.size + 1 + 1 + 1, 2, none⟩) (by simp; omega)).trans (((bcell gA.below).2 _ _ hs3).trans HT.out.2.2.2))
        go_roundw
        case rel =>
          refine ⟨k + 1, A5, L5, c5, by go_num, by omega, ?_, ?_, World.cell?_setCell_same _ _ _ n2, ?_, ?_, ?_⟩
          · rw [World.cell?_setCell_other _ ⟨w.heap.size + 1 + 1 + 1, 2, none⟩ ⟨w.heap.size + 1 + 1 + 1, 0, none⟩ _ (by simp)]; exact n0
          · rw [World.cell?_setCell_other _ ⟨w.heap.size + 1 + 1 + 1, 2, none⟩ ⟨w.heap.size + 1 + 1 + 1, 1, none⟩ _ (by simp)]; exact n1
          · simp [n3]
          · rw [HFS.out]; exact OwnE.setOther ho5 (a := ⟨w.heap.size + 1 + 1 + 1, 2, none⟩) (by simp; omega) _
          · exact grownBy_setCell (grown_below (grown_below HGR.out gA.below HGR.out.size) hb5 (Nat.le_refl _))
        case measure => simp [intOf]; omega
    · obtain rfl : k = ps.length := by omega
      rw [flb_all] at ho
      have HO := Lib.hid ho
      have HGR := Lib.hid hg
      have hs := hg.size
      have hs3 : w.heap.size + 1 + 1 + 1 < wr.heap.size := by omega
      have r0 := hg.cell HK4.out.1 (by simp)
      have r1 := hg.cell HK4.out.2.1 (by simp)
      have r2 := hg.cell HK4.out.2.2.1 (by simp)
      have f0 := (World.frozen?_of_block (a := ⟨w.heap.size + 1 + 1, 0, none⟩) (hg.block (w.heap.size + 1 + 1) (by omega) (by simp))).trans HK4.out.2.2.2.1
      have f1 := (World.frozen?_of_block (a := ⟨w.heap.size + 1 + 1, 1, none⟩) (hg.block (w.heap.size + 1 + 1) (by omega) (by simp))).trans HK4.out.2.2.2.2.1
      have f2 := (World.frozen?_of_block (a := ⟨w.heap.size + 1 + 1, 2, none⟩) (hg.block (w.heap.size + 1 + 1) (by omega) (by simp))).trans HK4.out.2.2.2.2.2
      have g0 := World.cell?_setCell_same _ _ (.int .i64 W) r0
      have g0' : ((wr.setCell ⟨w.heap.size + 1 + 1, 0, none⟩ (.int .i64 W)).setCell ⟨w.heap.size + 1 + 1, 1, none⟩ (.int .i64 H)).cell? ⟨w.heap.size + 1 + 1, 0, none⟩ = some (.int .i64 W) := by
        rw [World.cell?_setCell_other _ ⟨w.heap.size + 1 + 1, 1, none⟩ ⟨w.heap.size + 1 + 1, 0, none⟩ _ (by simp)]; exact g0
      have g1' : ((wr.setCell ⟨w.heap.size + 1 + 1, 0, none⟩ (.int .i64 W)).setCell ⟨w.heap.size + 1 + 1, 1, none⟩ (.int .i64 H)).cell? ⟨w.heap.size + 1 + 1, 1, none⟩ = some (.int .i64 H) := World.cell?_setCell_same _ _ (.int .i64 H) (by
        rw [World.cell?_setCell_other _ ⟨w.heap.size + 1 + 1, 0, none⟩ ⟨w.heap.size + 1 + 1, 1, none⟩ _ (by simp)]; exact r1)
      have g2' : ((wr.setCell ⟨w.heap.size + 1 + 1, 0, none⟩ (.int .i64 W)).setCell ⟨w.heap.size + 1 + 1, 1, none⟩ (.int .i64 H)).cell? ⟨w.heap.size + 1 + 1, 2, none⟩ = some (.slice none 0 0) := by
        rw [World.cell?_setCell_other _ ⟨w.heap.size + 1 + 1, 1, none⟩ ⟨w.heap.size + 1 + 1, 2, none⟩ _ (by simp), World.cell?_setCell_other _ ⟨w.heap.size + 1 + 1, 0, none⟩ ⟨w.heap.size + 1 + 1, 2, none⟩ _ (by simp)]; exact r2
      have h0 : (((wr.setCell ⟨w.heap.size + 1 + 1, 0, none⟩ (.int .i64 W)).setCell ⟨w.heap.size + 1 + 1, 1, none⟩ (.int .i64 H)).setCell ⟨w.heap.size + 1 + 1, 2, none⟩ (.slice A4 L c4)).cell? ⟨w.heap.size + 1 + 1, 0, none⟩ = some (.int .i64 W) := by
        rw [World.cell?_setCell_other _ ⟨w.heap.size + 1 + 1, 2, none⟩ ⟨w.heap.size + 1 + 1, 0, none⟩ _ (by simp)]; exact g0'
      have h1 : (((wr.setCell ⟨w.heap.size + 1 + 1, 0, none⟩ (.int .i64 W)).setCell ⟨w.heap.size + 1 + 1, 1, none⟩ (.int .i64 H)).setCell ⟨w.heap.size + 1 + 1, 2, none⟩ (.slice A4 L c4)).cell? ⟨w.heap.size + 1 + 1, 1, none⟩ = some (.int .i64 H) := by
        rw [World.cell?_setCell_other _ ⟨w.heap.size + 1 + 1, 2, none⟩ ⟨w.heap.size + 1 + 1, 1, none⟩ _ (by simp)]; exact g1'
      have h2 := World.cell?_setCell_same _ _ (.slice A4 L c4) g2'
      have HO2 := Lib.hid (OwnE.setOther (OwnE.setOther (OwnE.setOther ho (a := ⟨w.heap.size + 1 + 1, 0, none⟩) (by simp; omega) (.int .i64 W)) (a := ⟨w.heap.size + 1 + 1, 1, none⟩) (by simp; omega) (.int .i64 H)) (a := ⟨w.heap.size + 1 + 1, 2, none⟩) (by simp; omega) (.slice A4 L c4))
      have HBB := Lib.hid (show Below w.heap.size w wr from Below.grown HG.out.below hg (by omega) (fun j hj => by cases hj; omega))
      clear g0 g0' g1' g2' ho hg t3
      go_wp2
      refine bodyPost_ret (v := .agg #[.int .i64 W, .int .i64 H, .slice A4 L c4]) ?_ rfl ⟨_, rfl, HO2.out.mono (by omega), ?_⟩
      · simp [results, Try.results37, go_sem, h0, h1, h2]
      · exact Below.setCell (Below.setCell (Below.setCell HBB.out (by simp; omega) _) (by simp; omega) _) (by simp; omega) _
end Go.Proofs
