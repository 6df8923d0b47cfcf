/-
  Puzzles: the contracts of the law's own helpers (copy, count, same, marks, marks held).
-/
import Derived.Test.YtokfnhbdncebmabPzA
namespace Go.Proofs
open Go.RowKit
set_option linter.unusedVariables false
set_option linter.unusedSimpArgs false
set_option maxHeartbeats 400000 in
theorem Try.eqStreet (a b : Int) (w : World) :
    Calls Try.prog 27 #[.agg #[.int .i64 a, .int .i64 b], .agg #[.int .i64 a, .int .i64 b]] w fun e w' => e = .returned (.bool true) ∧ Gr w w' := by
  have mixed : Try.prog.follows .mixedOrders = true := by kernel_rfl
  obtain ⟨b0, b1, b2, b3⟩ := boxes w (.int .i64 a) (.int .i64 b) (.int .i64 a) (.int .i64 b) 24 24
  go_enter Try.func27, Try.ntmps27
  go_wp2
  go_ret
  exact ⟨rfl, by repeat (first | exact Gr.refl _ | refine Gr.alloc ?_ _ | refine Gr.trans ?_ (by assumption) | refine Gr.drew ?_ | refine Gr.drewN ?_ _ | refine Gr.grow ?_ _ | refine Gr.setCell ?_ (by (try simp); (try omega)) _)⟩
set_option maxHeartbeats 800000 in
theorem Try.szPuzzle (w : World) (W H : Int) (A : Option Addr) (len cap : Nat) (h2 : len ≤ maxLen) :
    Calls Try.prog 11 #[.agg #[.int .i64 W, .int .i64 H, .slice A len cap], .int .i64 1048576] w fun e w' => e = .returned (.int .i64 (if (1048576 : Int) < len then -1 else 1048576 - len)) ∧ Gr w w' := by
  have SZ := Lib.hid (fun (w : World) => Try.szClueS w A len cap 1048576 (by omega) (by omega) h2)
  by_cases hlt : (1048576 : Int) < (len : Int)
  · rw [if_pos hlt] at SZ ⊢
    go_enter Try.func11, Try.ntmps11
    go_wp2_with (first | (go_at_call 31; refine (SZ.out _).mono ?_; rintro e w1 ⟨rfl, rfl⟩))
    go_ret
    exact ⟨rfl, by repeat (first | exact Gr.refl _ | refine Gr.alloc ?_ _ | refine Gr.trans ?_ (by assumption) | refine Gr.drew ?_ | refine Gr.drewN ?_ _ | refine Gr.grow ?_ _ | refine Gr.setCell ?_ (by (try simp); (try omega)) _)⟩
  · rw [if_neg hlt] at SZ ⊢
    have q : ¬ (1048576 : Int) - (len : Int) < 0 := by omega
    go_enter Try.func11, Try.ntmps11
    go_wp2_with (first | (go_at_call 31; refine (SZ.out _).mono ?_; rintro e w1 ⟨rfl, rfl⟩))
    go_ret
    exact ⟨rfl, by repeat (first | exact Gr.refl _ | refine Gr.alloc ?_ _ | refine Gr.trans ?_ (by assumption) | refine Gr.drew ?_ | refine Gr.drewN ?_ _ | refine Gr.grow ?_ _ | refine Gr.setCell ?_ (by (try simp); (try omega)) _)⟩
set_option maxRecDepth 100000 in
set_option maxHeartbeats 800000 in
theorem Try.toPuzzle (w : World) (W H : Int) (A : Option Addr) (len cap : Nat) (xs : List Clu) (hb : len ≤ 1048576) (h : ArgC w A len cap xs) :
    Calls Try.prog 13 #[.agg #[.int .i64 W, .int .i64 H, .slice A len cap]] w fun e w' => ∃ v, e = .returned (.agg #[.int .i64 W, .int .i64 H, v]) ∧ OwnC w' w.heap.size v xs ∧ Below w.heap.size w w' := by
  have HB := Lib.hid (fun (W : World) (g : Gr w W) => Try.toClueS W A len cap xs hb (ArgE.below h g.below))
  clear h
  go_enter Try.func13, Try.ntmps13
  go_wp2_with (first | (go_at_call 6; refine (Try.toStreet _ _ _).mono ?_; rintro e ws ⟨rfl, gs⟩; have hzS := gs.below.size; (try simp at hzS); have hcS := (bcell gs.below).1; have hfS := (bcell gs.below).2; have s0 : w.heap.size < ws.heap.size := (by omega); have s1 : w.heap.size + 1 < ws.heap.size := (by omega); have s2 : w.heap.size + 2 < ws.heap.size := (by omega); have s2' : w.heap.size + 1 + 1 < ws.heap.size := s2))
  have gW2 : Gr w ((ws.setCell ⟨w.heap.size + 1 + 1, 0, none⟩ (.int .i64 W)).setCell ⟨w.heap.size + 1 + 1, 1, none⟩ (.int .i64 H)) := (by repeat (first | exact Gr.refl _ | refine Gr.alloc ?_ _ | refine Gr.trans ?_ (by assumption) | refine Gr.drew ?_ | refine Gr.drewN ?_ _ | refine Gr.grow ?_ _ | refine Gr.setCell ?_ (by (try simp); (try omega)) _))
  have p0 : ((ws.setCell ⟨w.heap.size + 1 + 1, 0, none⟩ (.int .i64 W)).setCell ⟨w.heap.size + 1 + 1, 1, none⟩ (.int .i64 H)).cell? ⟨w.heap.size + 1 + 1, 0, none⟩ = some (.int .i64 W) := by simp [go_sem, hcS]
  have p1 : ((ws.setCell ⟨w.heap.size + 1 + 1, 0, none⟩ (.int .i64 W)).setCell ⟨w.heap.size + 1 + 1, 1, none⟩ (.int .i64 H)).cell? ⟨w.heap.size + 1 + 1, 1, none⟩ = some (.int .i64 H) := by simp [go_sem, hcS]
  have p2 : ((ws.setCell ⟨w.heap.size + 1 + 1, 0, none⟩ (.int .i64 W)).setCell ⟨w.heap.size + 1 + 1, 1, none⟩ (.int .i64 H)).cell? ⟨w.heap.size + 1 + 1, 2, none⟩ = some (.slice none 0 0) := by simp [go_sem, hcS]
  have r0 : ((ws.setCell ⟨w.heap.size + 1 + 1, 0, none⟩ (.int .i64 W)).setCell ⟨w.heap.size + 1 + 1, 1, none⟩ (.int .i64 H)).cell? ⟨w.heap.size + 1, 0, none⟩ = some (.int .i64 0) := by simp [go_sem, hcS]
  have r1 : ((ws.setCell ⟨w.heap.size + 1 + 1, 0, none⟩ (.int .i64 W)).setCell ⟨w.heap.size + 1 + 1, 1, none⟩ (.int .i64 H)).cell? ⟨w.heap.size + 1, 1, none⟩ = some (.int .i64 0) := by simp [go_sem, hcS]
  have r2 : ((ws.setCell ⟨w.heap.size + 1 + 1, 0, none⟩ (.int .i64 W)).setCell ⟨w.heap.size + 1 + 1, 1, none⟩ (.int .i64 H)).cell? ⟨w.heap.size + 1, 2, none⟩ = some (.slice none 0 0) := by simp [go_sem, hcS]
  have fp0 : ((ws.setCell ⟨w.heap.size + 1 + 1, 0, none⟩ (.int .i64 W)).setCell ⟨w.heap.size + 1 + 1, 1, none⟩ (.int .i64 H)).frozen? ⟨w.heap.size + 1 + 1, 0, none⟩ = false := by simp [go_sem, hfS]
  have fp1 : ((ws.setCell ⟨w.heap.size + 1 + 1, 0, none⟩ (.int .i64 W)).setCell ⟨w.heap.size + 1 + 1, 1, none⟩ (.int .i64 H)).frozen? ⟨w.heap.size + 1 + 1, 1, none⟩ = false := by simp [go_sem, hfS]
  have fp2 : ((ws.setCell ⟨w.heap.size + 1 + 1, 0, none⟩ (.int .i64 W)).setCell ⟨w.heap.size + 1 + 1, 1, none⟩ (.int .i64 H)).frozen? ⟨w.heap.size + 1 + 1, 2, none⟩ = false := by simp [go_sem, hfS]
  have fr0 : ((ws.setCell ⟨w.heap.size + 1 + 1, 0, none⟩ (.int .i64 W)).setCell ⟨w.heap.size + 1 + 1, 1, none⟩ (.int .i64 H)).frozen? ⟨w.heap.size + 1, 0, none⟩ = false := by simp [go_sem, hfS]
  have fr1 : ((ws.setCell ⟨w.heap.size + 1 + 1, 0, none⟩ (.int .i64 W)).setCell ⟨w.heap.size + 1 + 1, 1, none⟩ (.int .i64 H)).frozen? ⟨w.heap.size + 1, 1, none⟩ = false := by simp [go_sem, hfS]
  have fr2 : ((ws.setCell ⟨w.heap.size + 1 + 1, 0, none⟩ (.int .i64 W)).setCell ⟨w.heap.size + 1 + 1, 1, none⟩ (.int .i64 H)).frozen? ⟨w.heap.size + 1, 2, none⟩ = false := by simp [go_sem, hfS]
  have zW2 : w.heap.size + 1 + 1 < ((ws.setCell ⟨w.heap.size + 1 + 1, 0, none⟩ (.int .i64 W)).setCell ⟨w.heap.size + 1 + 1, 1, none⟩ (.int .i64 H)).heap.size := World.block_lt_of_cell? _ _ p0
  generalize ((ws.setCell ⟨w.heap.size + 1 + 1, 0, none⟩ (.int .i64 W)).setCell ⟨w.heap.size + 1 + 1, 1, none⟩ (.int .i64 H)) = W2 at *
  clear hcS hfS gs
  refine (HB.out _ gW2).mono ?_
  rintro e w1 ⟨v1, rfl, ho1, hbl1⟩
  obtain ⟨A1, c1, rfl, ho1⟩ := OwnE.eta ho1
  have qp0 := (hbl1.cell (p := ⟨w.heap.size + 1 + 1, 0, none⟩) (by show w.heap.size + 1 + 1 < _; omega)).trans p0
  have qp1 := (hbl1.cell (p := ⟨w.heap.size + 1 + 1, 1, none⟩) (by show w.heap.size + 1 + 1 < _; omega)).trans p1
  have qp2 := (hbl1.cell (p := ⟨w.heap.size + 1 + 1, 2, none⟩) (by show w.heap.size + 1 + 1 < _; omega)).trans p2
  have qr0 := (hbl1.cell (p := ⟨w.heap.size + 1, 0, none⟩) (by show w.heap.size + 1 < _; omega)).trans r0
  have qr1 := (hbl1.cell (p := ⟨w.heap.size + 1, 1, none⟩) (by show w.heap.size + 1 < _; omega)).trans r1
  have qr2 := (hbl1.cell (p := ⟨w.heap.size + 1, 2, none⟩) (by show w.heap.size + 1 < _; omega)).trans r2
  have gp0 := (hbl1.frozen (p := ⟨w.heap.size + 1 + 1, 0, none⟩) (by show w.heap.size + 1 + 1 < _; omega)).trans fp0
  have gp1 := (hbl1.frozen (p := ⟨w.heap.size + 1 + 1, 1, none⟩) (by show w.heap.size + 1 + 1 < _; omega)).trans fp1
  have gp2 := (hbl1.frozen (p := ⟨w.heap.size + 1 + 1, 2, none⟩) (by show w.heap.size + 1 + 1 < _; omega)).trans fp2
  have gr0 := (hbl1.frozen (p := ⟨w.heap.size + 1, 0, none⟩) (by show w.heap.size + 1 < _; omega)).trans fr0
  have gr1 := (hbl1.frozen (p := ⟨w.heap.size + 1, 1, none⟩) (by show w.heap.size + 1 < _; omega)).trans fr1
  have gr2 := (hbl1.frozen (p := ⟨w.heap.size + 1, 2, none⟩) (by show w.heap.size + 1 < _; omega)).trans fr2
  have HO := Lib.hid ho1
  have HL := Lib.hid hbl1
  have GW := Lib.hid gW2
  have zz := hbl1.size
  clear ho1 hbl1 gW2 p0 p1 p2 r0 r1 r2 fp0 fp1 fp2 fr0 fr1 fr2
  go_wp2
  refine bodyPost_ret (v := .agg #[.int .i64 W, .int .i64 H, .slice A1 xs.length c1]) (by simp [results, Try.results13, go_sem, qr0, qr1, qr2]) rfl ⟨_, rfl, ?_, ?_⟩
  · exact OwnE.mono (OwnE.setOther (OwnE.setOther (OwnE.setOther (OwnE.setOther HO.out (by simp; omega) _) (by simp; omega) _) (by simp; omega) _) (by simp; omega) _) (by omega)
  · exact ((((GW.out.below.trans (HL.out.mono (by omega))).setCell (by simp; omega) _).setCell (by simp) _).setCell (by simp) _).setCell (by simp) _
set_option maxRecDepth 100000 in
set_option maxHeartbeats 800000 in
theorem Try.eqPuzzle (w : World) (W H : Int) (B B' : Nat) (a b : Value) (ps : List Clu) (ha : OwnC w B a ps) (hb : OwnC w B' b ps) :
    Calls Try.prog 8 #[.agg #[.int .i64 W, .int .i64 H, a], .agg #[.int .i64 W, .int .i64 H, b]] w fun e w' => e = .returned (.bool true) ∧ Gr w w' := by
  have ES := Lib.hid (fun (w : World) => Try.eqStreet W H w)
  have HE := Lib.hid (fun (W : World) (g : Gr w W) => Try.eqClueS W B B' a b ps (ha.gr g) (hb.gr g))
  obtain ⟨A1, c1, rfl, ha⟩ := OwnE.eta ha
  obtain ⟨A2, c2, rfl, hb⟩ := OwnE.eta hb
  clear ha hb
  obtain ⟨b0, b1, b2, b3, b4, b5⟩ := boxesG3 (Gr.refl ((w.alloc (.cells #[.int .i64 W, .int .i64 H, .slice A1 ps.length c1] 27)).alloc (.cells #[.int .i64 W, .int .i64 H, .slice A2 ps.length c2] 27)))
  have mixed : Try.prog.follows .mixedOrders = true := by kernel_rfl
  go_enter Try.func8, Try.ntmps8
  go_wp2_with (first | (go_at_call 27; refine (ES.out _).mono ?_; rintro e w1 ⟨rfl, hbW⟩; have hcW := (bcell hbW.below).1; have hfW := (bcell hbW.below).2; (try have hzW : w.heap.size < w1.heap.size := by have hq := hbW.below.size; (try simp at hq); omega); (try have hyW : w.heap.size + 1 < w1.heap.size := by have hq := hbW.below.size; (try simp at hq); omega); (try have hxW : w.heap.size + 2 < w1.heap.size := by have hq := hbW.below.size; (try simp at hq); omega)) | (go_at_call 28; refine (HE.out _ (by repeat (first | exact Gr.refl _ | refine Gr.alloc ?_ _ | refine Gr.trans ?_ (by assumption) | refine Gr.drew ?_ | refine Gr.drewN ?_ _ | refine Gr.grow ?_ _ | refine Gr.setCell ?_ (by (try simp); (try omega)) _))).mono ?_; rintro e w1 ⟨rfl, hbW⟩; have hcW := (bcell hbW.below).1; have hfW := (bcell hbW.below).2; (try have hzW : w.heap.size < w1.heap.size := by have hq := hbW.below.size; (try simp at hq); omega); (try have hyW : w.heap.size + 1 < w1.heap.size := by have hq := hbW.below.size; (try simp at hq); omega); (try have hxW : w.heap.size + 2 < w1.heap.size := by have hq := hbW.below.size; (try simp at hq); omega)))
  go_ret
  exact ⟨rfl, by repeat (first | exact Gr.refl _ | refine Gr.alloc ?_ _ | refine Gr.trans ?_ (by assumption) | refine Gr.drew ?_ | refine Gr.drewN ?_ _ | refine Gr.grow ?_ _ | refine Gr.setCell ?_ (by (try simp); (try omega)) _)⟩
set_option maxRecDepth 100000 in
set_option maxHeartbeats 800000 in
theorem Try.markPuzzle (w : World) (W H : Int) (B : Nat) (v : Value) (xs : List Clu) (hlen : xs.length ≤ 1000000000) (h : OwnC w B v xs) :
    Calls Try.prog 9 #[.agg #[.int .i64 W, .int .i64 H, v], .int .i64 1] w fun e w' => e = .returned (.int .i64 (1 + 3 * (xs.length : Int))) ∧ OwnC w' B v (mke mkc xs.length xs) ∧ w.grownBy w' v.ownBlock := by
  have HM := Lib.hid (fun (W : World) (g : Gr w W) => Try.markClueS W B v xs hlen (h.gr g))
  obtain ⟨A1, c1, rfl, h⟩ := OwnE.eta h
  clear h
  go_enter Try.func9, Try.ntmps9
  go_wp2_with (first | (go_at_call 29; refine (HM.out _ (by repeat (first | exact Gr.refl _ | refine Gr.alloc ?_ _ | refine Gr.trans ?_ (by assumption) | refine Gr.drew ?_ | refine Gr.drewN ?_ _ | refine Gr.grow ?_ _ | refine Gr.setCell ?_ (by (try simp); (try omega)) _))).mono ?_; rintro e w1 ⟨rfl, ho1, hg1⟩; have HO := Lib.hid ho1; have HG := Lib.hid hg1; clear ho1 hg1))
  go_ret
  refine ⟨rfl, HO.out, ?_⟩
  have g1 := World.grownBy_alloc w (.cells #[.int .i64 W, .int .i64 H, .slice A1 xs.length c1] 27) (Value.slice A1 xs.length c1).ownBlock
  have hg := HG.out
  exact ⟨hg.os.trans g1.os, hg.tape.trans g1.tape, hg.output.trans g1.output, Nat.le_trans g1.size hg.size, fun j hj hne => (hg.block j (Nat.lt_of_lt_of_le hj g1.size) hne).trans (g1.block j hj hne)⟩
set_option maxRecDepth 100000 in
set_option maxHeartbeats 800000 in
theorem Try.heldPuzzle (w : World) (W H : Int) (B : Nat) (v : Value) (xs : List Clu) (hlen : xs.length ≤ 1000000000) (h : OwnC w B v (mke mkc xs.length xs)) :
    Calls Try.prog 10 #[.agg #[.int .i64 W, .int .i64 H, v], .int .i64 1] w fun e w' => e = .returned (.int .i64 (1 + 3 * (xs.length : Int))) ∧ Gr w w' := by
  have HM := Lib.hid (fun (W : World) (g : Gr w W) => Try.heldClueS W B v xs hlen (h.gr g))
  have z : ¬ (1 + 3 * (xs.length : Int)) < 0 := by omega
  obtain ⟨A1, c1, rfl, h⟩ := OwnE.eta h
  clear h
  go_enter Try.func10, Try.ntmps10
  go_wp2_with (first | (go_at_call 30; refine (HM.out _ (by repeat (first | exact Gr.refl _ | refine Gr.alloc ?_ _ | refine Gr.trans ?_ (by assumption) | refine Gr.drew ?_ | refine Gr.drewN ?_ _ | refine Gr.grow ?_ _ | refine Gr.setCell ?_ (by (try simp); (try omega)) _))).mono ?_; rintro e w1 ⟨rfl, rfl⟩))
  go_ret
  exact ⟨rfl, by repeat (first | exact Gr.refl _ | refine Gr.alloc ?_ _ | refine Gr.trans ?_ (by assumption) | refine Gr.drew ?_ | refine Gr.drewN ?_ _ | refine Gr.grow ?_ _ | refine Gr.setCell ?_ (by (try simp); (try omega)) _)⟩
end Go.Proofs
