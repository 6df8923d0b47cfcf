/-
  Puzzles: the contracts of the law's own helpers (copy, count, same, marks, marks held).
-/
import Derived.Test.YtopmclaphcnmbaaDoorPzA
namespace Go.Proofs
open Go.RowKit
set_option linter.unusedVariables false
set_option linter.unusedSimpArgs false
set_option maxHeartbeats 400000 in
theorem Tryd.eqStreet (a b : Int) (w : World) :
    Calls Tryd.prog 15 #[.agg #[.int .i64 a, .int .i64 b], .agg #[.int .i64 a, .int .i64 b]] w fun e w' => e = .returned (.bool true) ∧ Gr w w' := by
  have mixed : Tryd.prog.follows .mixedOrders = true := by kernel_rfl
  obtain ⟨b0, b1, b2, b3⟩ := boxes w (.int .i64 a) (.int .i64 b) (.int .i64 a) (.int .i64 b) 23 23
  go_enter Tryd.func15, Tryd.ntmps15
  go_wp2
  go_ret
  exact ⟨rfl, by repeat (first | exact Gr.refl _ | refine Gr.alloc ?_ _ | refine Gr.trans ?_ (by assumption) | refine Gr.drew ?_ | refine Gr.drewN ?_ _ | refine Gr.grow ?_ _ | refine Gr.setCell ?_ (by (try simp); (try omega)) _)⟩
set_option maxRecDepth 100000 in
set_option maxHeartbeats 800000 in
theorem Tryd.eqPuzzle (w : World) (W H : Int) (B B' : Nat) (a b : Value) (ps : List Clu) (ha : OwnC w B a ps) (hb : OwnC w B' b ps) :
    Calls Tryd.prog 6 #[.agg #[.int .i64 W, .int .i64 H, a], .agg #[.int .i64 W, .int .i64 H, b]] w fun e w' => e = .returned (.bool true) ∧ Gr w w' := by
  have ES := Lib.hid (fun (w : World) => Tryd.eqStreet W H w)
  have HE := Lib.hid (fun (W : World) (g : Gr w W) => Tryd.eqClueS W B B' a b ps (ha.gr g) (hb.gr g))
  obtain ⟨A1, c1, rfl, ha⟩ := OwnE.eta ha
  obtain ⟨A2, c2, rfl, hb⟩ := OwnE.eta hb
  clear ha hb
  obtain ⟨b0, b1, b2, b3, b4, b5⟩ := boxesG3 (Gr.refl ((w.alloc (.cells #[.int .i64 W, .int .i64 H, .slice A1 ps.length c1] 26)).alloc (.cells #[.int .i64 W, .int .i64 H, .slice A2 ps.length c2] 26)))
  have mixed : Tryd.prog.follows .mixedOrders = true := by kernel_rfl
  go_enter Tryd.func6, Tryd.ntmps6
  go_wp2_with (first | (go_at_call 15; refine (ES.out _).mono ?_; rintro e w1 ⟨rfl, hbW⟩; have hcW := (bcell hbW.below).1; have hfW := (bcell hbW.below).2; (try have hzW : w.heap.size < w1.heap.size := by have hq := hbW.below.size; (try simp at hq); omega); (try have hyW : w.heap.size + 1 < w1.heap.size := by have hq := hbW.below.size; (try simp at hq); omega); (try have hxW : w.heap.size + 2 < w1.heap.size := by have hq := hbW.below.size; (try simp at hq); omega)) | (go_at_call 16; refine (HE.out _ (by repeat (first | exact Gr.refl _ | refine Gr.alloc ?_ _ | refine Gr.trans ?_ (by assumption) | refine Gr.drew ?_ | refine Gr.drewN ?_ _ | refine Gr.grow ?_ _ | refine Gr.setCell ?_ (by (try simp); (try omega)) _))).mono ?_; rintro e w1 ⟨rfl, hbW⟩; have hcW := (bcell hbW.below).1; have hfW := (bcell hbW.below).2; (try have hzW : w.heap.size < w1.heap.size := by have hq := hbW.below.size; (try simp at hq); omega); (try have hyW : w.heap.size + 1 < w1.heap.size := by have hq := hbW.below.size; (try simp at hq); omega); (try have hxW : w.heap.size + 2 < w1.heap.size := by have hq := hbW.below.size; (try simp at hq); omega)))
  go_ret
  exact ⟨rfl, by repeat (first | exact Gr.refl _ | refine Gr.alloc ?_ _ | refine Gr.trans ?_ (by assumption) | refine Gr.drew ?_ | refine Gr.drewN ?_ _ | refine Gr.grow ?_ _ | refine Gr.setCell ?_ (by (try simp); (try omega)) _)⟩
set_option maxRecDepth 100000 in
set_option maxHeartbeats 800000 in
theorem Tryd.markPuzzle (w : World) (W H : Int) (B : Nat) (v : Value) (xs : List Clu) (hlen : xs.length ≤ 1000000000) (h : OwnC w B v xs) :
    Calls Tryd.prog 7 #[.agg #[.int .i64 W, .int .i64 H, v], .int .i64 1] w fun e w' => e = .returned (.int .i64 (1 + 3 * (xs.length : Int))) ∧ OwnC w' B v (mke mkc xs.length xs) ∧ w.grownBy w' v.ownBlock := by
  have HM := Lib.hid (fun (W : World) (g : Gr w W) => Tryd.markClueS W B v xs hlen (h.gr g))
  obtain ⟨A1, c1, rfl, h⟩ := OwnE.eta h
  clear h
  go_enter Tryd.func7, Tryd.ntmps7
  go_wp2_with (first | (go_at_call 17; refine (HM.out _ (by repeat (first | exact Gr.refl _ | refine Gr.alloc ?_ _ | refine Gr.trans ?_ (by assumption) | refine Gr.drew ?_ | refine Gr.drewN ?_ _ | refine Gr.grow ?_ _ | refine Gr.setCell ?_ (by (try simp); (try omega)) _))).mono ?_; rintro e w1 ⟨rfl, ho1, hg1⟩; have HO := Lib.hid ho1; have HG := Lib.hid hg1; clear ho1 hg1))
  go_ret
  refine ⟨rfl, HO.out, ?_⟩
  have g1 := World.grownBy_alloc w (.cells #[.int .i64 W, .int .i64 H, .slice A1 xs.length c1] 26) (Value.slice A1 xs.length c1).ownBlock
  have hg := HG.out
  exact ⟨hg.os.trans g1.os, hg.tape.trans g1.tape, hg.output.trans g1.output, Nat.le_trans g1.size hg.size, fun j hj hne => (hg.block j (Nat.lt_of_lt_of_le hj g1.size) hne).trans (g1.block j hj hne)⟩
set_option maxRecDepth 100000 in
set_option maxHeartbeats 800000 in
theorem Tryd.heldPuzzle (w : World) (W H : Int) (B : Nat) (v : Value) (xs : List Clu) (hlen : xs.length ≤ 1000000000) (h : OwnC w B v (mke mkc xs.length xs)) :
    Calls Tryd.prog 8 #[.agg #[.int .i64 W, .int .i64 H, v], .int .i64 1] w fun e w' => e = .returned (.int .i64 (1 + 3 * (xs.length : Int))) ∧ Gr w w' := by
  have HM := Lib.hid (fun (W : World) (g : Gr w W) => Tryd.heldClueS W B v xs hlen (h.gr g))
  have z : ¬ (1 + 3 * (xs.length : Int)) < 0 := by omega
  obtain ⟨A1, c1, rfl, h⟩ := OwnE.eta h
  clear h
  go_enter Tryd.func8, Tryd.ntmps8
  go_wp2_with (first | (go_at_call 18; refine (HM.out _ (by repeat (first | exact Gr.refl _ | refine Gr.alloc ?_ _ | refine Gr.trans ?_ (by assumption) | refine Gr.drew ?_ | refine Gr.drewN ?_ _ | refine Gr.grow ?_ _ | refine Gr.setCell ?_ (by (try simp); (try omega)) _))).mono ?_; rintro e w1 ⟨rfl, rfl⟩))
  go_ret
  exact ⟨rfl, by repeat (first | exact Gr.refl _ | refine Gr.alloc ?_ _ | refine Gr.trans ?_ (by assumption) | refine Gr.drew ?_ | refine Gr.drewN ?_ _ | refine Gr.grow ?_ _ | refine Gr.setCell ?_ (by (try simp); (try omega)) _)⟩
end Go.Proofs
