/-
  'FnExactCloseBlock' answers true at every argument and leaves its arguments as they were: the function of the program and its model give the same results.
-/
import Derived.Test.YtedkkmnoldghmaaRows
import Derived.WalkKit
import Derived.ProofKit
import Derived.OpenShut
import Derived.Lib.SmallJoins
import Derived.Carry
import Derived.Test.YtedkkmnoldghmaaFr
import Derived.Test.YtedkkmnoldghmaaCbC
import Derived.Test.YtedkkmnoldghmaaArgsB
import Derived.Test.YtedkkmnoldghmaaCtK
namespace Go.Proofs.Ytedkkmnoldghmaa.fnExactCloseBlock
open Go.ChangeShapes Go.WideShapes Go.ChangeAt Go.RowKit Go.Joins
open Go.WideMaps Go.WideElems
open Go.ChangeMaps (setBlock shut_map_nil open_string shut_string keptBut_setBlock frozen?_setBlock heap_setBlock_same)
set_option linter.unusedVariables false
set_option linter.unusedSimpArgs false

theorem own : ownKnob Try.prog.godebug = none := by kernel_rfl
theorem laidOut : laidOutB Try.prog = true := by kernel_rfl

set_option maxRecDepth 100000 in
set_option maxHeartbeats 1000000 in
theorem walk (a0x a0y : Int) (a0 : Option Addr) (len0 cap0 : Nat) (z0 : List Av.Blk) (a1x a1y : Int) (a1u : Bool) (w : World) (w0 : ArgB w a0 len0 cap0 z0) :
    Calls Try.prog 4 #[.agg #[.int .i64 a0x, .int .i64 a0y, .slice a0 len0 cap0], .agg #[.int .i64 a1x, .int .i64 a1y, .bool a1u]] w fun e w' => e = .returned (.bool true) ∧ Below w.heap.size w w' := by
  have wl0 : len0 ≤ maxLen := Nat.le_trans w0.2.1 w0.2.2.1
  by_cases hsum : len0 ≤ 1048576
  case neg =>
    have SZ := Lib.hid (fun (w : World) => Try.szCity w a0x a0y a0 len0 cap0 wl0)
    rw [if_pos (by omega)] at SZ
    clear w0
    go_enter Try.func4, Try.ntmps4
    go_wp2_with (first | (go_at_call 7; refine (SZ.out _).mono ?_; rintro e w1 ⟨rfl, hbW⟩; have hcW := (bcell hbW.below).1; have hfW := (bcell hbW.below).2; (try have hzW : w.heap.size < w1.heap.size := by have hq := hbW.below.size; (try simp at hq); omega); (try have hyW : w.heap.size + 1 < w1.heap.size := by have hq := hbW.below.size; (try simp at hq); omega); (try have hxW : w.heap.size + 2 < w1.heap.size := by have hq := hbW.below.size; (try simp at hq); omega)))
    go_ret
    exact ⟨rfl, Gr.below (by repeat (first | exact Gr.refl _ | refine Gr.alloc ?_ _ | refine Gr.trans ?_ (by assumption) | refine Gr.drew ?_ | refine Gr.drewN ?_ _ | refine Gr.grow ?_ _ | refine Gr.setCell ?_ (by (try simp); (try omega)) _))⟩
  have zl0 : z0.length ≤ 1048576 := by have := w0.1; omega
  have HS := Lib.hid (fun (w : World) B v h => Try.sCloseBlock w a0x a0y B v z0 a1x a1y a1u zl0 h)
  have HI := Lib.hid (fun (w : World) B v h => Try.iCloseBlock w a0x a0y B v z0 a1x a1y a1u zl0 h)
  have hlen0 : (cbL a0x a0y z0 (a1x, a1y, a1u)).length ≤ 1000000000 := by have := cbL_len a0x a0y z0 (a1x, a1y, a1u); omega
  generalize ifN (cbB a0x a0y z0 (a1x, a1y, a1u)) a0x = K at *
  generalize ifN (cbB a0x a0y z0 (a1x, a1y, a1u)) a0y = P at *
  generalize cbL a0x a0y z0 (a1x, a1y, a1u) = xs at *
  generalize cbB a0x a0y z0 (a1x, a1y, a1u) = b at *
  have SZ := Lib.hid (fun (w : World) => Try.szCity w a0x a0y a0 len0 cap0 wl0)
  rw [if_neg (by omega)] at SZ
  have zz : ¬ (1048576 : Int) - (len0 : Int) < 0 := by omega
  have WA0 := Lib.hid w0
  have HL0 := Lib.hid hsum
  clear w0
  go_enter Try.func4, Try.ntmps4
  go_upto_region 5 with (first | (go_at_call 7; refine (SZ.out _).mono ?_; rintro e w1 ⟨rfl, g1⟩; have B1 : Below w.heap.size w w1 := (show Gr w w1 from (by repeat (first | exact Gr.refl _ | refine Gr.alloc ?_ _ | refine Gr.trans ?_ (by assumption) | refine Gr.drew ?_ | refine Gr.drewN ?_ _ | refine Gr.grow ?_ _ | refine Gr.setCell ?_ (by (try simp); (try omega)) _))).below; have g2 : Gr ((w.alloc (.cells #[.int .i64 a0x, .int .i64 a0y, .slice a0 len0 cap0] 24)).alloc (.cells #[.int .i64 a1x, .int .i64 a1y, .bool a1u] 26)) w1 := (by repeat (first | exact Gr.refl _ | refine Gr.alloc ?_ _ | refine Gr.trans ?_ (by assumption) | refine Gr.drew ?_ | refine Gr.drewN ?_ _ | refine Gr.grow ?_ _ | refine Gr.setCell ?_ (by (try simp); (try omega)) _)); have e0 : w1.cell? ⟨w.heap.size, 0, none⟩ = some (.int .i64 a0x) := g2.keep0 (by simp [go_sem]); have e1 : w1.cell? ⟨w.heap.size, 1, none⟩ = some (.int .i64 a0y) := g2.keep0 (by simp [go_sem]); have e2 : w1.cell? ⟨w.heap.size, 2, none⟩ = some (.slice a0 len0 cap0) := g2.keep0 (by simp [go_sem]); have e3 : w1.cell? ⟨w.heap.size + 1, 0, none⟩ = some (.int .i64 a1x) := g2.keep0 (by simp [go_sem]); have e4 : w1.cell? ⟨w.heap.size + 1, 1, none⟩ = some (.int .i64 a1y) := g2.keep0 (by simp [go_sem]); have e5 : w1.cell? ⟨w.heap.size + 1, 2, none⟩ = some (.bool a1u) := g2.keep0 (by simp [go_sem])))
  clear g1 g2 SZ
  have sB1 := B1.size
  have sB2 : w.heap.size + 1 < w1.heap.size := World.block_lt_of_cell? _ _ e3
  have lt1 := (show w.heap.size < w1.heap.size from World.block_lt_of_cell? _ _ e0)
  have lt2 := (show w.heap.size + 1 < w1.heap.size from World.block_lt_of_cell? _ _ e3)
  rename_i K1 hK1
  have TAIL1 : ∀ (tq : Value) (X : World) (bq : Nat) (Aq : Option Addr) (cq : Nat), Below w1.heap.size w1 X → X.cell? ⟨bq, 0, none⟩ = some (.int .i64 K) → X.cell? ⟨bq, 1, none⟩ = some (.int .i64 P) → X.cell? ⟨bq, 2, none⟩ = some (.slice Aq xs.length cq) → OwnB X w1.heap.size (.slice Aq xs.length cq) xs → w1.heap.size ≤ bq → some bq ≠ (Value.slice Aq xs.length cq).ownBlock → K1 { tmps := #[Value.agg #[Value.int IntKind.i64 a0x, Value.int IntKind.i64 a0y, Value.slice a0 len0 cap0], Value.agg #[Value.int IntKind.i64 a1x, Value.int IntKind.i64 a1y, Value.bool a1u], Value.pointer (some { block := w.heap.size, off := 0 }), Value.pointer (some { block := w.heap.size + 1, off := 0 }), Value.bool false, Value.int IntKind.i64 (1048576 - ((len0 : Nat) : Int)), Value.pointer (some { block := bq, off := 0 }), Value.bool b, undef, undef, undef, undef, undef, undef, undef, undef, Value.agg #[Value.int IntKind.i64 a0x, Value.int IntKind.i64 a0y, Value.slice a0 len0 cap0], Value.int IntKind.i64 1048576, Value.int IntKind.i64 (1048576 - ((len0 : Nat) : Int)), Value.int IntKind.i64 (1048576 - ((len0 : Nat) : Int)), Value.bool (decide (1048576 - ((len0 : Nat) : Int) < 0)), Value.tuple #[Value.agg #[Value.int IntKind.i64 K, Value.int IntKind.i64 P, Value.slice Aq xs.length cq], Value.bool b], Value.agg #[Value.int IntKind.i64 a0x, Value.int IntKind.i64 a0y, Value.slice a0 len0 cap0], tq, Value.agg #[Value.int IntKind.i64 a1x, Value.int IntKind.i64 a1y, Value.bool a1u], Value.agg #[Value.int IntKind.i64 a1x, Value.int IntKind.i64 a1y, Value.bool a1u], Value.tuple #[Value.agg #[Value.int IntKind.i64 K, Value.int IntKind.i64 P, Value.slice Aq xs.length cq], Value.bool b], Value.agg #[Value.int IntKind.i64 K, Value.int IntKind.i64 P, Value.slice Aq xs.length cq], Value.bool b, undef, undef, undef, undef, undef, undef, undef, undef, undef, undef, undef, undef, undef, undef, undef, undef, undef, undef, undef, undef, undef, undef, undef, undef, undef, undef, undef, undef, undef, undef, undef, undef, undef, undef, undef, undef, undef, undef, undef, undef, undef, undef, undef, undef, undef, undef, undef, undef, undef, undef, undef, undef, undef, undef, undef, undef, undef, undef, undef, undef, undef, undef, undef, undef, undef, undef, undef, undef, undef, undef, undef, undef, undef, undef, undef], defers := [] } X := by
    intro tq1 X1 b1 A1 u1 tb1 t1_0 t1_1 t1_2 to1 tl1 tn1
    apply hK1
    have f4_0 := cell_k2 (tb1) e0
    have f4_1 := cell_k2 (tb1) e1
    have f4_2 := cell_k2 (tb1) e2
    have f4_3 := cell_k2 (tb1) e3
    have f4_4 := cell_k2 (tb1) e4
    have f4_5 := cell_k2 (tb1) e5
    clear e0 e1 e2 e3 e4 e5
    have D4 := B1.trans ((tb1).mono B1.size)
    have s4 := (tb1).size
    have tz1 := World.block_lt_of_cell? _ _ t1_0
    have Fr1 := to1
    go_wp2_with fail
    refine (Try.toCity _ _ _ _ _ _ _ HL0.out (ArgE.below WA0.out D4)).mono ?_
    rintro e wv5 ⟨v5, rfl, c5, d5⟩
    obtain ⟨A5, u5, rfl, c5⟩ := OwnE.eta c5
    have f6_0 := cell_k2 (d5) f4_0
    have f6_1 := cell_k2 (d5) f4_1
    have f6_2 := cell_k2 (d5) f4_2
    have f6_3 := cell_k2 (d5) f4_3
    have f6_4 := cell_k2 (d5) f4_4
    have f6_5 := cell_k2 (d5) f4_5
    have f6_6 := cell_k2 (d5) t1_0
    have f6_7 := cell_k2 (d5) t1_1
    have f6_8 := cell_k2 (d5) t1_2
    clear f4_0 f4_1 f4_2 f4_3 f4_4 f4_5 t1_0 t1_1 t1_2
    have o6_r1 := OwnE.below to1 (d5) (Nat.le_refl _)
    have D6 := D4.trans ((d5).mono D4.size)
    have s6 := (d5).size
    have Fr2 := c5
    have g7 := Gr.alloc (Gr.refl wv5) (.cells #[.int .i64 a0x, .int .i64 a0y, .slice A5 z0.length u5] 30)
    have f8_0 := cell_k2 (g7.below) f6_0
    have f8_1 := cell_k2 (g7.below) f6_1
    have f8_2 := cell_k2 (g7.below) f6_2
    have f8_3 := cell_k2 (g7.below) f6_3
    have f8_4 := cell_k2 (g7.below) f6_4
    have f8_5 := cell_k2 (g7.below) f6_5
    have f8_6 := cell_k2 (g7.below) f6_6
    have f8_7 := cell_k2 (g7.below) f6_7
    have f8_8 := cell_k2 (g7.below) f6_8
    clear f6_0 f6_1 f6_2 f6_3 f6_4 f6_5 f6_6 f6_7 f6_8
    have o8_r1 := OwnE.below o6_r1 (g7.below) (Nat.le_refl _)
    have o8_r2 := OwnE.below c5 (g7.below) (Nat.le_refl _)
    have D8 := D6.trans ((g7.below).mono D6.size)
    have s8 := (g7.below).size
    have h7_0 : (wv5.alloc (.cells #[.int .i64 a0x, .int .i64 a0y, .slice A5 z0.length u5] 30)).cell? ⟨wv5.heap.size, 0, none⟩ = some (.int .i64 a0x) := by simp [go_sem]
    have h7_1 : (wv5.alloc (.cells #[.int .i64 a0x, .int .i64 a0y, .slice A5 z0.length u5] 30)).cell? ⟨wv5.heap.size, 1, none⟩ = some (.int .i64 a0y) := by simp [go_sem]
    have h7_2 : (wv5.alloc (.cells #[.int .i64 a0x, .int .i64 a0y, .slice A5 z0.length u5] 30)).cell? ⟨wv5.heap.size, 2, none⟩ = some (.slice A5 z0.length u5) := by simp [go_sem]
    go_upto_region 7 with fail
    generalize hW8 : (wv5.alloc (.cells #[.int .i64 a0x, .int .i64 a0y, .slice A5 z0.length u5] 30)) = W8 at *
    clear hW8
    have lt9 := (show w.heap.size + 1 < W8.heap.size from World.block_lt_of_cell? _ _ f8_3)
    have lt10 := (show wv5.heap.size < W8.heap.size from World.block_lt_of_cell? _ _ h7_0)
    rename_i K2 hK2
    have TAIL2 : ∀ (X : World) (bq : Nat) (Aq : Option Addr) (cq : Nat), Below W8.heap.size W8 X → X.cell? ⟨bq, 0, none⟩ = some (.int .i64 K) → X.cell? ⟨bq, 1, none⟩ = some (.int .i64 P) → X.cell? ⟨bq, 2, none⟩ = some (.slice Aq xs.length cq) → OwnB X W8.heap.size (.slice Aq xs.length cq) xs → W8.heap.size ≤ bq → some bq ≠ (Value.slice Aq xs.length cq).ownBlock → K2 { tmps := #[Value.agg #[Value.int IntKind.i64 a0x, Value.int IntKind.i64 a0y, Value.slice a0 len0 cap0], Value.agg #[Value.int IntKind.i64 a1x, Value.int IntKind.i64 a1y, Value.bool a1u], Value.pointer (some { block := w.heap.size, off := 0 }), Value.pointer (some { block := w.heap.size + 1, off := 0 }), Value.bool false, Value.int IntKind.i64 (1048576 - ((len0 : Nat) : Int)), Value.pointer (some { block := b1, off := 0 }), Value.bool b, Value.pointer (some { block := wv5.heap.size, off := 0 }), Value.pointer (some { block := bq, off := 0 }), Value.bool b, undef, undef, undef, undef, undef, Value.agg #[Value.int IntKind.i64 a0x, Value.int IntKind.i64 a0y, Value.slice a0 len0 cap0], Value.int IntKind.i64 1048576, Value.int IntKind.i64 (1048576 - ((len0 : Nat) : Int)), Value.int IntKind.i64 (1048576 - ((len0 : Nat) : Int)), Value.bool (decide (1048576 - ((len0 : Nat) : Int) < 0)), Value.tuple #[Value.agg #[Value.int IntKind.i64 K, Value.int IntKind.i64 P, Value.slice A1 xs.length u1], Value.bool b], Value.agg #[Value.int IntKind.i64 a0x, Value.int IntKind.i64 a0y, Value.slice a0 len0 cap0], tq1, Value.agg #[Value.int IntKind.i64 a1x, Value.int IntKind.i64 a1y, Value.bool a1u], Value.agg #[Value.int IntKind.i64 a1x, Value.int IntKind.i64 a1y, Value.bool a1u], Value.tuple #[Value.agg #[Value.int IntKind.i64 K, Value.int IntKind.i64 P, Value.slice A1 xs.length u1], Value.bool b], Value.agg #[Value.int IntKind.i64 K, Value.int IntKind.i64 P, Value.slice A1 xs.length u1], Value.bool b, Value.agg #[Value.int IntKind.i64 a0x, Value.int IntKind.i64 a0y, Value.slice a0 len0 cap0], Value.agg #[Value.int IntKind.i64 a0x, Value.int IntKind.i64 a0y, Value.slice A5 z0.length u5], Value.tuple #[Value.agg #[Value.int IntKind.i64 K, Value.int IntKind.i64 P, Value.slice Aq xs.length cq], Value.bool b], Value.agg #[Value.int IntKind.i64 a0x, Value.int IntKind.i64 a0y, Value.slice A5 z0.length u5], Value.agg #[Value.int IntKind.i64 a1x, Value.int IntKind.i64 a1y, Value.bool a1u], Value.agg #[Value.int IntKind.i64 a1x, Value.int IntKind.i64 a1y, Value.bool a1u], Value.tuple #[Value.agg #[Value.int IntKind.i64 K, Value.int IntKind.i64 P, Value.slice Aq xs.length cq], Value.bool b], Value.agg #[Value.int IntKind.i64 K, Value.int IntKind.i64 P, Value.slice Aq xs.length cq], Value.bool b, undef, undef, undef, undef, undef, undef, undef, undef, undef, undef, undef, undef, undef, undef, undef, undef, undef, undef, undef, undef, undef, undef, undef, undef, undef, undef, undef, undef, undef, undef, undef, undef, undef, undef, undef, undef, undef, undef, undef, undef, undef, undef, undef, undef, undef, undef, undef, undef, undef, undef, undef, undef, undef, undef, undef, undef, undef, undef, undef, undef, undef, undef, undef, undef, undef, undef], defers := [] } X := by
      intro X2 b2 A2 u2 tb2 t2_0 t2_1 t2_2 to2 tl2 tn2
      apply hK2
      have f12_0 := cell_k2 (tb2) f8_0
      have f12_1 := cell_k2 (tb2) f8_1
      have f12_2 := cell_k2 (tb2) f8_2
      have f12_3 := cell_k2 (tb2) f8_3
      have f12_4 := cell_k2 (tb2) f8_4
      have f12_5 := cell_k2 (tb2) f8_5
      have f12_6 := cell_k2 (tb2) f8_6
      have f12_7 := cell_k2 (tb2) f8_7
      have f12_8 := cell_k2 (tb2) f8_8
      have f12_9 := cell_k2 (tb2) h7_0
      have f12_10 := cell_k2 (tb2) h7_1
      have f12_11 := cell_k2 (tb2) h7_2
      clear f8_0 f8_1 f8_2 f8_3 f8_4 f8_5 f8_6 f8_7 f8_8 h7_0 h7_1 h7_2
      have o12_r1 := OwnE.below o8_r1 (tb2) (Nat.le_refl _)
      have o12_r2 := OwnE.below o8_r2 (tb2) (Nat.le_refl _)
      have D12 := D8.trans ((tb2).mono D8.size)
      have s12 := (tb2).size
      have tz2 := World.block_lt_of_cell? _ _ t2_0
      have Fr3 := to2
      go_wp2_with fail
      refine (Try.eqCity _ _ _ _ _ _ _ _ to2 o12_r1).mono ?_
      rintro e wE13 ⟨rfl, dE13⟩
      have f14_0 := cell_k2 (dE13.below) f12_0
      have f14_1 := cell_k2 (dE13.below) f12_1
      have f14_2 := cell_k2 (dE13.below) f12_2
      have f14_3 := cell_k2 (dE13.below) f12_3
      have f14_4 := cell_k2 (dE13.below) f12_4
      have f14_5 := cell_k2 (dE13.below) f12_5
      have f14_6 := cell_k2 (dE13.below) f12_6
      have f14_7 := cell_k2 (dE13.below) f12_7
      have f14_8 := cell_k2 (dE13.below) f12_8
      have f14_9 := cell_k2 (dE13.below) f12_9
      have f14_10 := cell_k2 (dE13.below) f12_10
      have f14_11 := cell_k2 (dE13.below) f12_11
      have f14_12 := cell_k2 (dE13.below) t2_0
      have f14_13 := cell_k2 (dE13.below) t2_1
      have f14_14 := cell_k2 (dE13.below) t2_2
      clear f12_0 f12_1 f12_2 f12_3 f12_4 f12_5 f12_6 f12_7 f12_8 f12_9 f12_10 f12_11 t2_0 t2_1 t2_2
      have o14_r1 := OwnE.below o12_r1 (dE13.below) (Nat.le_refl _)
      have o14_r2 := OwnE.below o12_r2 (dE13.below) (Nat.le_refl _)
      have o14_r3 := OwnE.below to2 (dE13.below) (Nat.le_refl _)
      have D14 := D12.trans ((dE13.below).mono D12.size)
      have s14 := (dE13.below).size
      go_upto_region 10 with fail
      go_region_held3 (fun W' => W'.cell? ⟨w.heap.size, 0, none⟩ = some (.int .i64 a0x) ∧ W'.cell? ⟨w.heap.size, 1, none⟩ = some (.int .i64 a0y) ∧ W'.cell? ⟨w.heap.size, 2, none⟩ = some (.slice a0 len0 cap0) ∧ W'.cell? ⟨wv5.heap.size, 0, none⟩ = some (.int .i64 a0x) ∧ W'.cell? ⟨wv5.heap.size, 1, none⟩ = some (.int .i64 a0y) ∧ W'.cell? ⟨wv5.heap.size, 2, none⟩ = some (.slice A5 z0.length u5))
        (first | exact ⟨f14_0, f14_1, f14_2, f14_9, f14_10, f14_11⟩ | exact ⟨cell_k2 (Below.drew (Below.refl _ _)) f14_0, cell_k2 (Below.drew (Below.refl _ _)) f14_1, cell_k2 (Below.drew (Below.refl _ _)) f14_2, cell_k2 (Below.drew (Below.refl _ _)) f14_9, cell_k2 (Below.drew (Below.refl _ _)) f14_10, cell_k2 (Below.drew (Below.refl _ _)) f14_11⟩ | exact keep6 dA15 (by assumption) | exact keep6 dE15.below (by assumption))
        ((first | (go_at_call 9; refine (Try.toCity _ _ _ _ _ _ _ HL0.out (ArgE.below WA0.out (by first | exact D14 | exact Below.drew D14))).mono ?_; rintro e wA15 ⟨vA15, rfl, cA15, dA15⟩) | (go_at_call 12; refine (Try.eqCity _ _ _ _ _ _ _ _ (OwnE.below (by first | exact o14_r2 | exact OwnE.below o14_r2 (Below.drew (Below.refl _ _)) (Nat.le_refl _)) dA15 (Nat.le_refl _)) cA15).mono ?_; rintro e wE15 ⟨rfl, dE15⟩)))
      have f16_0 := cell_k2 ((show Below wE13.heap.size wE13 _ by first | exact dA15 | exact Below.trans (Below.drew (Below.refl _ _)) dA15)) f14_0
      have f16_1 := cell_k2 ((show Below wE13.heap.size wE13 _ by first | exact dA15 | exact Below.trans (Below.drew (Below.refl _ _)) dA15)) f14_1
      have f16_2 := cell_k2 ((show Below wE13.heap.size wE13 _ by first | exact dA15 | exact Below.trans (Below.drew (Below.refl _ _)) dA15)) f14_2
      have f16_3 := cell_k2 ((show Below wE13.heap.size wE13 _ by first | exact dA15 | exact Below.trans (Below.drew (Below.refl _ _)) dA15)) f14_3
      have f16_4 := cell_k2 ((show Below wE13.heap.size wE13 _ by first | exact dA15 | exact Below.trans (Below.drew (Below.refl _ _)) dA15)) f14_4
      have f16_5 := cell_k2 ((show Below wE13.heap.size wE13 _ by first | exact dA15 | exact Below.trans (Below.drew (Below.refl _ _)) dA15)) f14_5
      have f16_6 := cell_k2 ((show Below wE13.heap.size wE13 _ by first | exact dA15 | exact Below.trans (Below.drew (Below.refl _ _)) dA15)) f14_6
      have f16_7 := cell_k2 ((show Below wE13.heap.size wE13 _ by first | exact dA15 | exact Below.trans (Below.drew (Below.refl _ _)) dA15)) f14_7
      have f16_8 := cell_k2 ((show Below wE13.heap.size wE13 _ by first | exact dA15 | exact Below.trans (Below.drew (Below.refl _ _)) dA15)) f14_8
      have f16_9 := cell_k2 ((show Below wE13.heap.size wE13 _ by first | exact dA15 | exact Below.trans (Below.drew (Below.refl _ _)) dA15)) f14_9
      have f16_10 := cell_k2 ((show Below wE13.heap.size wE13 _ by first | exact dA15 | exact Below.trans (Below.drew (Below.refl _ _)) dA15)) f14_10
      have f16_11 := cell_k2 ((show Below wE13.heap.size wE13 _ by first | exact dA15 | exact Below.trans (Below.drew (Below.refl _ _)) dA15)) f14_11
      have f16_12 := cell_k2 ((show Below wE13.heap.size wE13 _ by first | exact dA15 | exact Below.trans (Below.drew (Below.refl _ _)) dA15)) f14_12
      have f16_13 := cell_k2 ((show Below wE13.heap.size wE13 _ by first | exact dA15 | exact Below.trans (Below.drew (Below.refl _ _)) dA15)) f14_13
      have f16_14 := cell_k2 ((show Below wE13.heap.size wE13 _ by first | exact dA15 | exact Below.trans (Below.drew (Below.refl _ _)) dA15)) f14_14
      clear f14_0 f14_1 f14_2 f14_3 f14_4 f14_5 f14_6 f14_7 f14_8 f14_9 f14_10 f14_11 f14_12 f14_13 f14_14
      have o16_r1 := OwnE.below o14_r1 ((show Below wE13.heap.size wE13 _ by first | exact dA15 | exact Below.trans (Below.drew (Below.refl _ _)) dA15)) (Nat.le_refl _)
      have o16_r2 := OwnE.below o14_r2 ((show Below wE13.heap.size wE13 _ by first | exact dA15 | exact Below.trans (Below.drew (Below.refl _ _)) dA15)) (Nat.le_refl _)
      have o16_r3 := OwnE.below o14_r3 ((show Below wE13.heap.size wE13 _ by first | exact dA15 | exact Below.trans (Below.drew (Below.refl _ _)) dA15)) (Nat.le_refl _)
      have D16 := D14.trans (((show Below wE13.heap.size wE13 _ by first | exact dA15 | exact Below.trans (Below.drew (Below.refl _ _)) dA15)).mono D14.size)
      have s16 := ((show Below wE13.heap.size wE13 _ by first | exact dA15 | exact Below.trans (Below.drew (Below.refl _ _)) dA15)).size
      have f17_0 := cell_k2 (dE15.below) f16_0
      have f17_1 := cell_k2 (dE15.below) f16_1
      have f17_2 := cell_k2 (dE15.below) f16_2
      have f17_3 := cell_k2 (dE15.below) f16_3
      have f17_4 := cell_k2 (dE15.below) f16_4
      have f17_5 := cell_k2 (dE15.below) f16_5
      have f17_6 := cell_k2 (dE15.below) f16_6
      have f17_7 := cell_k2 (dE15.below) f16_7
      have f17_8 := cell_k2 (dE15.below) f16_8
      have f17_9 := cell_k2 (dE15.below) f16_9
      have f17_10 := cell_k2 (dE15.below) f16_10
      have f17_11 := cell_k2 (dE15.below) f16_11
      have f17_12 := cell_k2 (dE15.below) f16_12
      have f17_13 := cell_k2 (dE15.below) f16_13
      have f17_14 := cell_k2 (dE15.below) f16_14
      clear f16_0 f16_1 f16_2 f16_3 f16_4 f16_5 f16_6 f16_7 f16_8 f16_9 f16_10 f16_11 f16_12 f16_13 f16_14
      have o17_r1 := OwnE.below o16_r1 (dE15.below) (Nat.le_refl _)
      have o17_r2 := OwnE.below o16_r2 (dE15.below) (Nat.le_refl _)
      have o17_r3 := OwnE.below o16_r3 (dE15.below) (Nat.le_refl _)
      have D17 := D16.trans ((dE15.below).mono D16.size)
      have s17 := (dE15.below).size
      go_wp2_with fail
      refine (Try.markCity _ _ _ _ _ _ ((Nat.le_trans (by have := WA0.out.1; have := HL0.out; omega) (show 1048576 ≤ 1000000000 by decide))) o17_r2).mono ?_
      rintro e wM18 ⟨rfl, cM18, dM18⟩
      have s18 := dM18.size
      have o18_r1 := OwnE.grown o17_r1 dM18 (own_ne' Fr1 Fr2 (by omega))
      have o18_r3 := OwnE.grown o17_r3 dM18 (own_ne Fr3 Fr2 (by omega))
      have f18_0 := cell_gbZ dM18 f17_0 (fun e => by have := (World.ownsRow.lt Fr2 _ e.symm); (try simp only [World.size_alloc] at *); omega)
      have f18_1 := cell_gbZ dM18 f17_1 (fun e => by have := (World.ownsRow.lt Fr2 _ e.symm); (try simp only [World.size_alloc] at *); omega)
      have f18_2 := cell_gbZ dM18 f17_2 (fun e => by have := (World.ownsRow.lt Fr2 _ e.symm); (try simp only [World.size_alloc] at *); omega)
      have f18_3 := cell_gbZ dM18 f17_3 (fun e => by have := (World.ownsRow.lt Fr2 _ e.symm); (try simp only [World.size_alloc] at *); omega)
      have f18_4 := cell_gbZ dM18 f17_4 (fun e => by have := (World.ownsRow.lt Fr2 _ e.symm); (try simp only [World.size_alloc] at *); omega)
      have f18_5 := cell_gbZ dM18 f17_5 (fun e => by have := (World.ownsRow.lt Fr2 _ e.symm); (try simp only [World.size_alloc] at *); omega)
      have f18_6 := cell_gbZ dM18 f17_6 (fun e => by have := (World.ownsRow.lt Fr2 _ e.symm); (try simp only [World.size_alloc] at *); omega)
      have f18_7 := cell_gbZ dM18 f17_7 (fun e => by have := (World.ownsRow.lt Fr2 _ e.symm); (try simp only [World.size_alloc] at *); omega)
      have f18_8 := cell_gbZ dM18 f17_8 (fun e => by have := (World.ownsRow.lt Fr2 _ e.symm); (try simp only [World.size_alloc] at *); omega)
      have f18_9 := cell_gbZ dM18 f17_9 (fun e => by have := (World.ownsRow.lt Fr2 _ e.symm); (try simp only [World.size_alloc] at *); omega)
      have f18_10 := cell_gbZ dM18 f17_10 (fun e => by have := (World.ownsRow.lt Fr2 _ e.symm); (try simp only [World.size_alloc] at *); omega)
      have f18_11 := cell_gbZ dM18 f17_11 (fun e => by have := (World.ownsRow.lt Fr2 _ e.symm); (try simp only [World.size_alloc] at *); omega)
      have f18_12 := cell_gbZ dM18 f17_12 (fun e => by have := (World.ownsRow.lt Fr2 _ e.symm); (try simp only [World.size_alloc] at *); omega)
      have f18_13 := cell_gbZ dM18 f17_13 (fun e => by have := (World.ownsRow.lt Fr2 _ e.symm); (try simp only [World.size_alloc] at *); omega)
      have f18_14 := cell_gbZ dM18 f17_14 (fun e => by have := (World.ownsRow.lt Fr2 _ e.symm); (try simp only [World.size_alloc] at *); omega)
      clear f17_0 f17_1 f17_2 f17_3 f17_4 f17_5 f17_6 f17_7 f17_8 f17_9 f17_10 f17_11 f17_12 f17_13 f17_14
      have b18 := Below.grown (Below.refl w.heap.size _) dM18 (by omega) (fun j hj => by have := (World.ownsRow.lt Fr2 j hj).1; omega)
      have D18 := D17.trans b18
      have lz0 : ((z0).length : Int) ≤ 1048576 := by have := WA0.out.1; have := HL0.out; omega
      go_wp2_with fail
      refine (Try.eqCity _ _ _ _ _ _ _ _ o18_r3 o18_r1).mono ?_
      rintro e wE19 ⟨rfl, dE19⟩
      have f20_0 := cell_k2 (dE19.below) f18_0
      have f20_1 := cell_k2 (dE19.below) f18_1
      have f20_2 := cell_k2 (dE19.below) f18_2
      have f20_3 := cell_k2 (dE19.below) f18_3
      have f20_4 := cell_k2 (dE19.below) f18_4
      have f20_5 := cell_k2 (dE19.below) f18_5
      have f20_6 := cell_k2 (dE19.below) f18_6
      have f20_7 := cell_k2 (dE19.below) f18_7
      have f20_8 := cell_k2 (dE19.below) f18_8
      have f20_9 := cell_k2 (dE19.below) f18_9
      have f20_10 := cell_k2 (dE19.below) f18_10
      have f20_11 := cell_k2 (dE19.below) f18_11
      have f20_12 := cell_k2 (dE19.below) f18_12
      have f20_13 := cell_k2 (dE19.below) f18_13
      have f20_14 := cell_k2 (dE19.below) f18_14
      clear f18_0 f18_1 f18_2 f18_3 f18_4 f18_5 f18_6 f18_7 f18_8 f18_9 f18_10 f18_11 f18_12 f18_13 f18_14
      have o20_r1 := OwnE.below o18_r1 (dE19.below) (Nat.le_refl _)
      have o20_r2 := OwnE.below cM18 (dE19.below) (Nat.le_refl _)
      have o20_r3 := OwnE.below o18_r3 (dE19.below) (Nat.le_refl _)
      have D20 := D18.trans ((dE19.below).mono D18.size)
      have s20 := (dE19.below).size
      go_wp2_with fail
      refine (Try.markCity _ _ _ _ _ _ (hlen0) o20_r3).mono ?_
      rintro e wM21 ⟨rfl, cM21, dM21⟩
      have s21 := dM21.size
      have o21_r1 := OwnE.grown o20_r1 dM21 (own_ne' Fr1 Fr3 (by omega))
      have o21_r2 := OwnE.grown o20_r2 dM21 (own_ne' Fr2 Fr3 (by omega))
      have f21_0 := cell_gbZ dM21 f20_0 (fun e => by have := (World.ownsRow.lt Fr3 _ e.symm); (try simp only [World.size_alloc] at *); omega)
      have f21_1 := cell_gbZ dM21 f20_1 (fun e => by have := (World.ownsRow.lt Fr3 _ e.symm); (try simp only [World.size_alloc] at *); omega)
      have f21_2 := cell_gbZ dM21 f20_2 (fun e => by have := (World.ownsRow.lt Fr3 _ e.symm); (try simp only [World.size_alloc] at *); omega)
      have f21_3 := cell_gbZ dM21 f20_3 (fun e => by have := (World.ownsRow.lt Fr3 _ e.symm); (try simp only [World.size_alloc] at *); omega)
      have f21_4 := cell_gbZ dM21 f20_4 (fun e => by have := (World.ownsRow.lt Fr3 _ e.symm); (try simp only [World.size_alloc] at *); omega)
      have f21_5 := cell_gbZ dM21 f20_5 (fun e => by have := (World.ownsRow.lt Fr3 _ e.symm); (try simp only [World.size_alloc] at *); omega)
      have f21_6 := cell_gbZ dM21 f20_6 (fun e => by have := (World.ownsRow.lt Fr3 _ e.symm); (try simp only [World.size_alloc] at *); omega)
      have f21_7 := cell_gbZ dM21 f20_7 (fun e => by have := (World.ownsRow.lt Fr3 _ e.symm); (try simp only [World.size_alloc] at *); omega)
      have f21_8 := cell_gbZ dM21 f20_8 (fun e => by have := (World.ownsRow.lt Fr3 _ e.symm); (try simp only [World.size_alloc] at *); omega)
      have f21_9 := cell_gbZ dM21 f20_9 (fun e => by have := (World.ownsRow.lt Fr3 _ e.symm); (try simp only [World.size_alloc] at *); omega)
      have f21_10 := cell_gbZ dM21 f20_10 (fun e => by have := (World.ownsRow.lt Fr3 _ e.symm); (try simp only [World.size_alloc] at *); omega)
      have f21_11 := cell_gbZ dM21 f20_11 (fun e => by have := (World.ownsRow.lt Fr3 _ e.symm); (try simp only [World.size_alloc] at *); omega)
      have f21_12 := cell_gbZ dM21 f20_12 tn2
      have f21_13 := cell_gbZ dM21 f20_13 tn2
      have f21_14 := cell_gbZ dM21 f20_14 tn2
      clear f20_0 f20_1 f20_2 f20_3 f20_4 f20_5 f20_6 f20_7 f20_8 f20_9 f20_10 f20_11 f20_12 f20_13 f20_14
      have b21 := Below.grown (Below.refl w.heap.size _) dM21 (by omega) (fun j hj => by have := (World.ownsRow.lt Fr3 j hj).1; omega)
      have D21 := D20.trans b21
      go_wp2_with fail
      refine (Try.heldCity _ _ _ _ _ _ (hlen0) cM21).mono ?_
      rintro e wH22 ⟨rfl, dH22⟩
      have f23_0 := cell_k2 (dH22.below) f21_0
      have f23_1 := cell_k2 (dH22.below) f21_1
      have f23_2 := cell_k2 (dH22.below) f21_2
      have f23_3 := cell_k2 (dH22.below) f21_3
      have f23_4 := cell_k2 (dH22.below) f21_4
      have f23_5 := cell_k2 (dH22.below) f21_5
      have f23_6 := cell_k2 (dH22.below) f21_6
      have f23_7 := cell_k2 (dH22.below) f21_7
      have f23_8 := cell_k2 (dH22.below) f21_8
      have f23_9 := cell_k2 (dH22.below) f21_9
      have f23_10 := cell_k2 (dH22.below) f21_10
      have f23_11 := cell_k2 (dH22.below) f21_11
      have f23_12 := cell_k2 (dH22.below) f21_12
      have f23_13 := cell_k2 (dH22.below) f21_13
      have f23_14 := cell_k2 (dH22.below) f21_14
      clear f21_0 f21_1 f21_2 f21_3 f21_4 f21_5 f21_6 f21_7 f21_8 f21_9 f21_10 f21_11 f21_12 f21_13 f21_14
      have o23_r1 := OwnE.below o21_r1 (dH22.below) (Nat.le_refl _)
      have o23_r2 := OwnE.below o21_r2 (dH22.below) (Nat.le_refl _)
      have o23_r3 := OwnE.below cM21 (dH22.below) (Nat.le_refl _)
      have D23 := D21.trans ((dH22.below).mono D21.size)
      have s23 := (dH22.below).size
      go_upto_region 24 with fail
      have lt24 := (show w.heap.size < wH22.heap.size from World.block_lt_of_cell? _ _ f23_0)
      have lt25 := (show w.heap.size + 1 < wH22.heap.size from World.block_lt_of_cell? _ _ f23_3)
      rename_i K3 hK3
      have TAIL3 : ∀ (tq : Value) (X : World) (bq : Nat) (Aq : Option Addr) (cq : Nat), Below wH22.heap.size wH22 X → X.cell? ⟨bq, 0, none⟩ = some (.int .i64 K) → X.cell? ⟨bq, 1, none⟩ = some (.int .i64 P) → X.cell? ⟨bq, 2, none⟩ = some (.slice Aq xs.length cq) → OwnB X wH22.heap.size (.slice Aq xs.length cq) xs → wH22.heap.size ≤ bq → some bq ≠ (Value.slice Aq xs.length cq).ownBlock → K3 { tmps := #[Value.agg #[Value.int IntKind.i64 a0x, Value.int IntKind.i64 a0y, Value.slice a0 len0 cap0], Value.agg #[Value.int IntKind.i64 a1x, Value.int IntKind.i64 a1y, Value.bool a1u], Value.pointer (some { block := w.heap.size, off := 0 }), Value.pointer (some { block := w.heap.size + 1, off := 0 }), Value.bool false, Value.int IntKind.i64 (1048576 - ((len0 : Nat) : Int)), Value.pointer (some { block := b1, off := 0 }), Value.bool b, Value.pointer (some { block := wv5.heap.size, off := 0 }), Value.pointer (some { block := b2, off := 0 }), Value.bool b, Value.int IntKind.i64 (1 + 3 * ((z0.length : Nat) : Int)), Value.int IntKind.i64 (1 + 3 * ((xs.length : Nat) : Int)), Value.int IntKind.i64 (1 + 3 * ((xs.length : Nat) : Int)), Value.pointer (some { block := bq, off := 0 }), Value.bool b, Value.agg #[Value.int IntKind.i64 a0x, Value.int IntKind.i64 a0y, Value.slice a0 len0 cap0], Value.int IntKind.i64 1048576, Value.int IntKind.i64 (1048576 - ((len0 : Nat) : Int)), Value.int IntKind.i64 (1048576 - ((len0 : Nat) : Int)), Value.bool (decide (1048576 - ((len0 : Nat) : Int) < 0)), Value.tuple #[Value.agg #[Value.int IntKind.i64 K, Value.int IntKind.i64 P, Value.slice A1 xs.length u1], Value.bool b], Value.agg #[Value.int IntKind.i64 a0x, Value.int IntKind.i64 a0y, Value.slice a0 len0 cap0], tq1, Value.agg #[Value.int IntKind.i64 a1x, Value.int IntKind.i64 a1y, Value.bool a1u], Value.agg #[Value.int IntKind.i64 a1x, Value.int IntKind.i64 a1y, Value.bool a1u], Value.tuple #[Value.agg #[Value.int IntKind.i64 K, Value.int IntKind.i64 P, Value.slice A1 xs.length u1], Value.bool b], Value.agg #[Value.int IntKind.i64 K, Value.int IntKind.i64 P, Value.slice A1 xs.length u1], Value.bool b, Value.agg #[Value.int IntKind.i64 a0x, Value.int IntKind.i64 a0y, Value.slice a0 len0 cap0], Value.agg #[Value.int IntKind.i64 a0x, Value.int IntKind.i64 a0y, Value.slice A5 z0.length u5], Value.tuple #[Value.agg #[Value.int IntKind.i64 K, Value.int IntKind.i64 P, Value.slice A2 xs.length u2], Value.bool b], Value.agg #[Value.int IntKind.i64 a0x, Value.int IntKind.i64 a0y, Value.slice A5 z0.length u5], Value.agg #[Value.int IntKind.i64 a1x, Value.int IntKind.i64 a1y, Value.bool a1u], Value.agg #[Value.int IntKind.i64 a1x, Value.int IntKind.i64 a1y, Value.bool a1u], Value.tuple #[Value.agg #[Value.int IntKind.i64 K, Value.int IntKind.i64 P, Value.slice A2 xs.length u2], Value.bool b], Value.agg #[Value.int IntKind.i64 K, Value.int IntKind.i64 P, Value.slice A2 xs.length u2], Value.bool b, Value.agg #[Value.int IntKind.i64 K, Value.int IntKind.i64 P, Value.slice A2 xs.length u2], Value.agg #[Value.int IntKind.i64 K, Value.int IntKind.i64 P, Value.slice A1 xs.length u1], Value.bool true, Value.bool false, Value.bool false, Value.bool b, Value.bool b, Value.bool false, Value.bool false, Value.agg #[Value.int IntKind.i64 a0x, Value.int IntKind.i64 a0y, Value.slice A5 z0.length u5], Value.agg #[Value.int IntKind.i64 a0x, Value.int IntKind.i64 a0y, Value.slice a0 len0 cap0], Value.agg #[Value.int IntKind.i64 a0x, Value.int IntKind.i64 a0y, vA15], Value.bool true, Value.bool false, Value.agg #[Value.int IntKind.i64 a0x, Value.int IntKind.i64 a0y, Value.slice A5 z0.length u5], Value.int IntKind.i64 1, Value.int IntKind.i64 (1 + 3 * ((z0.length : Nat) : Int)), Value.int IntKind.i64 (1 + 3 * ((z0.length : Nat) : Int)), Value.bool (decide (1 + 3 * ((z0.length : Nat) : Int) < 0)), Value.bool (decide (1 + 3 * ((z0.length : Nat) : Int) < 0)), Value.agg #[Value.int IntKind.i64 K, Value.int IntKind.i64 P, Value.slice A2 xs.length u2], Value.agg #[Value.int IntKind.i64 K, Value.int IntKind.i64 P, Value.slice A1 xs.length u1], Value.bool true, Value.bool false, Value.bool (decide (1 + 3 * ((z0.length : Nat) : Int) < 0)), Value.bool (decide (1 + 3 * ((z0.length : Nat) : Int) < 0)), Value.bool b, Value.bool b, Value.bool false, Value.bool (decide (1 + 3 * ((z0.length : Nat) : Int) < 0)), Value.agg #[Value.int IntKind.i64 K, Value.int IntKind.i64 P, Value.slice A2 xs.length u2], Value.int IntKind.i64 1, Value.int IntKind.i64 (1 + 3 * ((xs.length : Nat) : Int)), Value.agg #[Value.int IntKind.i64 K, Value.int IntKind.i64 P, Value.slice A2 xs.length u2], Value.int IntKind.i64 1, Value.int IntKind.i64 (1 + 3 * ((xs.length : Nat) : Int)), Value.int IntKind.i64 (1 + 3 * ((xs.length : Nat) : Int)), Value.bool (decide (1 + 3 * ((xs.length : Nat) : Int) < 0)), Value.int IntKind.i64 (1 + 3 * ((xs.length : Nat) : Int)), Value.int IntKind.i64 (1 + 3 * ((xs.length : Nat) : Int)), Value.bool false, Value.tuple #[Value.agg #[Value.int IntKind.i64 K, Value.int IntKind.i64 P, Value.slice Aq xs.length cq], Value.bool b], Value.agg #[Value.int IntKind.i64 a0x, Value.int IntKind.i64 a0y, Value.slice a0 len0 cap0], tq, Value.agg #[Value.int IntKind.i64 a1x, Value.int IntKind.i64 a1y, Value.bool a1u], Value.agg #[Value.int IntKind.i64 a1x, Value.int IntKind.i64 a1y, Value.bool a1u], Value.tuple #[Value.agg #[Value.int IntKind.i64 K, Value.int IntKind.i64 P, Value.slice Aq xs.length cq], Value.bool b], Value.agg #[Value.int IntKind.i64 K, Value.int IntKind.i64 P, Value.slice Aq xs.length cq], Value.bool b, undef, undef, undef, undef, undef, undef, undef, undef, undef, undef, undef, undef, undef, undef, undef, undef, undef], defers := [] } X := by
        intro tq3 X3 b3 A3 u3 tb3 t3_0 t3_1 t3_2 to3 tl3 tn3
        apply hK3
        have f27_0 := cell_k2 (tb3) f23_0
        have f27_1 := cell_k2 (tb3) f23_1
        have f27_2 := cell_k2 (tb3) f23_2
        have f27_3 := cell_k2 (tb3) f23_3
        have f27_4 := cell_k2 (tb3) f23_4
        have f27_5 := cell_k2 (tb3) f23_5
        have f27_6 := cell_k2 (tb3) f23_6
        have f27_7 := cell_k2 (tb3) f23_7
        have f27_8 := cell_k2 (tb3) f23_8
        have f27_9 := cell_k2 (tb3) f23_9
        have f27_10 := cell_k2 (tb3) f23_10
        have f27_11 := cell_k2 (tb3) f23_11
        have f27_12 := cell_k2 (tb3) f23_12
        have f27_13 := cell_k2 (tb3) f23_13
        have f27_14 := cell_k2 (tb3) f23_14
        clear f23_0 f23_1 f23_2 f23_3 f23_4 f23_5 f23_6 f23_7 f23_8 f23_9 f23_10 f23_11 f23_12 f23_13 f23_14
        have o27_r1 := OwnE.below o23_r1 (tb3) (Nat.le_refl _)
        have o27_r3 := OwnE.below o23_r3 (tb3) (Nat.le_refl _)
        have D27 := D23.trans ((tb3).mono D23.size)
        have s27 := (tb3).size
        have tz3 := World.block_lt_of_cell? _ _ t3_0
        have Fr4 := to3
        go_wp2_with fail
        refine (Try.eqCity _ _ _ _ _ _ _ _ to3 o27_r1).mono ?_
        rintro e wE28 ⟨rfl, dE28⟩
        have f29_0 := cell_k2 (dE28.below) f27_0
        have f29_1 := cell_k2 (dE28.below) f27_1
        have f29_2 := cell_k2 (dE28.below) f27_2
        have f29_3 := cell_k2 (dE28.below) f27_3
        have f29_4 := cell_k2 (dE28.below) f27_4
        have f29_5 := cell_k2 (dE28.below) f27_5
        have f29_6 := cell_k2 (dE28.below) f27_6
        have f29_7 := cell_k2 (dE28.below) f27_7
        have f29_8 := cell_k2 (dE28.below) f27_8
        have f29_9 := cell_k2 (dE28.below) f27_9
        have f29_10 := cell_k2 (dE28.below) f27_10
        have f29_11 := cell_k2 (dE28.below) f27_11
        have f29_12 := cell_k2 (dE28.below) f27_12
        have f29_13 := cell_k2 (dE28.below) f27_13
        have f29_14 := cell_k2 (dE28.below) f27_14
        have f29_15 := cell_k2 (dE28.below) t3_0
        have f29_16 := cell_k2 (dE28.below) t3_1
        have f29_17 := cell_k2 (dE28.below) t3_2
        clear f27_0 f27_1 f27_2 f27_3 f27_4 f27_5 f27_6 f27_7 f27_8 f27_9 f27_10 f27_11 f27_12 f27_13 f27_14 t3_0 t3_1 t3_2
        have o29_r1 := OwnE.below o27_r1 (dE28.below) (Nat.le_refl _)
        have o29_r3 := OwnE.below o27_r3 (dE28.below) (Nat.le_refl _)
        have o29_r4 := OwnE.below to3 (dE28.below) (Nat.le_refl _)
        have D29 := D27.trans ((dE28.below).mono D27.size)
        have s29 := (dE28.below).size
        go_wp2_with fail
        refine (Try.heldCity _ _ _ _ _ _ (hlen0) o29_r3).mono ?_
        rintro e wH30 ⟨rfl, dH30⟩
        have f31_0 := cell_k2 (dH30.below) f29_0
        have f31_1 := cell_k2 (dH30.below) f29_1
        have f31_2 := cell_k2 (dH30.below) f29_2
        have f31_3 := cell_k2 (dH30.below) f29_3
        have f31_4 := cell_k2 (dH30.below) f29_4
        have f31_5 := cell_k2 (dH30.below) f29_5
        have f31_6 := cell_k2 (dH30.below) f29_6
        have f31_7 := cell_k2 (dH30.below) f29_7
        have f31_8 := cell_k2 (dH30.below) f29_8
        have f31_9 := cell_k2 (dH30.below) f29_9
        have f31_10 := cell_k2 (dH30.below) f29_10
        have f31_11 := cell_k2 (dH30.below) f29_11
        have f31_12 := cell_k2 (dH30.below) f29_12
        have f31_13 := cell_k2 (dH30.below) f29_13
        have f31_14 := cell_k2 (dH30.below) f29_14
        have f31_15 := cell_k2 (dH30.below) f29_15
        have f31_16 := cell_k2 (dH30.below) f29_16
        have f31_17 := cell_k2 (dH30.below) f29_17
        clear f29_0 f29_1 f29_2 f29_3 f29_4 f29_5 f29_6 f29_7 f29_8 f29_9 f29_10 f29_11 f29_12 f29_13 f29_14 f29_15 f29_16 f29_17
        have o31_r1 := OwnE.below o29_r1 (dH30.below) (Nat.le_refl _)
        have o31_r3 := OwnE.below o29_r3 (dH30.below) (Nat.le_refl _)
        have o31_r4 := OwnE.below o29_r4 (dH30.below) (Nat.le_refl _)
        have D31 := D29.trans ((dH30.below).mono D29.size)
        have s31 := (dH30.below).size
        go_wp2_with fail
        go_ret
        exact ⟨rfl, D31⟩
      refine wp_region_held_drew (S := fun W' => W'.cell? ⟨w.heap.size, 0, none⟩ = some (.int .i64 a0x) ∧ W'.cell? ⟨w.heap.size, 1, none⟩ = some (.int .i64 a0y) ∧ W'.cell? ⟨w.heap.size, 2, none⟩ = some (.slice a0 len0 cap0) ∧ W'.cell? ⟨w.heap.size + 1, 0, none⟩ = some (.int .i64 a1x) ∧ W'.cell? ⟨w.heap.size + 1, 1, none⟩ = some (.int .i64 a1y) ∧ W'.cell? ⟨w.heap.size + 1, 2, none⟩ = some (.bool a1u)) (by kernel_rfl) (⟨cell_k2 (Below.drew (Below.refl _ _)) f23_0, cell_k2 (Below.drew (Below.refl _ _)) f23_1, cell_k2 (Below.drew (Below.refl _ _)) f23_2, cell_k2 (Below.drew (Below.refl _ _)) f23_3, cell_k2 (Below.drew (Below.refl _ _)) f23_4, cell_k2 (Below.drew (Below.refl _ _)) f23_5⟩) (fun hHeld => ?_)
      (refine wpAnyH_take (i := 0) (v := ?_) (by simp only [List.getElem?_toArray, List.getElem?_cons_succ, List.getElem?_cons_zero]; exact rfl) (by kernel_rfl) (by kernel_rfl) (by kernel_rfl) (by intro _ _ _ h; exact h) (Or.inl ⟨by rfl, ?_⟩) (by assumption) ?_; rotate_left; (focus (intro w' hSw; (try dsimp only at hSw); go_simp; (try with_reducible rfl))); try simp only [Act.put, List.setIfInBounds_toArray, List.set_cons_zero, List.set_cons_succ])
      (refine wpAnyH_take (i := 2) (v := ?_) (by simp only [List.getElem?_toArray, List.getElem?_cons_succ, List.getElem?_cons_zero]; exact rfl) (by kernel_rfl) (by kernel_rfl) (by kernel_rfl) (by intro _ _ _ h; exact h) (Or.inl ⟨by rfl, ?_⟩) (by assumption) ?_; rotate_left; (focus (intro w' hSw; (try dsimp only at hSw); go_simp; (try with_reducible rfl))); try simp only [Act.put, List.setIfInBounds_toArray, List.set_cons_zero, List.set_cons_succ])
      refine wpAnyH_ready (rs := [1, 8]) (by kernel_rfl) (by simp) (AllReadyH.cons (by simp only [List.getElem?_toArray, List.getElem?_cons_succ, List.getElem?_cons_zero]; exact rfl) (fun K' hK' => ?_) (AllReadyH.cons (by simp only [List.getElem?_toArray, List.getElem?_cons_succ, List.getElem?_cons_zero]; exact rfl) (fun K' hK' => ?_) AllReadyH.nil))
      · go_simp
        (go_at_call 9; refine (Try.toCity _ _ _ _ _ _ _ HL0.out (ArgE.below WA0.out ((D23).trans (((Below.drew (Below.refl wH22.heap.size wH22))).mono (D23).size)))).mono ?_; rintro e m32 ⟨v32, rfl, c32, d32⟩; obtain ⟨A32, u32, rfl, c32⟩ := OwnE.eta c32)
        have f32_0 := cell_k2 d32 (cell_k2 (Below.drew (Below.refl _ _)) f23_0)
        have f32_1 := cell_k2 d32 (cell_k2 (Below.drew (Below.refl _ _)) f23_1)
        have f32_2 := cell_k2 d32 (cell_k2 (Below.drew (Below.refl _ _)) f23_2)
        have f32_3 := cell_k2 d32 (cell_k2 (Below.drew (Below.refl _ _)) f23_3)
        have f32_4 := cell_k2 d32 (cell_k2 (Below.drew (Below.refl _ _)) f23_4)
        have f32_5 := cell_k2 d32 (cell_k2 (Below.drew (Below.refl _ _)) f23_5)
        have D32 := ((Below.drew (Below.refl wH22.heap.size wH22))).trans ((d32).mono ((Below.drew (Below.refl wH22.heap.size wH22))).size)
        have s32 := ((Below.drew (Below.refl wH22.heap.size wH22))).size
        have S32 := D32.size
        (refine hK'.out _ _ (⟨f32_0, f32_1, f32_2, f32_3, f32_4, f32_5⟩) (fun hHeld => ?_); clear hK' K'; try simp only [Act.put, List.setIfInBounds_toArray, List.set_cons_zero, List.set_cons_succ])
        refine wpAnyH_ready (rs := [3, 8]) (by kernel_rfl) (by simp) (AllReadyH.cons (by simp only [List.getElem?_toArray, List.getElem?_cons_succ, List.getElem?_cons_zero]; exact rfl) (fun K' hK' => ?_) (AllReadyH.cons (by simp only [List.getElem?_toArray, List.getElem?_cons_succ, List.getElem?_cons_zero]; exact rfl) (fun K' hK' => ?_) AllReadyH.nil))
        · go_simp
          (go_at_call 10; refine (Try.toBlock _ _ _ _).mono ?_; rintro e m33 ⟨rfl, g33⟩; have d33 := g33.below)
          have q33 := OwnE.below c32 d33 (Nat.le_refl _)
          have f33_0 := cell_k2 d33 f32_0
          have f33_1 := cell_k2 d33 f32_1
          have f33_2 := cell_k2 d33 f32_2
          have f33_3 := cell_k2 d33 f32_3
          have f33_4 := cell_k2 d33 f32_4
          have f33_5 := cell_k2 d33 f32_5
          have D33 := (D32).trans ((d33).mono (D32).size)
          have s33 := (D32).size
          have S33 := D33.size
          (refine hK'.out _ _ (⟨f33_0, f33_1, f33_2, f33_3, f33_4, f33_5⟩) (fun hHeld => ?_); clear hK' K'; try simp only [Act.put, List.setIfInBounds_toArray, List.set_cons_zero, List.set_cons_succ])
          refine wpAnyH_ready (rs := [4, 8]) (by kernel_rfl) (by simp) (AllReadyH.cons (by simp only [List.getElem?_toArray, List.getElem?_cons_succ, List.getElem?_cons_zero]; exact rfl) (fun K' hK' => ?_) (AllReadyH.cons (by simp only [List.getElem?_toArray, List.getElem?_cons_succ, List.getElem?_cons_zero]; exact rfl) (fun K' hK' => ?_) AllReadyH.nil))
          · go_simp
            (go_at_call 16; refine (HI.out _ _ _ (q33)).mono ?_; rintro e m34 ⟨v34, rfl, c34, d34⟩; obtain ⟨A34, u34, rfl, c34⟩ := OwnE.eta c34)
            have f34_0 := cell_k2 d34 f33_0
            have f34_1 := cell_k2 d34 f33_1
            have f34_2 := cell_k2 d34 f33_2
            have f34_3 := cell_k2 d34 f33_3
            have f34_4 := cell_k2 d34 f33_4
            have f34_5 := cell_k2 d34 f33_5
            have D34 := (D33).trans ((d34).mono (D33).size)
            have s34 := (D33).size
            have S34 := D34.size
            (refine hK'.out _ _ (⟨f34_0, f34_1, f34_2, f34_3, f34_4, f34_5⟩) (fun hHeld => ?_); clear hK' K'; try simp only [Act.put, List.setIfInBounds_toArray, List.set_cons_zero, List.set_cons_succ])
            (refine wpAnyH_take (i := 5) (v := ?_) (by simp only [List.getElem?_toArray, List.getElem?_cons_succ, List.getElem?_cons_zero]; exact rfl) (by kernel_rfl) (by kernel_rfl) (by kernel_rfl) (by intro _ _ _ h; exact h) (Or.inl ⟨by rfl, ?_⟩) (by assumption) ?_; rotate_left; (focus (intro w' hSw; (try dsimp only at hSw); go_simp; (try with_reducible rfl))); try simp only [Act.put, List.setIfInBounds_toArray, List.set_cons_zero, List.set_cons_succ])
            (refine wpAnyH_take (i := 6) (v := ?_) (by simp only [List.getElem?_toArray, List.getElem?_cons_succ, List.getElem?_cons_zero]; exact rfl) (by kernel_rfl) (by kernel_rfl) (by kernel_rfl) (by intro _ _ _ h; exact h) (Or.inl ⟨by rfl, ?_⟩) (by assumption) ?_; rotate_left; (focus (intro w' hSw; (try dsimp only at hSw); go_simp; (try with_reducible rfl))); try simp only [Act.put, List.setIfInBounds_toArray, List.set_cons_zero, List.set_cons_succ])
            (refine wpAnyH_take (i := 7) (v := ?_) (by simp only [List.getElem?_toArray, List.getElem?_cons_succ, List.getElem?_cons_zero]; exact rfl) (by kernel_rfl) (by kernel_rfl) (by kernel_rfl) (by intro _ _ _ h; exact h) (Or.inl ⟨by rfl, ?_⟩) (by assumption) ?_; rotate_left; (focus (intro w' hSw; (try dsimp only at hSw); go_simp; (try with_reducible rfl))); try simp only [Act.put, List.setIfInBounds_toArray, List.set_cons_zero, List.set_cons_succ])
            refine wpAnyH_ready (rs := [8]) (by kernel_rfl) (by simp) (AllReadyH.cons (by simp only [List.getElem?_toArray, List.getElem?_cons_succ, List.getElem?_cons_zero]; exact rfl) (fun K' hK' => ?_) AllReadyH.nil)
            go_simp
            have a35_0 := cell_k2 (Gr.alloc (Gr.refl m34) (Obj.cells #[.int .i64 0, .int .i64 0, .slice none 0 0] 30)).below f34_0
            have a35_1 := cell_k2 (Gr.alloc (Gr.refl m34) (Obj.cells #[.int .i64 0, .int .i64 0, .slice none 0 0] 30)).below f34_1
            have a35_2 := cell_k2 (Gr.alloc (Gr.refl m34) (Obj.cells #[.int .i64 0, .int .i64 0, .slice none 0 0] 30)).below f34_2
            have a35_3 := cell_k2 (Gr.alloc (Gr.refl m34) (Obj.cells #[.int .i64 0, .int .i64 0, .slice none 0 0] 30)).below f34_3
            have a35_4 := cell_k2 (Gr.alloc (Gr.refl m34) (Obj.cells #[.int .i64 0, .int .i64 0, .slice none 0 0] 30)).below f34_4
            have a35_5 := cell_k2 (Gr.alloc (Gr.refl m34) (Obj.cells #[.int .i64 0, .int .i64 0, .slice none 0 0] 30)).below f34_5
            have aD35 := (D34).trans (((Gr.alloc (Gr.refl m34) (Obj.cells #[.int .i64 0, .int .i64 0, .slice none 0 0] 30)).below).mono (D34).size)
            have aS35 := (D34).size
            (refine hK'.out _ _ (⟨a35_0, a35_1, a35_2, a35_3, a35_4, a35_5⟩) (fun hHeld => ?_); clear hK' K'; try simp only [Act.put, List.setIfInBounds_toArray, List.set_cons_zero, List.set_cons_succ])
            refine wpAnyH_ready (rs := [9]) (by kernel_rfl) (by simp) (AllReadyH.cons (by simp only [List.getElem?_toArray, List.getElem?_cons_succ, List.getElem?_cons_zero]; exact rfl) (fun K' hK' => ?_) AllReadyH.nil)
            go_simp
            (refine hK'.out _ _ (⟨cell_k2 (Gr.alloc (Gr.refl _) _).below f34_0, cell_k2 (Gr.alloc (Gr.refl _) _).below f34_1, cell_k2 (Gr.alloc (Gr.refl _) _).below f34_2, cell_k2 (Gr.alloc (Gr.refl _) _).below f34_3, cell_k2 (Gr.alloc (Gr.refl _) _).below f34_4, cell_k2 (Gr.alloc (Gr.refl _) _).below f34_5⟩) (fun hHeld => ?_); clear hK' K'; try simp only [Act.put, List.setIfInBounds_toArray, List.set_cons_zero, List.set_cons_succ])
            refine wpAnyH_ready (rs := [10]) (by kernel_rfl) (by simp) (AllReadyH.cons (by simp only [List.getElem?_toArray, List.getElem?_cons_succ, List.getElem?_cons_zero]; exact rfl) (fun K' hK' => ?_) AllReadyH.nil)
            go_simp
            (refine hK'.out _ _ (⟨cell_k2 (Gr.alloc (Gr.refl _) _).below f34_0, cell_k2 (Gr.alloc (Gr.refl _) _).below f34_1, cell_k2 (Gr.alloc (Gr.refl _) _).below f34_2, cell_k2 (Gr.alloc (Gr.refl _) _).below f34_3, cell_k2 (Gr.alloc (Gr.refl _) _).below f34_4, cell_k2 (Gr.alloc (Gr.refl _) _).below f34_5⟩) (fun hHeld => ?_); clear hK' K'; try simp only [Act.put, List.setIfInBounds_toArray, List.set_cons_zero, List.set_cons_succ])
            refine wpAnyH_done (by kernel_rfl) ?_ _
            show K3 _ _
            exact TAIL3 _ _ _ _ _ ((D34).trans (((Gr.alloc (Gr.refl m34) _).below).mono (D34).size)) (by simp [go_sem]) (by simp [go_sem]) (by simp [go_sem]) (OwnE.mono (OwnE.gr c34 (Gr.alloc (Gr.refl _) _)) (by omega)) (by omega) (fun e => by have := (World.ownsRow.lt c34 _ e.symm).2; omega)
          · go_simp
            have a37_0 := cell_k2 (Gr.alloc (Gr.refl m33) (Obj.cells #[.int .i64 0, .int .i64 0, .slice none 0 0] 30)).below f33_0
            have a37_1 := cell_k2 (Gr.alloc (Gr.refl m33) (Obj.cells #[.int .i64 0, .int .i64 0, .slice none 0 0] 30)).below f33_1
            have a37_2 := cell_k2 (Gr.alloc (Gr.refl m33) (Obj.cells #[.int .i64 0, .int .i64 0, .slice none 0 0] 30)).below f33_2
            have a37_3 := cell_k2 (Gr.alloc (Gr.refl m33) (Obj.cells #[.int .i64 0, .int .i64 0, .slice none 0 0] 30)).below f33_3
            have a37_4 := cell_k2 (Gr.alloc (Gr.refl m33) (Obj.cells #[.int .i64 0, .int .i64 0, .slice none 0 0] 30)).below f33_4
            have a37_5 := cell_k2 (Gr.alloc (Gr.refl m33) (Obj.cells #[.int .i64 0, .int .i64 0, .slice none 0 0] 30)).below f33_5
            have aD37 := (D33).trans (((Gr.alloc (Gr.refl m33) (Obj.cells #[.int .i64 0, .int .i64 0, .slice none 0 0] 30)).below).mono (D33).size)
            have aS37 := (D33).size
            have ab37_0 : (m33.alloc (Obj.cells #[.int .i64 0, .int .i64 0, .slice none 0 0] 30)).cell? ⟨m33.heap.size, 0, none⟩ = some (.int .i64 0) := by simp [go_sem]
            have ab37_1 : (m33.alloc (Obj.cells #[.int .i64 0, .int .i64 0, .slice none 0 0] 30)).cell? ⟨m33.heap.size, 1, none⟩ = some (.int .i64 0) := by simp [go_sem]
            have ab37_2 : (m33.alloc (Obj.cells #[.int .i64 0, .int .i64 0, .slice none 0 0] 30)).cell? ⟨m33.heap.size, 2, none⟩ = some (.slice none 0 0) := by simp [go_sem]
            have af37 : ∀ o, (m33.alloc (Obj.cells #[.int .i64 0, .int .i64 0, .slice none 0 0] 30)).frozen? ⟨m33.heap.size, o, none⟩ = false := fun o => by simp [go_sem]
            have aq37 := OwnE.below q33 (Gr.alloc (Gr.refl m33) (Obj.cells #[.int .i64 0, .int .i64 0, .slice none 0 0] 30)).below (Nat.le_refl _)
            (refine hK'.out _ _ (⟨a37_0, a37_1, a37_2, a37_3, a37_4, a37_5⟩) (fun hHeld => ?_); clear hK' K'; try simp only [Act.put, List.setIfInBounds_toArray, List.set_cons_zero, List.set_cons_succ])
            refine wpAnyH_ready (rs := [4]) (by kernel_rfl) (by simp) (AllReadyH.cons (by simp only [List.getElem?_toArray, List.getElem?_cons_succ, List.getElem?_cons_zero]; exact rfl) (fun K' hK' => ?_) AllReadyH.nil)
            go_simp
            have bp38 := (show m33.heap.size < _ from World.block_lt_of_cell? _ _ ab37_0)
            (go_at_call 16; refine (HI.out _ _ _ (aq37)).mono ?_; rintro e m38 ⟨v38, rfl, c38, d38⟩; obtain ⟨A38, u38, rfl, c38⟩ := OwnE.eta c38)
            have f38_0 := cell_k2 d38 a37_0
            have f38_1 := cell_k2 d38 a37_1
            have f38_2 := cell_k2 d38 a37_2
            have f38_3 := cell_k2 d38 a37_3
            have f38_4 := cell_k2 d38 a37_4
            have f38_5 := cell_k2 d38 a37_5
            have D38 := (aD37).trans ((d38).mono (aD37).size)
            have s38 := (aD37).size
            have S38 := D38.size
            have b38_0 := cell_k2 d38 ab37_0
            have b38_1 := cell_k2 d38 ab37_1
            have b38_2 := cell_k2 d38 ab37_2
            have bf38 : ∀ o, m38.frozen? ⟨m33.heap.size, o, none⟩ = false := fun o => (d38.frozen (p := ⟨m33.heap.size, o, none⟩) (show m33.heap.size < _ from World.block_lt_of_cell? _ _ ab37_0)).trans (af37 o)
            have bn38 : some (m33.heap.size) ≠ (Value.slice A38 xs.length u38).ownBlock := fun e => by have := (World.ownsRow.lt c38 _ e.symm).1; omega
            (refine hK'.out _ _ (⟨f38_0, f38_1, f38_2, f38_3, f38_4, f38_5⟩) (fun hHeld => ?_); clear hK' K'; try simp only [Act.put, List.setIfInBounds_toArray, List.set_cons_zero, List.set_cons_succ])
            (refine wpAnyH_take (i := 5) (v := ?_) (by simp only [List.getElem?_toArray, List.getElem?_cons_succ, List.getElem?_cons_zero]; exact rfl) (by kernel_rfl) (by kernel_rfl) (by kernel_rfl) (by intro _ _ _ h; exact h) (Or.inl ⟨by rfl, ?_⟩) (by assumption) ?_; rotate_left; (focus (intro w' hSw; (try dsimp only at hSw); go_simp; (try with_reducible rfl))); try simp only [Act.put, List.setIfInBounds_toArray, List.set_cons_zero, List.set_cons_succ])
            (refine wpAnyH_take (i := 6) (v := ?_) (by simp only [List.getElem?_toArray, List.getElem?_cons_succ, List.getElem?_cons_zero]; exact rfl) (by kernel_rfl) (by kernel_rfl) (by kernel_rfl) (by intro _ _ _ h; exact h) (Or.inl ⟨by rfl, ?_⟩) (by assumption) ?_; rotate_left; (focus (intro w' hSw; (try dsimp only at hSw); go_simp; (try with_reducible rfl))); try simp only [Act.put, List.setIfInBounds_toArray, List.set_cons_zero, List.set_cons_succ])
            (refine wpAnyH_take (i := 7) (v := ?_) (by simp only [List.getElem?_toArray, List.getElem?_cons_succ, List.getElem?_cons_zero]; exact rfl) (by kernel_rfl) (by kernel_rfl) (by kernel_rfl) (by intro _ _ _ h; exact h) (Or.inl ⟨by rfl, ?_⟩) (by assumption) ?_; rotate_left; (focus (intro w' hSw; (try dsimp only at hSw); go_simp; (try with_reducible rfl))); try simp only [Act.put, List.setIfInBounds_toArray, List.set_cons_zero, List.set_cons_succ])
            refine wpAnyH_ready (rs := [9]) (by kernel_rfl) (by simp) (AllReadyH.cons (by simp only [List.getElem?_toArray, List.getElem?_cons_succ, List.getElem?_cons_zero]; exact rfl) (fun K' hK' => ?_) AllReadyH.nil)
            go_simp
            (refine hK'.out _ _ (⟨cell_set3 f38_0 (show w.heap.size ≠ m33.heap.size by omega), cell_set3 f38_1 (show w.heap.size ≠ m33.heap.size by omega), cell_set3 f38_2 (show w.heap.size ≠ m33.heap.size by omega), cell_set3 f38_3 (show w.heap.size + 1 ≠ m33.heap.size by omega), cell_set3 f38_4 (show w.heap.size + 1 ≠ m33.heap.size by omega), cell_set3 f38_5 (show w.heap.size + 1 ≠ m33.heap.size by omega)⟩) (fun hHeld => ?_); clear hK' K'; try simp only [Act.put, List.setIfInBounds_toArray, List.set_cons_zero, List.set_cons_succ])
            refine wpAnyH_ready (rs := [10]) (by kernel_rfl) (by simp) (AllReadyH.cons (by simp only [List.getElem?_toArray, List.getElem?_cons_succ, List.getElem?_cons_zero]; exact rfl) (fun K' hK' => ?_) AllReadyH.nil)
            go_simp
            (refine hK'.out _ _ (⟨cell_set3 f38_0 (show w.heap.size ≠ m33.heap.size by omega), cell_set3 f38_1 (show w.heap.size ≠ m33.heap.size by omega), cell_set3 f38_2 (show w.heap.size ≠ m33.heap.size by omega), cell_set3 f38_3 (show w.heap.size + 1 ≠ m33.heap.size by omega), cell_set3 f38_4 (show w.heap.size + 1 ≠ m33.heap.size by omega), cell_set3 f38_5 (show w.heap.size + 1 ≠ m33.heap.size by omega)⟩) (fun hHeld => ?_); clear hK' K'; try simp only [Act.put, List.setIfInBounds_toArray, List.set_cons_zero, List.set_cons_succ])
            refine wpAnyH_done (by kernel_rfl) ?_ _
            show K3 _ _
            exact TAIL3 _ _ _ _ _ (Below.set3 (D38) (by omega)) (set3_0 b38_0) (set3_1 b38_1) (set3_2 b38_2) (OwnE.mono (OwnE.setOther (a := ⟨m33.heap.size, 2, none⟩) (OwnE.setOther (a := ⟨m33.heap.size, 1, none⟩) (OwnE.setOther (a := ⟨m33.heap.size, 0, none⟩) c38 (by show m33.heap.size < _; omega) _) (by show m33.heap.size < _; omega) _) (by show m33.heap.size < _; omega) _) (by omega)) (by omega) bn38
        · go_simp
          have a40_0 := cell_k2 (Gr.alloc (Gr.refl m32) (Obj.cells #[.int .i64 0, .int .i64 0, .slice none 0 0] 30)).below f32_0
          have a40_1 := cell_k2 (Gr.alloc (Gr.refl m32) (Obj.cells #[.int .i64 0, .int .i64 0, .slice none 0 0] 30)).below f32_1
          have a40_2 := cell_k2 (Gr.alloc (Gr.refl m32) (Obj.cells #[.int .i64 0, .int .i64 0, .slice none 0 0] 30)).below f32_2
          have a40_3 := cell_k2 (Gr.alloc (Gr.refl m32) (Obj.cells #[.int .i64 0, .int .i64 0, .slice none 0 0] 30)).below f32_3
          have a40_4 := cell_k2 (Gr.alloc (Gr.refl m32) (Obj.cells #[.int .i64 0, .int .i64 0, .slice none 0 0] 30)).below f32_4
          have a40_5 := cell_k2 (Gr.alloc (Gr.refl m32) (Obj.cells #[.int .i64 0, .int .i64 0, .slice none 0 0] 30)).below f32_5
          have aD40 := (D32).trans (((Gr.alloc (Gr.refl m32) (Obj.cells #[.int .i64 0, .int .i64 0, .slice none 0 0] 30)).below).mono (D32).size)
          have aS40 := (D32).size
          have ab40_0 : (m32.alloc (Obj.cells #[.int .i64 0, .int .i64 0, .slice none 0 0] 30)).cell? ⟨m32.heap.size, 0, none⟩ = some (.int .i64 0) := by simp [go_sem]
          have ab40_1 : (m32.alloc (Obj.cells #[.int .i64 0, .int .i64 0, .slice none 0 0] 30)).cell? ⟨m32.heap.size, 1, none⟩ = some (.int .i64 0) := by simp [go_sem]
          have ab40_2 : (m32.alloc (Obj.cells #[.int .i64 0, .int .i64 0, .slice none 0 0] 30)).cell? ⟨m32.heap.size, 2, none⟩ = some (.slice none 0 0) := by simp [go_sem]
          have af40 : ∀ o, (m32.alloc (Obj.cells #[.int .i64 0, .int .i64 0, .slice none 0 0] 30)).frozen? ⟨m32.heap.size, o, none⟩ = false := fun o => by simp [go_sem]
          have aq40 := OwnE.below c32 (Gr.alloc (Gr.refl m32) (Obj.cells #[.int .i64 0, .int .i64 0, .slice none 0 0] 30)).below (Nat.le_refl _)
          (refine hK'.out _ _ (⟨a40_0, a40_1, a40_2, a40_3, a40_4, a40_5⟩) (fun hHeld => ?_); clear hK' K'; try simp only [Act.put, List.setIfInBounds_toArray, List.set_cons_zero, List.set_cons_succ])
          refine wpAnyH_ready (rs := [3]) (by kernel_rfl) (by simp) (AllReadyH.cons (by simp only [List.getElem?_toArray, List.getElem?_cons_succ, List.getElem?_cons_zero]; exact rfl) (fun K' hK' => ?_) AllReadyH.nil)
          go_simp
          (go_at_call 10; refine (Try.toBlock _ _ _ _).mono ?_; rintro e m41 ⟨rfl, g41⟩; have d41 := g41.below)
          have q41 := OwnE.below aq40 d41 (Nat.le_refl _)
          have f41_0 := cell_k2 d41 a40_0
          have f41_1 := cell_k2 d41 a40_1
          have f41_2 := cell_k2 d41 a40_2
          have f41_3 := cell_k2 d41 a40_3
          have f41_4 := cell_k2 d41 a40_4
          have f41_5 := cell_k2 d41 a40_5
          have D41 := (aD40).trans ((d41).mono (aD40).size)
          have s41 := (aD40).size
          have S41 := D41.size
          have b41_0 := cell_k2 d41 ab40_0
          have b41_1 := cell_k2 d41 ab40_1
          have b41_2 := cell_k2 d41 ab40_2
          have bf41 : ∀ o, m41.frozen? ⟨m32.heap.size, o, none⟩ = false := fun o => (d41.frozen (p := ⟨m32.heap.size, o, none⟩) (show m32.heap.size < _ from World.block_lt_of_cell? _ _ ab40_0)).trans (af40 o)
          (refine hK'.out _ _ (⟨f41_0, f41_1, f41_2, f41_3, f41_4, f41_5⟩) (fun hHeld => ?_); clear hK' K'; try simp only [Act.put, List.setIfInBounds_toArray, List.set_cons_zero, List.set_cons_succ])
          refine wpAnyH_ready (rs := [4]) (by kernel_rfl) (by simp) (AllReadyH.cons (by simp only [List.getElem?_toArray, List.getElem?_cons_succ, List.getElem?_cons_zero]; exact rfl) (fun K' hK' => ?_) AllReadyH.nil)
          go_simp
          have bp42 := (show m32.heap.size < _ from World.block_lt_of_cell? _ _ b41_0)
          (go_at_call 16; refine (HI.out _ _ _ (q41)).mono ?_; rintro e m42 ⟨v42, rfl, c42, d42⟩; obtain ⟨A42, u42, rfl, c42⟩ := OwnE.eta c42)
          have f42_0 := cell_k2 d42 f41_0
          have f42_1 := cell_k2 d42 f41_1
          have f42_2 := cell_k2 d42 f41_2
          have f42_3 := cell_k2 d42 f41_3
          have f42_4 := cell_k2 d42 f41_4
          have f42_5 := cell_k2 d42 f41_5
          have D42 := (D41).trans ((d42).mono (D41).size)
          have s42 := (D41).size
          have S42 := D42.size
          have b42_0 := cell_k2 d42 b41_0
          have b42_1 := cell_k2 d42 b41_1
          have b42_2 := cell_k2 d42 b41_2
          have bf42 : ∀ o, m42.frozen? ⟨m32.heap.size, o, none⟩ = false := fun o => (d42.frozen (p := ⟨m32.heap.size, o, none⟩) (show m32.heap.size < _ from World.block_lt_of_cell? _ _ b41_0)).trans (bf41 o)
          have bn42 : some (m32.heap.size) ≠ (Value.slice A42 xs.length u42).ownBlock := fun e => by have := (World.ownsRow.lt c42 _ e.symm).1; omega
          (refine hK'.out _ _ (⟨f42_0, f42_1, f42_2, f42_3, f42_4, f42_5⟩) (fun hHeld => ?_); clear hK' K'; try simp only [Act.put, List.setIfInBounds_toArray, List.set_cons_zero, List.set_cons_succ])
          (refine wpAnyH_take (i := 5) (v := ?_) (by simp only [List.getElem?_toArray, List.getElem?_cons_succ, List.getElem?_cons_zero]; exact rfl) (by kernel_rfl) (by kernel_rfl) (by kernel_rfl) (by intro _ _ _ h; exact h) (Or.inl ⟨by rfl, ?_⟩) (by assumption) ?_; rotate_left; (focus (intro w' hSw; (try dsimp only at hSw); go_simp; (try with_reducible rfl))); try simp only [Act.put, List.setIfInBounds_toArray, List.set_cons_zero, List.set_cons_succ])
          (refine wpAnyH_take (i := 6) (v := ?_) (by simp only [List.getElem?_toArray, List.getElem?_cons_succ, List.getElem?_cons_zero]; exact rfl) (by kernel_rfl) (by kernel_rfl) (by kernel_rfl) (by intro _ _ _ h; exact h) (Or.inl ⟨by rfl, ?_⟩) (by assumption) ?_; rotate_left; (focus (intro w' hSw; (try dsimp only at hSw); go_simp; (try with_reducible rfl))); try simp only [Act.put, List.setIfInBounds_toArray, List.set_cons_zero, List.set_cons_succ])
          (refine wpAnyH_take (i := 7) (v := ?_) (by simp only [List.getElem?_toArray, List.getElem?_cons_succ, List.getElem?_cons_zero]; exact rfl) (by kernel_rfl) (by kernel_rfl) (by kernel_rfl) (by intro _ _ _ h; exact h) (Or.inl ⟨by rfl, ?_⟩) (by assumption) ?_; rotate_left; (focus (intro w' hSw; (try dsimp only at hSw); go_simp; (try with_reducible rfl))); try simp only [Act.put, List.setIfInBounds_toArray, List.set_cons_zero, List.set_cons_succ])
          refine wpAnyH_ready (rs := [9]) (by kernel_rfl) (by simp) (AllReadyH.cons (by simp only [List.getElem?_toArray, List.getElem?_cons_succ, List.getElem?_cons_zero]; exact rfl) (fun K' hK' => ?_) AllReadyH.nil)
          go_simp
          (refine hK'.out _ _ (⟨cell_set3 f42_0 (show w.heap.size ≠ m32.heap.size by omega), cell_set3 f42_1 (show w.heap.size ≠ m32.heap.size by omega), cell_set3 f42_2 (show w.heap.size ≠ m32.heap.size by omega), cell_set3 f42_3 (show w.heap.size + 1 ≠ m32.heap.size by omega), cell_set3 f42_4 (show w.heap.size + 1 ≠ m32.heap.size by omega), cell_set3 f42_5 (show w.heap.size + 1 ≠ m32.heap.size by omega)⟩) (fun hHeld => ?_); clear hK' K'; try simp only [Act.put, List.setIfInBounds_toArray, List.set_cons_zero, List.set_cons_succ])
          refine wpAnyH_ready (rs := [10]) (by kernel_rfl) (by simp) (AllReadyH.cons (by simp only [List.getElem?_toArray, List.getElem?_cons_succ, List.getElem?_cons_zero]; exact rfl) (fun K' hK' => ?_) AllReadyH.nil)
          go_simp
          (refine hK'.out _ _ (⟨cell_set3 f42_0 (show w.heap.size ≠ m32.heap.size by omega), cell_set3 f42_1 (show w.heap.size ≠ m32.heap.size by omega), cell_set3 f42_2 (show w.heap.size ≠ m32.heap.size by omega), cell_set3 f42_3 (show w.heap.size + 1 ≠ m32.heap.size by omega), cell_set3 f42_4 (show w.heap.size + 1 ≠ m32.heap.size by omega), cell_set3 f42_5 (show w.heap.size + 1 ≠ m32.heap.size by omega)⟩) (fun hHeld => ?_); clear hK' K'; try simp only [Act.put, List.setIfInBounds_toArray, List.set_cons_zero, List.set_cons_succ])
          refine wpAnyH_done (by kernel_rfl) ?_ _
          show K3 _ _
          exact TAIL3 _ _ _ _ _ (Below.set3 (D42) (by omega)) (set3_0 b42_0) (set3_1 b42_1) (set3_2 b42_2) (OwnE.mono (OwnE.setOther (a := ⟨m32.heap.size, 2, none⟩) (OwnE.setOther (a := ⟨m32.heap.size, 1, none⟩) (OwnE.setOther (a := ⟨m32.heap.size, 0, none⟩) c42 (by show m32.heap.size < _; omega) _) (by show m32.heap.size < _; omega) _) (by show m32.heap.size < _; omega) _) (by omega)) (by omega) bn42
      · go_simp
        have a44_0 := cell_k2 (Gr.alloc (Gr.refl wH22.drew) (Obj.cells #[.int .i64 0, .int .i64 0, .slice none 0 0] 30)).below (cell_k2 (Below.drew (Below.refl _ _)) f23_0)
        have a44_1 := cell_k2 (Gr.alloc (Gr.refl wH22.drew) (Obj.cells #[.int .i64 0, .int .i64 0, .slice none 0 0] 30)).below (cell_k2 (Below.drew (Below.refl _ _)) f23_1)
        have a44_2 := cell_k2 (Gr.alloc (Gr.refl wH22.drew) (Obj.cells #[.int .i64 0, .int .i64 0, .slice none 0 0] 30)).below (cell_k2 (Below.drew (Below.refl _ _)) f23_2)
        have a44_3 := cell_k2 (Gr.alloc (Gr.refl wH22.drew) (Obj.cells #[.int .i64 0, .int .i64 0, .slice none 0 0] 30)).below (cell_k2 (Below.drew (Below.refl _ _)) f23_3)
        have a44_4 := cell_k2 (Gr.alloc (Gr.refl wH22.drew) (Obj.cells #[.int .i64 0, .int .i64 0, .slice none 0 0] 30)).below (cell_k2 (Below.drew (Below.refl _ _)) f23_4)
        have a44_5 := cell_k2 (Gr.alloc (Gr.refl wH22.drew) (Obj.cells #[.int .i64 0, .int .i64 0, .slice none 0 0] 30)).below (cell_k2 (Below.drew (Below.refl _ _)) f23_5)
        have aD44 := ((Below.drew (Below.refl wH22.heap.size wH22))).trans (((Gr.alloc (Gr.refl wH22.drew) (Obj.cells #[.int .i64 0, .int .i64 0, .slice none 0 0] 30)).below).mono ((Below.drew (Below.refl wH22.heap.size wH22))).size)
        have aS44 := ((Below.drew (Below.refl wH22.heap.size wH22))).size
        have ab44_0 : (wH22.drew.alloc (Obj.cells #[.int .i64 0, .int .i64 0, .slice none 0 0] 30)).cell? ⟨wH22.heap.size, 0, none⟩ = some (.int .i64 0) := by simp [go_sem]
        have ab44_1 : (wH22.drew.alloc (Obj.cells #[.int .i64 0, .int .i64 0, .slice none 0 0] 30)).cell? ⟨wH22.heap.size, 1, none⟩ = some (.int .i64 0) := by simp [go_sem]
        have ab44_2 : (wH22.drew.alloc (Obj.cells #[.int .i64 0, .int .i64 0, .slice none 0 0] 30)).cell? ⟨wH22.heap.size, 2, none⟩ = some (.slice none 0 0) := by simp [go_sem]
        have af44 : ∀ o, (wH22.drew.alloc (Obj.cells #[.int .i64 0, .int .i64 0, .slice none 0 0] 30)).frozen? ⟨wH22.heap.size, o, none⟩ = false := fun o => by simp [go_sem]
        (refine hK'.out _ _ (⟨a44_0, a44_1, a44_2, a44_3, a44_4, a44_5⟩) (fun hHeld => ?_); clear hK' K'; try simp only [Act.put, List.setIfInBounds_toArray, List.set_cons_zero, List.set_cons_succ])
        refine wpAnyH_ready (rs := [1]) (by kernel_rfl) (by simp) (AllReadyH.cons (by simp only [List.getElem?_toArray, List.getElem?_cons_succ, List.getElem?_cons_zero]; exact rfl) (fun K' hK' => ?_) AllReadyH.nil)
        go_simp
        (go_at_call 9; refine (Try.toCity _ _ _ _ _ _ _ HL0.out (ArgE.below WA0.out ((D23).trans ((aD44).mono (D23).size)))).mono ?_; rintro e m45 ⟨v45, rfl, c45, d45⟩; obtain ⟨A45, u45, rfl, c45⟩ := OwnE.eta c45)
        have f45_0 := cell_k2 d45 a44_0
        have f45_1 := cell_k2 d45 a44_1
        have f45_2 := cell_k2 d45 a44_2
        have f45_3 := cell_k2 d45 a44_3
        have f45_4 := cell_k2 d45 a44_4
        have f45_5 := cell_k2 d45 a44_5
        have D45 := (aD44).trans ((d45).mono (aD44).size)
        have s45 := (aD44).size
        have S45 := D45.size
        have b45_0 := cell_k2 d45 ab44_0
        have b45_1 := cell_k2 d45 ab44_1
        have b45_2 := cell_k2 d45 ab44_2
        have bf45 : ∀ o, m45.frozen? ⟨wH22.heap.size, o, none⟩ = false := fun o => (d45.frozen (p := ⟨wH22.heap.size, o, none⟩) (show wH22.heap.size < _ from World.block_lt_of_cell? _ _ ab44_0)).trans (af44 o)
        (refine hK'.out _ _ (⟨f45_0, f45_1, f45_2, f45_3, f45_4, f45_5⟩) (fun hHeld => ?_); clear hK' K'; try simp only [Act.put, List.setIfInBounds_toArray, List.set_cons_zero, List.set_cons_succ])
        refine wpAnyH_ready (rs := [3]) (by kernel_rfl) (by simp) (AllReadyH.cons (by simp only [List.getElem?_toArray, List.getElem?_cons_succ, List.getElem?_cons_zero]; exact rfl) (fun K' hK' => ?_) AllReadyH.nil)
        go_simp
        (go_at_call 10; refine (Try.toBlock _ _ _ _).mono ?_; rintro e m46 ⟨rfl, g46⟩; have d46 := g46.below)
        have q46 := OwnE.below c45 d46 (Nat.le_refl _)
        have f46_0 := cell_k2 d46 f45_0
        have f46_1 := cell_k2 d46 f45_1
        have f46_2 := cell_k2 d46 f45_2
        have f46_3 := cell_k2 d46 f45_3
        have f46_4 := cell_k2 d46 f45_4
        have f46_5 := cell_k2 d46 f45_5
        have D46 := (D45).trans ((d46).mono (D45).size)
        have s46 := (D45).size
        have S46 := D46.size
        have b46_0 := cell_k2 d46 b45_0
        have b46_1 := cell_k2 d46 b45_1
        have b46_2 := cell_k2 d46 b45_2
        have bf46 : ∀ o, m46.frozen? ⟨wH22.heap.size, o, none⟩ = false := fun o => (d46.frozen (p := ⟨wH22.heap.size, o, none⟩) (show wH22.heap.size < _ from World.block_lt_of_cell? _ _ b45_0)).trans (bf45 o)
        (refine hK'.out _ _ (⟨f46_0, f46_1, f46_2, f46_3, f46_4, f46_5⟩) (fun hHeld => ?_); clear hK' K'; try simp only [Act.put, List.setIfInBounds_toArray, List.set_cons_zero, List.set_cons_succ])
        refine wpAnyH_ready (rs := [4]) (by kernel_rfl) (by simp) (AllReadyH.cons (by simp only [List.getElem?_toArray, List.getElem?_cons_succ, List.getElem?_cons_zero]; exact rfl) (fun K' hK' => ?_) AllReadyH.nil)
        go_simp
        have bp47 := (show wH22.heap.size < _ from World.block_lt_of_cell? _ _ b46_0)
        (go_at_call 16; refine (HI.out _ _ _ (q46)).mono ?_; rintro e m47 ⟨v47, rfl, c47, d47⟩; obtain ⟨A47, u47, rfl, c47⟩ := OwnE.eta c47)
        have f47_0 := cell_k2 d47 f46_0
        have f47_1 := cell_k2 d47 f46_1
        have f47_2 := cell_k2 d47 f46_2
        have f47_3 := cell_k2 d47 f46_3
        have f47_4 := cell_k2 d47 f46_4
        have f47_5 := cell_k2 d47 f46_5
        have D47 := (D46).trans ((d47).mono (D46).size)
        have s47 := (D46).size
        have S47 := D47.size
        have b47_0 := cell_k2 d47 b46_0
        have b47_1 := cell_k2 d47 b46_1
        have b47_2 := cell_k2 d47 b46_2
        have bf47 : ∀ o, m47.frozen? ⟨wH22.heap.size, o, none⟩ = false := fun o => (d47.frozen (p := ⟨wH22.heap.size, o, none⟩) (show wH22.heap.size < _ from World.block_lt_of_cell? _ _ b46_0)).trans (bf46 o)
        have bn47 : some (wH22.heap.size) ≠ (Value.slice A47 xs.length u47).ownBlock := fun e => by have := (World.ownsRow.lt c47 _ e.symm).1; omega
        (refine hK'.out _ _ (⟨f47_0, f47_1, f47_2, f47_3, f47_4, f47_5⟩) (fun hHeld => ?_); clear hK' K'; try simp only [Act.put, List.setIfInBounds_toArray, List.set_cons_zero, List.set_cons_succ])
        (refine wpAnyH_take (i := 5) (v := ?_) (by simp only [List.getElem?_toArray, List.getElem?_cons_succ, List.getElem?_cons_zero]; exact rfl) (by kernel_rfl) (by kernel_rfl) (by kernel_rfl) (by intro _ _ _ h; exact h) (Or.inl ⟨by rfl, ?_⟩) (by assumption) ?_; rotate_left; (focus (intro w' hSw; (try dsimp only at hSw); go_simp; (try with_reducible rfl))); try simp only [Act.put, List.setIfInBounds_toArray, List.set_cons_zero, List.set_cons_succ])
        (refine wpAnyH_take (i := 6) (v := ?_) (by simp only [List.getElem?_toArray, List.getElem?_cons_succ, List.getElem?_cons_zero]; exact rfl) (by kernel_rfl) (by kernel_rfl) (by kernel_rfl) (by intro _ _ _ h; exact h) (Or.inl ⟨by rfl, ?_⟩) (by assumption) ?_; rotate_left; (focus (intro w' hSw; (try dsimp only at hSw); go_simp; (try with_reducible rfl))); try simp only [Act.put, List.setIfInBounds_toArray, List.set_cons_zero, List.set_cons_succ])
        (refine wpAnyH_take (i := 7) (v := ?_) (by simp only [List.getElem?_toArray, List.getElem?_cons_succ, List.getElem?_cons_zero]; exact rfl) (by kernel_rfl) (by kernel_rfl) (by kernel_rfl) (by intro _ _ _ h; exact h) (Or.inl ⟨by rfl, ?_⟩) (by assumption) ?_; rotate_left; (focus (intro w' hSw; (try dsimp only at hSw); go_simp; (try with_reducible rfl))); try simp only [Act.put, List.setIfInBounds_toArray, List.set_cons_zero, List.set_cons_succ])
        refine wpAnyH_ready (rs := [9]) (by kernel_rfl) (by simp) (AllReadyH.cons (by simp only [List.getElem?_toArray, List.getElem?_cons_succ, List.getElem?_cons_zero]; exact rfl) (fun K' hK' => ?_) AllReadyH.nil)
        go_simp
        (refine hK'.out _ _ (⟨cell_set3 f47_0 (show w.heap.size ≠ wH22.heap.size by omega), cell_set3 f47_1 (show w.heap.size ≠ wH22.heap.size by omega), cell_set3 f47_2 (show w.heap.size ≠ wH22.heap.size by omega), cell_set3 f47_3 (show w.heap.size + 1 ≠ wH22.heap.size by omega), cell_set3 f47_4 (show w.heap.size + 1 ≠ wH22.heap.size by omega), cell_set3 f47_5 (show w.heap.size + 1 ≠ wH22.heap.size by omega)⟩) (fun hHeld => ?_); clear hK' K'; try simp only [Act.put, List.setIfInBounds_toArray, List.set_cons_zero, List.set_cons_succ])
        refine wpAnyH_ready (rs := [10]) (by kernel_rfl) (by simp) (AllReadyH.cons (by simp only [List.getElem?_toArray, List.getElem?_cons_succ, List.getElem?_cons_zero]; exact rfl) (fun K' hK' => ?_) AllReadyH.nil)
        go_simp
        (refine hK'.out _ _ (⟨cell_set3 f47_0 (show w.heap.size ≠ wH22.heap.size by omega), cell_set3 f47_1 (show w.heap.size ≠ wH22.heap.size by omega), cell_set3 f47_2 (show w.heap.size ≠ wH22.heap.size by omega), cell_set3 f47_3 (show w.heap.size + 1 ≠ wH22.heap.size by omega), cell_set3 f47_4 (show w.heap.size + 1 ≠ wH22.heap.size by omega), cell_set3 f47_5 (show w.heap.size + 1 ≠ wH22.heap.size by omega)⟩) (fun hHeld => ?_); clear hK' K'; try simp only [Act.put, List.setIfInBounds_toArray, List.set_cons_zero, List.set_cons_succ])
        refine wpAnyH_done (by kernel_rfl) ?_ _
        show K3 _ _
        exact TAIL3 _ _ _ _ _ (Below.set3 (D47) (by omega)) (set3_0 b47_0) (set3_1 b47_1) (set3_2 b47_2) (OwnE.mono (OwnE.setOther (a := ⟨wH22.heap.size, 2, none⟩) (OwnE.setOther (a := ⟨wH22.heap.size, 1, none⟩) (OwnE.setOther (a := ⟨wH22.heap.size, 0, none⟩) c47 (by show wH22.heap.size < _; omega) _) (by show wH22.heap.size < _; omega) _) (by show wH22.heap.size < _; omega) _) (by omega)) (by omega) bn47
    refine wp_region_held_drew (S := fun W' => W'.cell? ⟨wv5.heap.size, 0, none⟩ = some (.int .i64 a0x) ∧ W'.cell? ⟨wv5.heap.size, 1, none⟩ = some (.int .i64 a0y) ∧ W'.cell? ⟨wv5.heap.size, 2, none⟩ = some (.slice A5 z0.length u5) ∧ W'.cell? ⟨w.heap.size + 1, 0, none⟩ = some (.int .i64 a1x) ∧ W'.cell? ⟨w.heap.size + 1, 1, none⟩ = some (.int .i64 a1y) ∧ W'.cell? ⟨w.heap.size + 1, 2, none⟩ = some (.bool a1u)) (by kernel_rfl) (⟨cell_k2 (Below.drew (Below.refl _ _)) h7_0, cell_k2 (Below.drew (Below.refl _ _)) h7_1, cell_k2 (Below.drew (Below.refl _ _)) h7_2, cell_k2 (Below.drew (Below.refl _ _)) f8_3, cell_k2 (Below.drew (Below.refl _ _)) f8_4, cell_k2 (Below.drew (Below.refl _ _)) f8_5⟩) (fun hHeld => ?_)
    (refine wpAnyH_take (i := 0) (v := ?_) (by simp only [List.getElem?_toArray, List.getElem?_cons_succ, List.getElem?_cons_zero]; exact rfl) (by kernel_rfl) (by kernel_rfl) (by kernel_rfl) (by intro _ _ _ h; exact h) (Or.inl ⟨by rfl, ?_⟩) (by assumption) ?_; rotate_left; (focus (intro w' hSw; (try dsimp only at hSw); go_simp; (try with_reducible rfl))); try simp only [Act.put, List.setIfInBounds_toArray, List.set_cons_zero, List.set_cons_succ])
    (refine wpAnyH_take (i := 1) (v := ?_) (by simp only [List.getElem?_toArray, List.getElem?_cons_succ, List.getElem?_cons_zero]; exact rfl) (by kernel_rfl) (by kernel_rfl) (by kernel_rfl) (by intro _ _ _ h; exact h) (Or.inl ⟨by rfl, ?_⟩) (by assumption) ?_; rotate_left; (focus (intro w' hSw; (try dsimp only at hSw); go_simp; (try with_reducible rfl))); try simp only [Act.put, List.setIfInBounds_toArray, List.set_cons_zero, List.set_cons_succ])
    refine wpAnyH_ready (rs := [2, 7]) (by kernel_rfl) (by simp) (AllReadyH.cons (by simp only [List.getElem?_toArray, List.getElem?_cons_succ, List.getElem?_cons_zero]; exact rfl) (fun K' hK' => ?_) (AllReadyH.cons (by simp only [List.getElem?_toArray, List.getElem?_cons_succ, List.getElem?_cons_zero]; exact rfl) (fun K' hK' => ?_) AllReadyH.nil))
    · go_simp
      (go_at_call 10; refine (Try.toBlock _ _ _ _).mono ?_; rintro e m49 ⟨rfl, g49⟩; have d49 := g49.below)
      have q49 := OwnE.below (OwnE.below o8_r2 (Below.drew (Below.refl _ _)) (Nat.le_refl _)) d49 (Nat.le_refl _)
      have f49_0 := cell_k2 d49 (cell_k2 (Below.drew (Below.refl _ _)) h7_0)
      have f49_1 := cell_k2 d49 (cell_k2 (Below.drew (Below.refl _ _)) h7_1)
      have f49_2 := cell_k2 d49 (cell_k2 (Below.drew (Below.refl _ _)) h7_2)
      have f49_3 := cell_k2 d49 (cell_k2 (Below.drew (Below.refl _ _)) f8_3)
      have f49_4 := cell_k2 d49 (cell_k2 (Below.drew (Below.refl _ _)) f8_4)
      have f49_5 := cell_k2 d49 (cell_k2 (Below.drew (Below.refl _ _)) f8_5)
      have D49 := ((Below.drew (Below.refl W8.heap.size W8))).trans ((d49).mono ((Below.drew (Below.refl W8.heap.size W8))).size)
      have s49 := ((Below.drew (Below.refl W8.heap.size W8))).size
      have S49 := D49.size
      (refine hK'.out _ _ (⟨f49_0, f49_1, f49_2, f49_3, f49_4, f49_5⟩) (fun hHeld => ?_); clear hK' K'; try simp only [Act.put, List.setIfInBounds_toArray, List.set_cons_zero, List.set_cons_succ])
      refine wpAnyH_ready (rs := [3, 7]) (by kernel_rfl) (by simp) (AllReadyH.cons (by simp only [List.getElem?_toArray, List.getElem?_cons_succ, List.getElem?_cons_zero]; exact rfl) (fun K' hK' => ?_) (AllReadyH.cons (by simp only [List.getElem?_toArray, List.getElem?_cons_succ, List.getElem?_cons_zero]; exact rfl) (fun K' hK' => ?_) AllReadyH.nil))
      · go_simp
        (go_at_call 16; refine (HI.out _ _ _ (q49)).mono ?_; rintro e m50 ⟨v50, rfl, c50, d50⟩; obtain ⟨A50, u50, rfl, c50⟩ := OwnE.eta c50)
        have f50_0 := cell_k2 d50 f49_0
        have f50_1 := cell_k2 d50 f49_1
        have f50_2 := cell_k2 d50 f49_2
        have f50_3 := cell_k2 d50 f49_3
        have f50_4 := cell_k2 d50 f49_4
        have f50_5 := cell_k2 d50 f49_5
        have D50 := (D49).trans ((d50).mono (D49).size)
        have s50 := (D49).size
        have S50 := D50.size
        (refine hK'.out _ _ (⟨f50_0, f50_1, f50_2, f50_3, f50_4, f50_5⟩) (fun hHeld => ?_); clear hK' K'; try simp only [Act.put, List.setIfInBounds_toArray, List.set_cons_zero, List.set_cons_succ])
        (refine wpAnyH_take (i := 4) (v := ?_) (by simp only [List.getElem?_toArray, List.getElem?_cons_succ, List.getElem?_cons_zero]; exact rfl) (by kernel_rfl) (by kernel_rfl) (by kernel_rfl) (by intro _ _ _ h; exact h) (Or.inl ⟨by rfl, ?_⟩) (by assumption) ?_; rotate_left; (focus (intro w' hSw; (try dsimp only at hSw); go_simp; (try with_reducible rfl))); try simp only [Act.put, List.setIfInBounds_toArray, List.set_cons_zero, List.set_cons_succ])
        (refine wpAnyH_take (i := 5) (v := ?_) (by simp only [List.getElem?_toArray, List.getElem?_cons_succ, List.getElem?_cons_zero]; exact rfl) (by kernel_rfl) (by kernel_rfl) (by kernel_rfl) (by intro _ _ _ h; exact h) (Or.inl ⟨by rfl, ?_⟩) (by assumption) ?_; rotate_left; (focus (intro w' hSw; (try dsimp only at hSw); go_simp; (try with_reducible rfl))); try simp only [Act.put, List.setIfInBounds_toArray, List.set_cons_zero, List.set_cons_succ])
        (refine wpAnyH_take (i := 6) (v := ?_) (by simp only [List.getElem?_toArray, List.getElem?_cons_succ, List.getElem?_cons_zero]; exact rfl) (by kernel_rfl) (by kernel_rfl) (by kernel_rfl) (by intro _ _ _ h; exact h) (Or.inl ⟨by rfl, ?_⟩) (by assumption) ?_; rotate_left; (focus (intro w' hSw; (try dsimp only at hSw); go_simp; (try with_reducible rfl))); try simp only [Act.put, List.setIfInBounds_toArray, List.set_cons_zero, List.set_cons_succ])
        refine wpAnyH_ready (rs := [7]) (by kernel_rfl) (by simp) (AllReadyH.cons (by simp only [List.getElem?_toArray, List.getElem?_cons_succ, List.getElem?_cons_zero]; exact rfl) (fun K' hK' => ?_) AllReadyH.nil)
        go_simp
        have a51_0 := cell_k2 (Gr.alloc (Gr.refl m50) (Obj.cells #[.int .i64 0, .int .i64 0, .slice none 0 0] 30)).below f50_0
        have a51_1 := cell_k2 (Gr.alloc (Gr.refl m50) (Obj.cells #[.int .i64 0, .int .i64 0, .slice none 0 0] 30)).below f50_1
        have a51_2 := cell_k2 (Gr.alloc (Gr.refl m50) (Obj.cells #[.int .i64 0, .int .i64 0, .slice none 0 0] 30)).below f50_2
        have a51_3 := cell_k2 (Gr.alloc (Gr.refl m50) (Obj.cells #[.int .i64 0, .int .i64 0, .slice none 0 0] 30)).below f50_3
        have a51_4 := cell_k2 (Gr.alloc (Gr.refl m50) (Obj.cells #[.int .i64 0, .int .i64 0, .slice none 0 0] 30)).below f50_4
        have a51_5 := cell_k2 (Gr.alloc (Gr.refl m50) (Obj.cells #[.int .i64 0, .int .i64 0, .slice none 0 0] 30)).below f50_5
        have aD51 := (D50).trans (((Gr.alloc (Gr.refl m50) (Obj.cells #[.int .i64 0, .int .i64 0, .slice none 0 0] 30)).below).mono (D50).size)
        have aS51 := (D50).size
        (refine hK'.out _ _ (⟨a51_0, a51_1, a51_2, a51_3, a51_4, a51_5⟩) (fun hHeld => ?_); clear hK' K'; try simp only [Act.put, List.setIfInBounds_toArray, List.set_cons_zero, List.set_cons_succ])
        refine wpAnyH_ready (rs := [8]) (by kernel_rfl) (by simp) (AllReadyH.cons (by simp only [List.getElem?_toArray, List.getElem?_cons_succ, List.getElem?_cons_zero]; exact rfl) (fun K' hK' => ?_) AllReadyH.nil)
        go_simp
        (refine hK'.out _ _ (⟨cell_k2 (Gr.alloc (Gr.refl _) _).below f50_0, cell_k2 (Gr.alloc (Gr.refl _) _).below f50_1, cell_k2 (Gr.alloc (Gr.refl _) _).below f50_2, cell_k2 (Gr.alloc (Gr.refl _) _).below f50_3, cell_k2 (Gr.alloc (Gr.refl _) _).below f50_4, cell_k2 (Gr.alloc (Gr.refl _) _).below f50_5⟩) (fun hHeld => ?_); clear hK' K'; try simp only [Act.put, List.setIfInBounds_toArray, List.set_cons_zero, List.set_cons_succ])
        refine wpAnyH_ready (rs := [9]) (by kernel_rfl) (by simp) (AllReadyH.cons (by simp only [List.getElem?_toArray, List.getElem?_cons_succ, List.getElem?_cons_zero]; exact rfl) (fun K' hK' => ?_) AllReadyH.nil)
        go_simp
        (refine hK'.out _ _ (⟨cell_k2 (Gr.alloc (Gr.refl _) _).below f50_0, cell_k2 (Gr.alloc (Gr.refl _) _).below f50_1, cell_k2 (Gr.alloc (Gr.refl _) _).below f50_2, cell_k2 (Gr.alloc (Gr.refl _) _).below f50_3, cell_k2 (Gr.alloc (Gr.refl _) _).below f50_4, cell_k2 (Gr.alloc (Gr.refl _) _).below f50_5⟩) (fun hHeld => ?_); clear hK' K'; try simp only [Act.put, List.setIfInBounds_toArray, List.set_cons_zero, List.set_cons_succ])
        refine wpAnyH_done (by kernel_rfl) ?_ _
        show K2 _ _
        exact TAIL2 _ _ _ _ ((D50).trans (((Gr.alloc (Gr.refl m50) _).below).mono (D50).size)) (by simp [go_sem]) (by simp [go_sem]) (by simp [go_sem]) (OwnE.mono (OwnE.gr c50 (Gr.alloc (Gr.refl _) _)) (by omega)) (by omega) (fun e => by have := (World.ownsRow.lt c50 _ e.symm).2; omega)
      · go_simp
        have a53_0 := cell_k2 (Gr.alloc (Gr.refl m49) (Obj.cells #[.int .i64 0, .int .i64 0, .slice none 0 0] 30)).below f49_0
        have a53_1 := cell_k2 (Gr.alloc (Gr.refl m49) (Obj.cells #[.int .i64 0, .int .i64 0, .slice none 0 0] 30)).below f49_1
        have a53_2 := cell_k2 (Gr.alloc (Gr.refl m49) (Obj.cells #[.int .i64 0, .int .i64 0, .slice none 0 0] 30)).below f49_2
        have a53_3 := cell_k2 (Gr.alloc (Gr.refl m49) (Obj.cells #[.int .i64 0, .int .i64 0, .slice none 0 0] 30)).below f49_3
        have a53_4 := cell_k2 (Gr.alloc (Gr.refl m49) (Obj.cells #[.int .i64 0, .int .i64 0, .slice none 0 0] 30)).below f49_4
        have a53_5 := cell_k2 (Gr.alloc (Gr.refl m49) (Obj.cells #[.int .i64 0, .int .i64 0, .slice none 0 0] 30)).below f49_5
        have aD53 := (D49).trans (((Gr.alloc (Gr.refl m49) (Obj.cells #[.int .i64 0, .int .i64 0, .slice none 0 0] 30)).below).mono (D49).size)
        have aS53 := (D49).size
        have ab53_0 : (m49.alloc (Obj.cells #[.int .i64 0, .int .i64 0, .slice none 0 0] 30)).cell? ⟨m49.heap.size, 0, none⟩ = some (.int .i64 0) := by simp [go_sem]
        have ab53_1 : (m49.alloc (Obj.cells #[.int .i64 0, .int .i64 0, .slice none 0 0] 30)).cell? ⟨m49.heap.size, 1, none⟩ = some (.int .i64 0) := by simp [go_sem]
        have ab53_2 : (m49.alloc (Obj.cells #[.int .i64 0, .int .i64 0, .slice none 0 0] 30)).cell? ⟨m49.heap.size, 2, none⟩ = some (.slice none 0 0) := by simp [go_sem]
        have af53 : ∀ o, (m49.alloc (Obj.cells #[.int .i64 0, .int .i64 0, .slice none 0 0] 30)).frozen? ⟨m49.heap.size, o, none⟩ = false := fun o => by simp [go_sem]
        have aq53 := OwnE.below q49 (Gr.alloc (Gr.refl m49) (Obj.cells #[.int .i64 0, .int .i64 0, .slice none 0 0] 30)).below (Nat.le_refl _)
        (refine hK'.out _ _ (⟨a53_0, a53_1, a53_2, a53_3, a53_4, a53_5⟩) (fun hHeld => ?_); clear hK' K'; try simp only [Act.put, List.setIfInBounds_toArray, List.set_cons_zero, List.set_cons_succ])
        refine wpAnyH_ready (rs := [3]) (by kernel_rfl) (by simp) (AllReadyH.cons (by simp only [List.getElem?_toArray, List.getElem?_cons_succ, List.getElem?_cons_zero]; exact rfl) (fun K' hK' => ?_) AllReadyH.nil)
        go_simp
        have bp54 := (show m49.heap.size < _ from World.block_lt_of_cell? _ _ ab53_0)
        (go_at_call 16; refine (HI.out _ _ _ (aq53)).mono ?_; rintro e m54 ⟨v54, rfl, c54, d54⟩; obtain ⟨A54, u54, rfl, c54⟩ := OwnE.eta c54)
        have f54_0 := cell_k2 d54 a53_0
        have f54_1 := cell_k2 d54 a53_1
        have f54_2 := cell_k2 d54 a53_2
        have f54_3 := cell_k2 d54 a53_3
        have f54_4 := cell_k2 d54 a53_4
        have f54_5 := cell_k2 d54 a53_5
        have D54 := (aD53).trans ((d54).mono (aD53).size)
        have s54 := (aD53).size
        have S54 := D54.size
        have b54_0 := cell_k2 d54 ab53_0
        have b54_1 := cell_k2 d54 ab53_1
        have b54_2 := cell_k2 d54 ab53_2
        have bf54 : ∀ o, m54.frozen? ⟨m49.heap.size, o, none⟩ = false := fun o => (d54.frozen (p := ⟨m49.heap.size, o, none⟩) (show m49.heap.size < _ from World.block_lt_of_cell? _ _ ab53_0)).trans (af53 o)
        have bn54 : some (m49.heap.size) ≠ (Value.slice A54 xs.length u54).ownBlock := fun e => by have := (World.ownsRow.lt c54 _ e.symm).1; omega
        (refine hK'.out _ _ (⟨f54_0, f54_1, f54_2, f54_3, f54_4, f54_5⟩) (fun hHeld => ?_); clear hK' K'; try simp only [Act.put, List.setIfInBounds_toArray, List.set_cons_zero, List.set_cons_succ])
        (refine wpAnyH_take (i := 4) (v := ?_) (by simp only [List.getElem?_toArray, List.getElem?_cons_succ, List.getElem?_cons_zero]; exact rfl) (by kernel_rfl) (by kernel_rfl) (by kernel_rfl) (by intro _ _ _ h; exact h) (Or.inl ⟨by rfl, ?_⟩) (by assumption) ?_; rotate_left; (focus (intro w' hSw; (try dsimp only at hSw); go_simp; (try with_reducible rfl))); try simp only [Act.put, List.setIfInBounds_toArray, List.set_cons_zero, List.set_cons_succ])
        (refine wpAnyH_take (i := 5) (v := ?_) (by simp only [List.getElem?_toArray, List.getElem?_cons_succ, List.getElem?_cons_zero]; exact rfl) (by kernel_rfl) (by kernel_rfl) (by kernel_rfl) (by intro _ _ _ h; exact h) (Or.inl ⟨by rfl, ?_⟩) (by assumption) ?_; rotate_left; (focus (intro w' hSw; (try dsimp only at hSw); go_simp; (try with_reducible rfl))); try simp only [Act.put, List.setIfInBounds_toArray, List.set_cons_zero, List.set_cons_succ])
        (refine wpAnyH_take (i := 6) (v := ?_) (by simp only [List.getElem?_toArray, List.getElem?_cons_succ, List.getElem?_cons_zero]; exact rfl) (by kernel_rfl) (by kernel_rfl) (by kernel_rfl) (by intro _ _ _ h; exact h) (Or.inl ⟨by rfl, ?_⟩) (by assumption) ?_; rotate_left; (focus (intro w' hSw; (try dsimp only at hSw); go_simp; (try with_reducible rfl))); try simp only [Act.put, List.setIfInBounds_toArray, List.set_cons_zero, List.set_cons_succ])
        refine wpAnyH_ready (rs := [8]) (by kernel_rfl) (by simp) (AllReadyH.cons (by simp only [List.getElem?_toArray, List.getElem?_cons_succ, List.getElem?_cons_zero]; exact rfl) (fun K' hK' => ?_) AllReadyH.nil)
        go_simp
        (refine hK'.out _ _ (⟨cell_set3 f54_0 (show wv5.heap.size ≠ m49.heap.size by omega), cell_set3 f54_1 (show wv5.heap.size ≠ m49.heap.size by omega), cell_set3 f54_2 (show wv5.heap.size ≠ m49.heap.size by omega), cell_set3 f54_3 (show w.heap.size + 1 ≠ m49.heap.size by omega), cell_set3 f54_4 (show w.heap.size + 1 ≠ m49.heap.size by omega), cell_set3 f54_5 (show w.heap.size + 1 ≠ m49.heap.size by omega)⟩) (fun hHeld => ?_); clear hK' K'; try simp only [Act.put, List.setIfInBounds_toArray, List.set_cons_zero, List.set_cons_succ])
        refine wpAnyH_ready (rs := [9]) (by kernel_rfl) (by simp) (AllReadyH.cons (by simp only [List.getElem?_toArray, List.getElem?_cons_succ, List.getElem?_cons_zero]; exact rfl) (fun K' hK' => ?_) AllReadyH.nil)
        go_simp
        (refine hK'.out _ _ (⟨cell_set3 f54_0 (show wv5.heap.size ≠ m49.heap.size by omega), cell_set3 f54_1 (show wv5.heap.size ≠ m49.heap.size by omega), cell_set3 f54_2 (show wv5.heap.size ≠ m49.heap.size by omega), cell_set3 f54_3 (show w.heap.size + 1 ≠ m49.heap.size by omega), cell_set3 f54_4 (show w.heap.size + 1 ≠ m49.heap.size by omega), cell_set3 f54_5 (show w.heap.size + 1 ≠ m49.heap.size by omega)⟩) (fun hHeld => ?_); clear hK' K'; try simp only [Act.put, List.setIfInBounds_toArray, List.set_cons_zero, List.set_cons_succ])
        refine wpAnyH_done (by kernel_rfl) ?_ _
        show K2 _ _
        exact TAIL2 _ _ _ _ (Below.set3 (D54) (by omega)) (set3_0 b54_0) (set3_1 b54_1) (set3_2 b54_2) (OwnE.mono (OwnE.setOther (a := ⟨m49.heap.size, 2, none⟩) (OwnE.setOther (a := ⟨m49.heap.size, 1, none⟩) (OwnE.setOther (a := ⟨m49.heap.size, 0, none⟩) c54 (by show m49.heap.size < _; omega) _) (by show m49.heap.size < _; omega) _) (by show m49.heap.size < _; omega) _) (by omega)) (by omega) bn54
    · go_simp
      have a56_0 := cell_k2 (Gr.alloc (Gr.refl W8.drew) (Obj.cells #[.int .i64 0, .int .i64 0, .slice none 0 0] 30)).below (cell_k2 (Below.drew (Below.refl _ _)) h7_0)
      have a56_1 := cell_k2 (Gr.alloc (Gr.refl W8.drew) (Obj.cells #[.int .i64 0, .int .i64 0, .slice none 0 0] 30)).below (cell_k2 (Below.drew (Below.refl _ _)) h7_1)
      have a56_2 := cell_k2 (Gr.alloc (Gr.refl W8.drew) (Obj.cells #[.int .i64 0, .int .i64 0, .slice none 0 0] 30)).below (cell_k2 (Below.drew (Below.refl _ _)) h7_2)
      have a56_3 := cell_k2 (Gr.alloc (Gr.refl W8.drew) (Obj.cells #[.int .i64 0, .int .i64 0, .slice none 0 0] 30)).below (cell_k2 (Below.drew (Below.refl _ _)) f8_3)
      have a56_4 := cell_k2 (Gr.alloc (Gr.refl W8.drew) (Obj.cells #[.int .i64 0, .int .i64 0, .slice none 0 0] 30)).below (cell_k2 (Below.drew (Below.refl _ _)) f8_4)
      have a56_5 := cell_k2 (Gr.alloc (Gr.refl W8.drew) (Obj.cells #[.int .i64 0, .int .i64 0, .slice none 0 0] 30)).below (cell_k2 (Below.drew (Below.refl _ _)) f8_5)
      have aD56 := ((Below.drew (Below.refl W8.heap.size W8))).trans (((Gr.alloc (Gr.refl W8.drew) (Obj.cells #[.int .i64 0, .int .i64 0, .slice none 0 0] 30)).below).mono ((Below.drew (Below.refl W8.heap.size W8))).size)
      have aS56 := ((Below.drew (Below.refl W8.heap.size W8))).size
      have ab56_0 : (W8.drew.alloc (Obj.cells #[.int .i64 0, .int .i64 0, .slice none 0 0] 30)).cell? ⟨W8.heap.size, 0, none⟩ = some (.int .i64 0) := by simp [go_sem]
      have ab56_1 : (W8.drew.alloc (Obj.cells #[.int .i64 0, .int .i64 0, .slice none 0 0] 30)).cell? ⟨W8.heap.size, 1, none⟩ = some (.int .i64 0) := by simp [go_sem]
      have ab56_2 : (W8.drew.alloc (Obj.cells #[.int .i64 0, .int .i64 0, .slice none 0 0] 30)).cell? ⟨W8.heap.size, 2, none⟩ = some (.slice none 0 0) := by simp [go_sem]
      have af56 : ∀ o, (W8.drew.alloc (Obj.cells #[.int .i64 0, .int .i64 0, .slice none 0 0] 30)).frozen? ⟨W8.heap.size, o, none⟩ = false := fun o => by simp [go_sem]
      have aq56 := OwnE.below (OwnE.below o8_r2 (Below.drew (Below.refl _ _)) (Nat.le_refl _)) (Gr.alloc (Gr.refl W8.drew) (Obj.cells #[.int .i64 0, .int .i64 0, .slice none 0 0] 30)).below (Nat.le_refl _)
      (refine hK'.out _ _ (⟨a56_0, a56_1, a56_2, a56_3, a56_4, a56_5⟩) (fun hHeld => ?_); clear hK' K'; try simp only [Act.put, List.setIfInBounds_toArray, List.set_cons_zero, List.set_cons_succ])
      refine wpAnyH_ready (rs := [2]) (by kernel_rfl) (by simp) (AllReadyH.cons (by simp only [List.getElem?_toArray, List.getElem?_cons_succ, List.getElem?_cons_zero]; exact rfl) (fun K' hK' => ?_) AllReadyH.nil)
      go_simp
      (go_at_call 10; refine (Try.toBlock _ _ _ _).mono ?_; rintro e m57 ⟨rfl, g57⟩; have d57 := g57.below)
      have q57 := OwnE.below aq56 d57 (Nat.le_refl _)
      have f57_0 := cell_k2 d57 a56_0
      have f57_1 := cell_k2 d57 a56_1
      have f57_2 := cell_k2 d57 a56_2
      have f57_3 := cell_k2 d57 a56_3
      have f57_4 := cell_k2 d57 a56_4
      have f57_5 := cell_k2 d57 a56_5
      have D57 := (aD56).trans ((d57).mono (aD56).size)
      have s57 := (aD56).size
      have S57 := D57.size
      have b57_0 := cell_k2 d57 ab56_0
      have b57_1 := cell_k2 d57 ab56_1
      have b57_2 := cell_k2 d57 ab56_2
      have bf57 : ∀ o, m57.frozen? ⟨W8.heap.size, o, none⟩ = false := fun o => (d57.frozen (p := ⟨W8.heap.size, o, none⟩) (show W8.heap.size < _ from World.block_lt_of_cell? _ _ ab56_0)).trans (af56 o)
      (refine hK'.out _ _ (⟨f57_0, f57_1, f57_2, f57_3, f57_4, f57_5⟩) (fun hHeld => ?_); clear hK' K'; try simp only [Act.put, List.setIfInBounds_toArray, List.set_cons_zero, List.set_cons_succ])
      refine wpAnyH_ready (rs := [3]) (by kernel_rfl) (by simp) (AllReadyH.cons (by simp only [List.getElem?_toArray, List.getElem?_cons_succ, List.getElem?_cons_zero]; exact rfl) (fun K' hK' => ?_) AllReadyH.nil)
      go_simp
      have bp58 := (show W8.heap.size < _ from World.block_lt_of_cell? _ _ b57_0)
      (go_at_call 16; refine (HI.out _ _ _ (q57)).mono ?_; rintro e m58 ⟨v58, rfl, c58, d58⟩; obtain ⟨A58, u58, rfl, c58⟩ := OwnE.eta c58)
      have f58_0 := cell_k2 d58 f57_0
      have f58_1 := cell_k2 d58 f57_1
      have f58_2 := cell_k2 d58 f57_2
      have f58_3 := cell_k2 d58 f57_3
      have f58_4 := cell_k2 d58 f57_4
      have f58_5 := cell_k2 d58 f57_5
      have D58 := (D57).trans ((d58).mono (D57).size)
      have s58 := (D57).size
      have S58 := D58.size
      have b58_0 := cell_k2 d58 b57_0
      have b58_1 := cell_k2 d58 b57_1
      have b58_2 := cell_k2 d58 b57_2
      have bf58 : ∀ o, m58.frozen? ⟨W8.heap.size, o, none⟩ = false := fun o => (d58.frozen (p := ⟨W8.heap.size, o, none⟩) (show W8.heap.size < _ from World.block_lt_of_cell? _ _ b57_0)).trans (bf57 o)
      have bn58 : some (W8.heap.size) ≠ (Value.slice A58 xs.length u58).ownBlock := fun e => by have := (World.ownsRow.lt c58 _ e.symm).1; omega
      (refine hK'.out _ _ (⟨f58_0, f58_1, f58_2, f58_3, f58_4, f58_5⟩) (fun hHeld => ?_); clear hK' K'; try simp only [Act.put, List.setIfInBounds_toArray, List.set_cons_zero, List.set_cons_succ])
      (refine wpAnyH_take (i := 4) (v := ?_) (by simp only [List.getElem?_toArray, List.getElem?_cons_succ, List.getElem?_cons_zero]; exact rfl) (by kernel_rfl) (by kernel_rfl) (by kernel_rfl) (by intro _ _ _ h; exact h) (Or.inl ⟨by rfl, ?_⟩) (by assumption) ?_; rotate_left; (focus (intro w' hSw; (try dsimp only at hSw); go_simp; (try with_reducible rfl))); try simp only [Act.put, List.setIfInBounds_toArray, List.set_cons_zero, List.set_cons_succ])
      (refine wpAnyH_take (i := 5) (v := ?_) (by simp only [List.getElem?_toArray, List.getElem?_cons_succ, List.getElem?_cons_zero]; exact rfl) (by kernel_rfl) (by kernel_rfl) (by kernel_rfl) (by intro _ _ _ h; exact h) (Or.inl ⟨by rfl, ?_⟩) (by assumption) ?_; rotate_left; (focus (intro w' hSw; (try dsimp only at hSw); go_simp; (try with_reducible rfl))); try simp only [Act.put, List.setIfInBounds_toArray, List.set_cons_zero, List.set_cons_succ])
      (refine wpAnyH_take (i := 6) (v := ?_) (by simp only [List.getElem?_toArray, List.getElem?_cons_succ, List.getElem?_cons_zero]; exact rfl) (by kernel_rfl) (by kernel_rfl) (by kernel_rfl) (by intro _ _ _ h; exact h) (Or.inl ⟨by rfl, ?_⟩) (by assumption) ?_; rotate_left; (focus (intro w' hSw; (try dsimp only at hSw); go_simp; (try with_reducible rfl))); try simp only [Act.put, List.setIfInBounds_toArray, List.set_cons_zero, List.set_cons_succ])
      refine wpAnyH_ready (rs := [8]) (by kernel_rfl) (by simp) (AllReadyH.cons (by simp only [List.getElem?_toArray, List.getElem?_cons_succ, List.getElem?_cons_zero]; exact rfl) (fun K' hK' => ?_) AllReadyH.nil)
      go_simp
      (refine hK'.out _ _ (⟨cell_set3 f58_0 (show wv5.heap.size ≠ W8.heap.size by omega), cell_set3 f58_1 (show wv5.heap.size ≠ W8.heap.size by omega), cell_set3 f58_2 (show wv5.heap.size ≠ W8.heap.size by omega), cell_set3 f58_3 (show w.heap.size + 1 ≠ W8.heap.size by omega), cell_set3 f58_4 (show w.heap.size + 1 ≠ W8.heap.size by omega), cell_set3 f58_5 (show w.heap.size + 1 ≠ W8.heap.size by omega)⟩) (fun hHeld => ?_); clear hK' K'; try simp only [Act.put, List.setIfInBounds_toArray, List.set_cons_zero, List.set_cons_succ])
      refine wpAnyH_ready (rs := [9]) (by kernel_rfl) (by simp) (AllReadyH.cons (by simp only [List.getElem?_toArray, List.getElem?_cons_succ, List.getElem?_cons_zero]; exact rfl) (fun K' hK' => ?_) AllReadyH.nil)
      go_simp
      (refine hK'.out _ _ (⟨cell_set3 f58_0 (show wv5.heap.size ≠ W8.heap.size by omega), cell_set3 f58_1 (show wv5.heap.size ≠ W8.heap.size by omega), cell_set3 f58_2 (show wv5.heap.size ≠ W8.heap.size by omega), cell_set3 f58_3 (show w.heap.size + 1 ≠ W8.heap.size by omega), cell_set3 f58_4 (show w.heap.size + 1 ≠ W8.heap.size by omega), cell_set3 f58_5 (show w.heap.size + 1 ≠ W8.heap.size by omega)⟩) (fun hHeld => ?_); clear hK' K'; try simp only [Act.put, List.setIfInBounds_toArray, List.set_cons_zero, List.set_cons_succ])
      refine wpAnyH_done (by kernel_rfl) ?_ _
      show K2 _ _
      exact TAIL2 _ _ _ _ (Below.set3 (D58) (by omega)) (set3_0 b58_0) (set3_1 b58_1) (set3_2 b58_2) (OwnE.mono (OwnE.setOther (a := ⟨W8.heap.size, 2, none⟩) (OwnE.setOther (a := ⟨W8.heap.size, 1, none⟩) (OwnE.setOther (a := ⟨W8.heap.size, 0, none⟩) c58 (by show W8.heap.size < _; omega) _) (by show W8.heap.size < _; omega) _) (by show W8.heap.size < _; omega) _) (by omega)) (by omega) bn58
  refine wp_region_held_drew (S := fun W' => W'.cell? ⟨w.heap.size, 0, none⟩ = some (.int .i64 a0x) ∧ W'.cell? ⟨w.heap.size, 1, none⟩ = some (.int .i64 a0y) ∧ W'.cell? ⟨w.heap.size, 2, none⟩ = some (.slice a0 len0 cap0) ∧ W'.cell? ⟨w.heap.size + 1, 0, none⟩ = some (.int .i64 a1x) ∧ W'.cell? ⟨w.heap.size + 1, 1, none⟩ = some (.int .i64 a1y) ∧ W'.cell? ⟨w.heap.size + 1, 2, none⟩ = some (.bool a1u)) (by kernel_rfl) (⟨cell_k2 (Below.drew (Below.refl _ _)) e0, cell_k2 (Below.drew (Below.refl _ _)) e1, cell_k2 (Below.drew (Below.refl _ _)) e2, cell_k2 (Below.drew (Below.refl _ _)) e3, cell_k2 (Below.drew (Below.refl _ _)) e4, cell_k2 (Below.drew (Below.refl _ _)) e5⟩) (fun hHeld => ?_)
  (refine wpAnyH_take (i := 0) (v := ?_) (by simp only [List.getElem?_toArray, List.getElem?_cons_succ, List.getElem?_cons_zero]; exact rfl) (by kernel_rfl) (by kernel_rfl) (by kernel_rfl) (by intro _ _ _ h; exact h) (Or.inl ⟨by rfl, ?_⟩) (by assumption) ?_; rotate_left; (focus (intro w' hSw; (try dsimp only at hSw); go_simp; (try with_reducible rfl))); try simp only [Act.put, List.setIfInBounds_toArray, List.set_cons_zero, List.set_cons_succ])
  (refine wpAnyH_take (i := 2) (v := ?_) (by simp only [List.getElem?_toArray, List.getElem?_cons_succ, List.getElem?_cons_zero]; exact rfl) (by kernel_rfl) (by kernel_rfl) (by kernel_rfl) (by intro _ _ _ h; exact h) (Or.inl ⟨by rfl, ?_⟩) (by assumption) ?_; rotate_left; (focus (intro w' hSw; (try dsimp only at hSw); go_simp; (try with_reducible rfl))); try simp only [Act.put, List.setIfInBounds_toArray, List.set_cons_zero, List.set_cons_succ])
  refine wpAnyH_ready (rs := [1, 8]) (by kernel_rfl) (by simp) (AllReadyH.cons (by simp only [List.getElem?_toArray, List.getElem?_cons_succ, List.getElem?_cons_zero]; exact rfl) (fun K' hK' => ?_) (AllReadyH.cons (by simp only [List.getElem?_toArray, List.getElem?_cons_succ, List.getElem?_cons_zero]; exact rfl) (fun K' hK' => ?_) AllReadyH.nil))
  · go_simp
    (go_at_call 9; refine (Try.toCity _ _ _ _ _ _ _ HL0.out (ArgE.below WA0.out ((B1).trans (((Below.drew (Below.refl w1.heap.size w1))).mono (B1).size)))).mono ?_; rintro e m60 ⟨v60, rfl, c60, d60⟩; obtain ⟨A60, u60, rfl, c60⟩ := OwnE.eta c60)
    have f60_0 := cell_k2 d60 (cell_k2 (Below.drew (Below.refl _ _)) e0)
    have f60_1 := cell_k2 d60 (cell_k2 (Below.drew (Below.refl _ _)) e1)
    have f60_2 := cell_k2 d60 (cell_k2 (Below.drew (Below.refl _ _)) e2)
    have f60_3 := cell_k2 d60 (cell_k2 (Below.drew (Below.refl _ _)) e3)
    have f60_4 := cell_k2 d60 (cell_k2 (Below.drew (Below.refl _ _)) e4)
    have f60_5 := cell_k2 d60 (cell_k2 (Below.drew (Below.refl _ _)) e5)
    have D60 := ((Below.drew (Below.refl w1.heap.size w1))).trans ((d60).mono ((Below.drew (Below.refl w1.heap.size w1))).size)
    have s60 := ((Below.drew (Below.refl w1.heap.size w1))).size
    have S60 := D60.size
    (refine hK'.out _ _ (⟨f60_0, f60_1, f60_2, f60_3, f60_4, f60_5⟩) (fun hHeld => ?_); clear hK' K'; try simp only [Act.put, List.setIfInBounds_toArray, List.set_cons_zero, List.set_cons_succ])
    refine wpAnyH_ready (rs := [3, 8]) (by kernel_rfl) (by simp) (AllReadyH.cons (by simp only [List.getElem?_toArray, List.getElem?_cons_succ, List.getElem?_cons_zero]; exact rfl) (fun K' hK' => ?_) (AllReadyH.cons (by simp only [List.getElem?_toArray, List.getElem?_cons_succ, List.getElem?_cons_zero]; exact rfl) (fun K' hK' => ?_) AllReadyH.nil))
    · go_simp
      (go_at_call 10; refine (Try.toBlock _ _ _ _).mono ?_; rintro e m61 ⟨rfl, g61⟩; have d61 := g61.below)
      have q61 := OwnE.below c60 d61 (Nat.le_refl _)
      have f61_0 := cell_k2 d61 f60_0
      have f61_1 := cell_k2 d61 f60_1
      have f61_2 := cell_k2 d61 f60_2
      have f61_3 := cell_k2 d61 f60_3
      have f61_4 := cell_k2 d61 f60_4
      have f61_5 := cell_k2 d61 f60_5
      have D61 := (D60).trans ((d61).mono (D60).size)
      have s61 := (D60).size
      have S61 := D61.size
      (refine hK'.out _ _ (⟨f61_0, f61_1, f61_2, f61_3, f61_4, f61_5⟩) (fun hHeld => ?_); clear hK' K'; try simp only [Act.put, List.setIfInBounds_toArray, List.set_cons_zero, List.set_cons_succ])
      refine wpAnyH_ready (rs := [4, 8]) (by kernel_rfl) (by simp) (AllReadyH.cons (by simp only [List.getElem?_toArray, List.getElem?_cons_succ, List.getElem?_cons_zero]; exact rfl) (fun K' hK' => ?_) (AllReadyH.cons (by simp only [List.getElem?_toArray, List.getElem?_cons_succ, List.getElem?_cons_zero]; exact rfl) (fun K' hK' => ?_) AllReadyH.nil))
      · go_simp
        (go_at_call 15; refine (HS.out _ _ _ (q61)).mono ?_; rintro e m62 ⟨v62, rfl, c62, d62⟩; obtain ⟨A62, u62, rfl, c62⟩ := OwnE.eta c62)
        have f62_0 := cell_k2 d62 f61_0
        have f62_1 := cell_k2 d62 f61_1
        have f62_2 := cell_k2 d62 f61_2
        have f62_3 := cell_k2 d62 f61_3
        have f62_4 := cell_k2 d62 f61_4
        have f62_5 := cell_k2 d62 f61_5
        have D62 := (D61).trans ((d62).mono (D61).size)
        have s62 := (D61).size
        have S62 := D62.size
        (refine hK'.out _ _ (⟨f62_0, f62_1, f62_2, f62_3, f62_4, f62_5⟩) (fun hHeld => ?_); clear hK' K'; try simp only [Act.put, List.setIfInBounds_toArray, List.set_cons_zero, List.set_cons_succ])
        (refine wpAnyH_take (i := 5) (v := ?_) (by simp only [List.getElem?_toArray, List.getElem?_cons_succ, List.getElem?_cons_zero]; exact rfl) (by kernel_rfl) (by kernel_rfl) (by kernel_rfl) (by intro _ _ _ h; exact h) (Or.inl ⟨by rfl, ?_⟩) (by assumption) ?_; rotate_left; (focus (intro w' hSw; (try dsimp only at hSw); go_simp; (try with_reducible rfl))); try simp only [Act.put, List.setIfInBounds_toArray, List.set_cons_zero, List.set_cons_succ])
        (refine wpAnyH_take (i := 6) (v := ?_) (by simp only [List.getElem?_toArray, List.getElem?_cons_succ, List.getElem?_cons_zero]; exact rfl) (by kernel_rfl) (by kernel_rfl) (by kernel_rfl) (by intro _ _ _ h; exact h) (Or.inl ⟨by rfl, ?_⟩) (by assumption) ?_; rotate_left; (focus (intro w' hSw; (try dsimp only at hSw); go_simp; (try with_reducible rfl))); try simp only [Act.put, List.setIfInBounds_toArray, List.set_cons_zero, List.set_cons_succ])
        (refine wpAnyH_take (i := 7) (v := ?_) (by simp only [List.getElem?_toArray, List.getElem?_cons_succ, List.getElem?_cons_zero]; exact rfl) (by kernel_rfl) (by kernel_rfl) (by kernel_rfl) (by intro _ _ _ h; exact h) (Or.inl ⟨by rfl, ?_⟩) (by assumption) ?_; rotate_left; (focus (intro w' hSw; (try dsimp only at hSw); go_simp; (try with_reducible rfl))); try simp only [Act.put, List.setIfInBounds_toArray, List.set_cons_zero, List.set_cons_succ])
        refine wpAnyH_ready (rs := [8]) (by kernel_rfl) (by simp) (AllReadyH.cons (by simp only [List.getElem?_toArray, List.getElem?_cons_succ, List.getElem?_cons_zero]; exact rfl) (fun K' hK' => ?_) AllReadyH.nil)
        go_simp
        have a63_0 := cell_k2 (Gr.alloc (Gr.refl m62) (Obj.cells #[.int .i64 0, .int .i64 0, .slice none 0 0] 30)).below f62_0
        have a63_1 := cell_k2 (Gr.alloc (Gr.refl m62) (Obj.cells #[.int .i64 0, .int .i64 0, .slice none 0 0] 30)).below f62_1
        have a63_2 := cell_k2 (Gr.alloc (Gr.refl m62) (Obj.cells #[.int .i64 0, .int .i64 0, .slice none 0 0] 30)).below f62_2
        have a63_3 := cell_k2 (Gr.alloc (Gr.refl m62) (Obj.cells #[.int .i64 0, .int .i64 0, .slice none 0 0] 30)).below f62_3
        have a63_4 := cell_k2 (Gr.alloc (Gr.refl m62) (Obj.cells #[.int .i64 0, .int .i64 0, .slice none 0 0] 30)).below f62_4
        have a63_5 := cell_k2 (Gr.alloc (Gr.refl m62) (Obj.cells #[.int .i64 0, .int .i64 0, .slice none 0 0] 30)).below f62_5
        have aD63 := (D62).trans (((Gr.alloc (Gr.refl m62) (Obj.cells #[.int .i64 0, .int .i64 0, .slice none 0 0] 30)).below).mono (D62).size)
        have aS63 := (D62).size
        (refine hK'.out _ _ (⟨a63_0, a63_1, a63_2, a63_3, a63_4, a63_5⟩) (fun hHeld => ?_); clear hK' K'; try simp only [Act.put, List.setIfInBounds_toArray, List.set_cons_zero, List.set_cons_succ])
        refine wpAnyH_ready (rs := [9]) (by kernel_rfl) (by simp) (AllReadyH.cons (by simp only [List.getElem?_toArray, List.getElem?_cons_succ, List.getElem?_cons_zero]; exact rfl) (fun K' hK' => ?_) AllReadyH.nil)
        go_simp
        (refine hK'.out _ _ (⟨cell_k2 (Gr.alloc (Gr.refl _) _).below f62_0, cell_k2 (Gr.alloc (Gr.refl _) _).below f62_1, cell_k2 (Gr.alloc (Gr.refl _) _).below f62_2, cell_k2 (Gr.alloc (Gr.refl _) _).below f62_3, cell_k2 (Gr.alloc (Gr.refl _) _).below f62_4, cell_k2 (Gr.alloc (Gr.refl _) _).below f62_5⟩) (fun hHeld => ?_); clear hK' K'; try simp only [Act.put, List.setIfInBounds_toArray, List.set_cons_zero, List.set_cons_succ])
        refine wpAnyH_ready (rs := [10]) (by kernel_rfl) (by simp) (AllReadyH.cons (by simp only [List.getElem?_toArray, List.getElem?_cons_succ, List.getElem?_cons_zero]; exact rfl) (fun K' hK' => ?_) AllReadyH.nil)
        go_simp
        (refine hK'.out _ _ (⟨cell_k2 (Gr.alloc (Gr.refl _) _).below f62_0, cell_k2 (Gr.alloc (Gr.refl _) _).below f62_1, cell_k2 (Gr.alloc (Gr.refl _) _).below f62_2, cell_k2 (Gr.alloc (Gr.refl _) _).below f62_3, cell_k2 (Gr.alloc (Gr.refl _) _).below f62_4, cell_k2 (Gr.alloc (Gr.refl _) _).below f62_5⟩) (fun hHeld => ?_); clear hK' K'; try simp only [Act.put, List.setIfInBounds_toArray, List.set_cons_zero, List.set_cons_succ])
        refine wpAnyH_done (by kernel_rfl) ?_ _
        show K1 _ _
        exact TAIL1 _ _ _ _ _ ((D62).trans (((Gr.alloc (Gr.refl m62) _).below).mono (D62).size)) (by simp [go_sem]) (by simp [go_sem]) (by simp [go_sem]) (OwnE.mono (OwnE.gr c62 (Gr.alloc (Gr.refl _) _)) (by omega)) (by omega) (fun e => by have := (World.ownsRow.lt c62 _ e.symm).2; omega)
      · go_simp
        have a65_0 := cell_k2 (Gr.alloc (Gr.refl m61) (Obj.cells #[.int .i64 0, .int .i64 0, .slice none 0 0] 30)).below f61_0
        have a65_1 := cell_k2 (Gr.alloc (Gr.refl m61) (Obj.cells #[.int .i64 0, .int .i64 0, .slice none 0 0] 30)).below f61_1
        have a65_2 := cell_k2 (Gr.alloc (Gr.refl m61) (Obj.cells #[.int .i64 0, .int .i64 0, .slice none 0 0] 30)).below f61_2
        have a65_3 := cell_k2 (Gr.alloc (Gr.refl m61) (Obj.cells #[.int .i64 0, .int .i64 0, .slice none 0 0] 30)).below f61_3
        have a65_4 := cell_k2 (Gr.alloc (Gr.refl m61) (Obj.cells #[.int .i64 0, .int .i64 0, .slice none 0 0] 30)).below f61_4
        have a65_5 := cell_k2 (Gr.alloc (Gr.refl m61) (Obj.cells #[.int .i64 0, .int .i64 0, .slice none 0 0] 30)).below f61_5
        have aD65 := (D61).trans (((Gr.alloc (Gr.refl m61) (Obj.cells #[.int .i64 0, .int .i64 0, .slice none 0 0] 30)).below).mono (D61).size)
        have aS65 := (D61).size
        have ab65_0 : (m61.alloc (Obj.cells #[.int .i64 0, .int .i64 0, .slice none 0 0] 30)).cell? ⟨m61.heap.size, 0, none⟩ = some (.int .i64 0) := by simp [go_sem]
        have ab65_1 : (m61.alloc (Obj.cells #[.int .i64 0, .int .i64 0, .slice none 0 0] 30)).cell? ⟨m61.heap.size, 1, none⟩ = some (.int .i64 0) := by simp [go_sem]
        have ab65_2 : (m61.alloc (Obj.cells #[.int .i64 0, .int .i64 0, .slice none 0 0] 30)).cell? ⟨m61.heap.size, 2, none⟩ = some (.slice none 0 0) := by simp [go_sem]
        have af65 : ∀ o, (m61.alloc (Obj.cells #[.int .i64 0, .int .i64 0, .slice none 0 0] 30)).frozen? ⟨m61.heap.size, o, none⟩ = false := fun o => by simp [go_sem]
        have aq65 := OwnE.below q61 (Gr.alloc (Gr.refl m61) (Obj.cells #[.int .i64 0, .int .i64 0, .slice none 0 0] 30)).below (Nat.le_refl _)
        (refine hK'.out _ _ (⟨a65_0, a65_1, a65_2, a65_3, a65_4, a65_5⟩) (fun hHeld => ?_); clear hK' K'; try simp only [Act.put, List.setIfInBounds_toArray, List.set_cons_zero, List.set_cons_succ])
        refine wpAnyH_ready (rs := [4]) (by kernel_rfl) (by simp) (AllReadyH.cons (by simp only [List.getElem?_toArray, List.getElem?_cons_succ, List.getElem?_cons_zero]; exact rfl) (fun K' hK' => ?_) AllReadyH.nil)
        go_simp
        have bp66 := (show m61.heap.size < _ from World.block_lt_of_cell? _ _ ab65_0)
        (go_at_call 15; refine (HS.out _ _ _ (aq65)).mono ?_; rintro e m66 ⟨v66, rfl, c66, d66⟩; obtain ⟨A66, u66, rfl, c66⟩ := OwnE.eta c66)
        have f66_0 := cell_k2 d66 a65_0
        have f66_1 := cell_k2 d66 a65_1
        have f66_2 := cell_k2 d66 a65_2
        have f66_3 := cell_k2 d66 a65_3
        have f66_4 := cell_k2 d66 a65_4
        have f66_5 := cell_k2 d66 a65_5
        have D66 := (aD65).trans ((d66).mono (aD65).size)
        have s66 := (aD65).size
        have S66 := D66.size
        have b66_0 := cell_k2 d66 ab65_0
        have b66_1 := cell_k2 d66 ab65_1
        have b66_2 := cell_k2 d66 ab65_2
        have bf66 : ∀ o, m66.frozen? ⟨m61.heap.size, o, none⟩ = false := fun o => (d66.frozen (p := ⟨m61.heap.size, o, none⟩) (show m61.heap.size < _ from World.block_lt_of_cell? _ _ ab65_0)).trans (af65 o)
        have bn66 : some (m61.heap.size) ≠ (Value.slice A66 xs.length u66).ownBlock := fun e => by have := (World.ownsRow.lt c66 _ e.symm).1; omega
        (refine hK'.out _ _ (⟨f66_0, f66_1, f66_2, f66_3, f66_4, f66_5⟩) (fun hHeld => ?_); clear hK' K'; try simp only [Act.put, List.setIfInBounds_toArray, List.set_cons_zero, List.set_cons_succ])
        (refine wpAnyH_take (i := 5) (v := ?_) (by simp only [List.getElem?_toArray, List.getElem?_cons_succ, List.getElem?_cons_zero]; exact rfl) (by kernel_rfl) (by kernel_rfl) (by kernel_rfl) (by intro _ _ _ h; exact h) (Or.inl ⟨by rfl, ?_⟩) (by assumption) ?_; rotate_left; (focus (intro w' hSw; (try dsimp only at hSw); go_simp; (try with_reducible rfl))); try simp only [Act.put, List.setIfInBounds_toArray, List.set_cons_zero, List.set_cons_succ])
        (refine wpAnyH_take (i := 6) (v := ?_) (by simp only [List.getElem?_toArray, List.getElem?_cons_succ, List.getElem?_cons_zero]; exact rfl) (by kernel_rfl) (by kernel_rfl) (by kernel_rfl) (by intro _ _ _ h; exact h) (Or.inl ⟨by rfl, ?_⟩) (by assumption) ?_; rotate_left; (focus (intro w' hSw; (try dsimp only at hSw); go_simp; (try with_reducible rfl))); try simp only [Act.put, List.setIfInBounds_toArray, List.set_cons_zero, List.set_cons_succ])
        (refine wpAnyH_take (i := 7) (v := ?_) (by simp only [List.getElem?_toArray, List.getElem?_cons_succ, List.getElem?_cons_zero]; exact rfl) (by kernel_rfl) (by kernel_rfl) (by kernel_rfl) (by intro _ _ _ h; exact h) (Or.inl ⟨by rfl, ?_⟩) (by assumption) ?_; rotate_left; (focus (intro w' hSw; (try dsimp only at hSw); go_simp; (try with_reducible rfl))); try simp only [Act.put, List.setIfInBounds_toArray, List.set_cons_zero, List.set_cons_succ])
        refine wpAnyH_ready (rs := [9]) (by kernel_rfl) (by simp) (AllReadyH.cons (by simp only [List.getElem?_toArray, List.getElem?_cons_succ, List.getElem?_cons_zero]; exact rfl) (fun K' hK' => ?_) AllReadyH.nil)
        go_simp
        (refine hK'.out _ _ (⟨cell_set3 f66_0 (show w.heap.size ≠ m61.heap.size by omega), cell_set3 f66_1 (show w.heap.size ≠ m61.heap.size by omega), cell_set3 f66_2 (show w.heap.size ≠ m61.heap.size by omega), cell_set3 f66_3 (show w.heap.size + 1 ≠ m61.heap.size by omega), cell_set3 f66_4 (show w.heap.size + 1 ≠ m61.heap.size by omega), cell_set3 f66_5 (show w.heap.size + 1 ≠ m61.heap.size by omega)⟩) (fun hHeld => ?_); clear hK' K'; try simp only [Act.put, List.setIfInBounds_toArray, List.set_cons_zero, List.set_cons_succ])
        refine wpAnyH_ready (rs := [10]) (by kernel_rfl) (by simp) (AllReadyH.cons (by simp only [List.getElem?_toArray, List.getElem?_cons_succ, List.getElem?_cons_zero]; exact rfl) (fun K' hK' => ?_) AllReadyH.nil)
        go_simp
        (refine hK'.out _ _ (⟨cell_set3 f66_0 (show w.heap.size ≠ m61.heap.size by omega), cell_set3 f66_1 (show w.heap.size ≠ m61.heap.size by omega), cell_set3 f66_2 (show w.heap.size ≠ m61.heap.size by omega), cell_set3 f66_3 (show w.heap.size + 1 ≠ m61.heap.size by omega), cell_set3 f66_4 (show w.heap.size + 1 ≠ m61.heap.size by omega), cell_set3 f66_5 (show w.heap.size + 1 ≠ m61.heap.size by omega)⟩) (fun hHeld => ?_); clear hK' K'; try simp only [Act.put, List.setIfInBounds_toArray, List.set_cons_zero, List.set_cons_succ])
        refine wpAnyH_done (by kernel_rfl) ?_ _
        show K1 _ _
        exact TAIL1 _ _ _ _ _ (Below.set3 (D66) (by omega)) (set3_0 b66_0) (set3_1 b66_1) (set3_2 b66_2) (OwnE.mono (OwnE.setOther (a := ⟨m61.heap.size, 2, none⟩) (OwnE.setOther (a := ⟨m61.heap.size, 1, none⟩) (OwnE.setOther (a := ⟨m61.heap.size, 0, none⟩) c66 (by show m61.heap.size < _; omega) _) (by show m61.heap.size < _; omega) _) (by show m61.heap.size < _; omega) _) (by omega)) (by omega) bn66
    · go_simp
      have a68_0 := cell_k2 (Gr.alloc (Gr.refl m60) (Obj.cells #[.int .i64 0, .int .i64 0, .slice none 0 0] 30)).below f60_0
      have a68_1 := cell_k2 (Gr.alloc (Gr.refl m60) (Obj.cells #[.int .i64 0, .int .i64 0, .slice none 0 0] 30)).below f60_1
      have a68_2 := cell_k2 (Gr.alloc (Gr.refl m60) (Obj.cells #[.int .i64 0, .int .i64 0, .slice none 0 0] 30)).below f60_2
      have a68_3 := cell_k2 (Gr.alloc (Gr.refl m60) (Obj.cells #[.int .i64 0, .int .i64 0, .slice none 0 0] 30)).below f60_3
      have a68_4 := cell_k2 (Gr.alloc (Gr.refl m60) (Obj.cells #[.int .i64 0, .int .i64 0, .slice none 0 0] 30)).below f60_4
      have a68_5 := cell_k2 (Gr.alloc (Gr.refl m60) (Obj.cells #[.int .i64 0, .int .i64 0, .slice none 0 0] 30)).below f60_5
      have aD68 := (D60).trans (((Gr.alloc (Gr.refl m60) (Obj.cells #[.int .i64 0, .int .i64 0, .slice none 0 0] 30)).below).mono (D60).size)
      have aS68 := (D60).size
      have ab68_0 : (m60.alloc (Obj.cells #[.int .i64 0, .int .i64 0, .slice none 0 0] 30)).cell? ⟨m60.heap.size, 0, none⟩ = some (.int .i64 0) := by simp [go_sem]
      have ab68_1 : (m60.alloc (Obj.cells #[.int .i64 0, .int .i64 0, .slice none 0 0] 30)).cell? ⟨m60.heap.size, 1, none⟩ = some (.int .i64 0) := by simp [go_sem]
      have ab68_2 : (m60.alloc (Obj.cells #[.int .i64 0, .int .i64 0, .slice none 0 0] 30)).cell? ⟨m60.heap.size, 2, none⟩ = some (.slice none 0 0) := by simp [go_sem]
      have af68 : ∀ o, (m60.alloc (Obj.cells #[.int .i64 0, .int .i64 0, .slice none 0 0] 30)).frozen? ⟨m60.heap.size, o, none⟩ = false := fun o => by simp [go_sem]
      have aq68 := OwnE.below c60 (Gr.alloc (Gr.refl m60) (Obj.cells #[.int .i64 0, .int .i64 0, .slice none 0 0] 30)).below (Nat.le_refl _)
      (refine hK'.out _ _ (⟨a68_0, a68_1, a68_2, a68_3, a68_4, a68_5⟩) (fun hHeld => ?_); clear hK' K'; try simp only [Act.put, List.setIfInBounds_toArray, List.set_cons_zero, List.set_cons_succ])
      refine wpAnyH_ready (rs := [3]) (by kernel_rfl) (by simp) (AllReadyH.cons (by simp only [List.getElem?_toArray, List.getElem?_cons_succ, List.getElem?_cons_zero]; exact rfl) (fun K' hK' => ?_) AllReadyH.nil)
      go_simp
      (go_at_call 10; refine (Try.toBlock _ _ _ _).mono ?_; rintro e m69 ⟨rfl, g69⟩; have d69 := g69.below)
      have q69 := OwnE.below aq68 d69 (Nat.le_refl _)
      have f69_0 := cell_k2 d69 a68_0
      have f69_1 := cell_k2 d69 a68_1
      have f69_2 := cell_k2 d69 a68_2
      have f69_3 := cell_k2 d69 a68_3
      have f69_4 := cell_k2 d69 a68_4
      have f69_5 := cell_k2 d69 a68_5
      have D69 := (aD68).trans ((d69).mono (aD68).size)
      have s69 := (aD68).size
      have S69 := D69.size
      have b69_0 := cell_k2 d69 ab68_0
      have b69_1 := cell_k2 d69 ab68_1
      have b69_2 := cell_k2 d69 ab68_2
      have bf69 : ∀ o, m69.frozen? ⟨m60.heap.size, o, none⟩ = false := fun o => (d69.frozen (p := ⟨m60.heap.size, o, none⟩) (show m60.heap.size < _ from World.block_lt_of_cell? _ _ ab68_0)).trans (af68 o)
      (refine hK'.out _ _ (⟨f69_0, f69_1, f69_2, f69_3, f69_4, f69_5⟩) (fun hHeld => ?_); clear hK' K'; try simp only [Act.put, List.setIfInBounds_toArray, List.set_cons_zero, List.set_cons_succ])
      refine wpAnyH_ready (rs := [4]) (by kernel_rfl) (by simp) (AllReadyH.cons (by simp only [List.getElem?_toArray, List.getElem?_cons_succ, List.getElem?_cons_zero]; exact rfl) (fun K' hK' => ?_) AllReadyH.nil)
      go_simp
      have bp70 := (show m60.heap.size < _ from World.block_lt_of_cell? _ _ b69_0)
      (go_at_call 15; refine (HS.out _ _ _ (q69)).mono ?_; rintro e m70 ⟨v70, rfl, c70, d70⟩; obtain ⟨A70, u70, rfl, c70⟩ := OwnE.eta c70)
      have f70_0 := cell_k2 d70 f69_0
      have f70_1 := cell_k2 d70 f69_1
      have f70_2 := cell_k2 d70 f69_2
      have f70_3 := cell_k2 d70 f69_3
      have f70_4 := cell_k2 d70 f69_4
      have f70_5 := cell_k2 d70 f69_5
      have D70 := (D69).trans ((d70).mono (D69).size)
      have s70 := (D69).size
      have S70 := D70.size
      have b70_0 := cell_k2 d70 b69_0
      have b70_1 := cell_k2 d70 b69_1
      have b70_2 := cell_k2 d70 b69_2
      have bf70 : ∀ o, m70.frozen? ⟨m60.heap.size, o, none⟩ = false := fun o => (d70.frozen (p := ⟨m60.heap.size, o, none⟩) (show m60.heap.size < _ from World.block_lt_of_cell? _ _ b69_0)).trans (bf69 o)
      have bn70 : some (m60.heap.size) ≠ (Value.slice A70 xs.length u70).ownBlock := fun e => by have := (World.ownsRow.lt c70 _ e.symm).1; omega
      (refine hK'.out _ _ (⟨f70_0, f70_1, f70_2, f70_3, f70_4, f70_5⟩) (fun hHeld => ?_); clear hK' K'; try simp only [Act.put, List.setIfInBounds_toArray, List.set_cons_zero, List.set_cons_succ])
      (refine wpAnyH_take (i := 5) (v := ?_) (by simp only [List.getElem?_toArray, List.getElem?_cons_succ, List.getElem?_cons_zero]; exact rfl) (by kernel_rfl) (by kernel_rfl) (by kernel_rfl) (by intro _ _ _ h; exact h) (Or.inl ⟨by rfl, ?_⟩) (by assumption) ?_; rotate_left; (focus (intro w' hSw; (try dsimp only at hSw); go_simp; (try with_reducible rfl))); try simp only [Act.put, List.setIfInBounds_toArray, List.set_cons_zero, List.set_cons_succ])
      (refine wpAnyH_take (i := 6) (v := ?_) (by simp only [List.getElem?_toArray, List.getElem?_cons_succ, List.getElem?_cons_zero]; exact rfl) (by kernel_rfl) (by kernel_rfl) (by kernel_rfl) (by intro _ _ _ h; exact h) (Or.inl ⟨by rfl, ?_⟩) (by assumption) ?_; rotate_left; (focus (intro w' hSw; (try dsimp only at hSw); go_simp; (try with_reducible rfl))); try simp only [Act.put, List.setIfInBounds_toArray, List.set_cons_zero, List.set_cons_succ])
      (refine wpAnyH_take (i := 7) (v := ?_) (by simp only [List.getElem?_toArray, List.getElem?_cons_succ, List.getElem?_cons_zero]; exact rfl) (by kernel_rfl) (by kernel_rfl) (by kernel_rfl) (by intro _ _ _ h; exact h) (Or.inl ⟨by rfl, ?_⟩) (by assumption) ?_; rotate_left; (focus (intro w' hSw; (try dsimp only at hSw); go_simp; (try with_reducible rfl))); try simp only [Act.put, List.setIfInBounds_toArray, List.set_cons_zero, List.set_cons_succ])
      refine wpAnyH_ready (rs := [9]) (by kernel_rfl) (by simp) (AllReadyH.cons (by simp only [List.getElem?_toArray, List.getElem?_cons_succ, List.getElem?_cons_zero]; exact rfl) (fun K' hK' => ?_) AllReadyH.nil)
      go_simp
      (refine hK'.out _ _ (⟨cell_set3 f70_0 (show w.heap.size ≠ m60.heap.size by omega), cell_set3 f70_1 (show w.heap.size ≠ m60.heap.size by omega), cell_set3 f70_2 (show w.heap.size ≠ m60.heap.size by omega), cell_set3 f70_3 (show w.heap.size + 1 ≠ m60.heap.size by omega), cell_set3 f70_4 (show w.heap.size + 1 ≠ m60.heap.size by omega), cell_set3 f70_5 (show w.heap.size + 1 ≠ m60.heap.size by omega)⟩) (fun hHeld => ?_); clear hK' K'; try simp only [Act.put, List.setIfInBounds_toArray, List.set_cons_zero, List.set_cons_succ])
      refine wpAnyH_ready (rs := [10]) (by kernel_rfl) (by simp) (AllReadyH.cons (by simp only [List.getElem?_toArray, List.getElem?_cons_succ, List.getElem?_cons_zero]; exact rfl) (fun K' hK' => ?_) AllReadyH.nil)
      go_simp
      (refine hK'.out _ _ (⟨cell_set3 f70_0 (show w.heap.size ≠ m60.heap.size by omega), cell_set3 f70_1 (show w.heap.size ≠ m60.heap.size by omega), cell_set3 f70_2 (show w.heap.size ≠ m60.heap.size by omega), cell_set3 f70_3 (show w.heap.size + 1 ≠ m60.heap.size by omega), cell_set3 f70_4 (show w.heap.size + 1 ≠ m60.heap.size by omega), cell_set3 f70_5 (show w.heap.size + 1 ≠ m60.heap.size by omega)⟩) (fun hHeld => ?_); clear hK' K'; try simp only [Act.put, List.setIfInBounds_toArray, List.set_cons_zero, List.set_cons_succ])
      refine wpAnyH_done (by kernel_rfl) ?_ _
      show K1 _ _
      exact TAIL1 _ _ _ _ _ (Below.set3 (D70) (by omega)) (set3_0 b70_0) (set3_1 b70_1) (set3_2 b70_2) (OwnE.mono (OwnE.setOther (a := ⟨m60.heap.size, 2, none⟩) (OwnE.setOther (a := ⟨m60.heap.size, 1, none⟩) (OwnE.setOther (a := ⟨m60.heap.size, 0, none⟩) c70 (by show m60.heap.size < _; omega) _) (by show m60.heap.size < _; omega) _) (by show m60.heap.size < _; omega) _) (by omega)) (by omega) bn70
  · go_simp
    have a72_0 := cell_k2 (Gr.alloc (Gr.refl w1.drew) (Obj.cells #[.int .i64 0, .int .i64 0, .slice none 0 0] 30)).below (cell_k2 (Below.drew (Below.refl _ _)) e0)
    have a72_1 := cell_k2 (Gr.alloc (Gr.refl w1.drew) (Obj.cells #[.int .i64 0, .int .i64 0, .slice none 0 0] 30)).below (cell_k2 (Below.drew (Below.refl _ _)) e1)
    have a72_2 := cell_k2 (Gr.alloc (Gr.refl w1.drew) (Obj.cells #[.int .i64 0, .int .i64 0, .slice none 0 0] 30)).below (cell_k2 (Below.drew (Below.refl _ _)) e2)
    have a72_3 := cell_k2 (Gr.alloc (Gr.refl w1.drew) (Obj.cells #[.int .i64 0, .int .i64 0, .slice none 0 0] 30)).below (cell_k2 (Below.drew (Below.refl _ _)) e3)
    have a72_4 := cell_k2 (Gr.alloc (Gr.refl w1.drew) (Obj.cells #[.int .i64 0, .int .i64 0, .slice none 0 0] 30)).below (cell_k2 (Below.drew (Below.refl _ _)) e4)
    have a72_5 := cell_k2 (Gr.alloc (Gr.refl w1.drew) (Obj.cells #[.int .i64 0, .int .i64 0, .slice none 0 0] 30)).below (cell_k2 (Below.drew (Below.refl _ _)) e5)
    have aD72 := ((Below.drew (Below.refl w1.heap.size w1))).trans (((Gr.alloc (Gr.refl w1.drew) (Obj.cells #[.int .i64 0, .int .i64 0, .slice none 0 0] 30)).below).mono ((Below.drew (Below.refl w1.heap.size w1))).size)
    have aS72 := ((Below.drew (Below.refl w1.heap.size w1))).size
    have ab72_0 : (w1.drew.alloc (Obj.cells #[.int .i64 0, .int .i64 0, .slice none 0 0] 30)).cell? ⟨w1.heap.size, 0, none⟩ = some (.int .i64 0) := by simp [go_sem]
    have ab72_1 : (w1.drew.alloc (Obj.cells #[.int .i64 0, .int .i64 0, .slice none 0 0] 30)).cell? ⟨w1.heap.size, 1, none⟩ = some (.int .i64 0) := by simp [go_sem]
    have ab72_2 : (w1.drew.alloc (Obj.cells #[.int .i64 0, .int .i64 0, .slice none 0 0] 30)).cell? ⟨w1.heap.size, 2, none⟩ = some (.slice none 0 0) := by simp [go_sem]
    have af72 : ∀ o, (w1.drew.alloc (Obj.cells #[.int .i64 0, .int .i64 0, .slice none 0 0] 30)).frozen? ⟨w1.heap.size, o, none⟩ = false := fun o => by simp [go_sem]
    (refine hK'.out _ _ (⟨a72_0, a72_1, a72_2, a72_3, a72_4, a72_5⟩) (fun hHeld => ?_); clear hK' K'; try simp only [Act.put, List.setIfInBounds_toArray, List.set_cons_zero, List.set_cons_succ])
    refine wpAnyH_ready (rs := [1]) (by kernel_rfl) (by simp) (AllReadyH.cons (by simp only [List.getElem?_toArray, List.getElem?_cons_succ, List.getElem?_cons_zero]; exact rfl) (fun K' hK' => ?_) AllReadyH.nil)
    go_simp
    (go_at_call 9; refine (Try.toCity _ _ _ _ _ _ _ HL0.out (ArgE.below WA0.out ((B1).trans ((aD72).mono (B1).size)))).mono ?_; rintro e m73 ⟨v73, rfl, c73, d73⟩; obtain ⟨A73, u73, rfl, c73⟩ := OwnE.eta c73)
    have f73_0 := cell_k2 d73 a72_0
    have f73_1 := cell_k2 d73 a72_1
    have f73_2 := cell_k2 d73 a72_2
    have f73_3 := cell_k2 d73 a72_3
    have f73_4 := cell_k2 d73 a72_4
    have f73_5 := cell_k2 d73 a72_5
    have D73 := (aD72).trans ((d73).mono (aD72).size)
    have s73 := (aD72).size
    have S73 := D73.size
    have b73_0 := cell_k2 d73 ab72_0
    have b73_1 := cell_k2 d73 ab72_1
    have b73_2 := cell_k2 d73 ab72_2
    have bf73 : ∀ o, m73.frozen? ⟨w1.heap.size, o, none⟩ = false := fun o => (d73.frozen (p := ⟨w1.heap.size, o, none⟩) (show w1.heap.size < _ from World.block_lt_of_cell? _ _ ab72_0)).trans (af72 o)
    (refine hK'.out _ _ (⟨f73_0, f73_1, f73_2, f73_3, f73_4, f73_5⟩) (fun hHeld => ?_); clear hK' K'; try simp only [Act.put, List.setIfInBounds_toArray, List.set_cons_zero, List.set_cons_succ])
    refine wpAnyH_ready (rs := [3]) (by kernel_rfl) (by simp) (AllReadyH.cons (by simp only [List.getElem?_toArray, List.getElem?_cons_succ, List.getElem?_cons_zero]; exact rfl) (fun K' hK' => ?_) AllReadyH.nil)
    go_simp
    (go_at_call 10; refine (Try.toBlock _ _ _ _).mono ?_; rintro e m74 ⟨rfl, g74⟩; have d74 := g74.below)
    have q74 := OwnE.below c73 d74 (Nat.le_refl _)
    have f74_0 := cell_k2 d74 f73_0
    have f74_1 := cell_k2 d74 f73_1
    have f74_2 := cell_k2 d74 f73_2
    have f74_3 := cell_k2 d74 f73_3
    have f74_4 := cell_k2 d74 f73_4
    have f74_5 := cell_k2 d74 f73_5
    have D74 := (D73).trans ((d74).mono (D73).size)
    have s74 := (D73).size
    have S74 := D74.size
    have b74_0 := cell_k2 d74 b73_0
    have b74_1 := cell_k2 d74 b73_1
    have b74_2 := cell_k2 d74 b73_2
    have bf74 : ∀ o, m74.frozen? ⟨w1.heap.size, o, none⟩ = false := fun o => (d74.frozen (p := ⟨w1.heap.size, o, none⟩) (show w1.heap.size < _ from World.block_lt_of_cell? _ _ b73_0)).trans (bf73 o)
    (refine hK'.out _ _ (⟨f74_0, f74_1, f74_2, f74_3, f74_4, f74_5⟩) (fun hHeld => ?_); clear hK' K'; try simp only [Act.put, List.setIfInBounds_toArray, List.set_cons_zero, List.set_cons_succ])
    refine wpAnyH_ready (rs := [4]) (by kernel_rfl) (by simp) (AllReadyH.cons (by simp only [List.getElem?_toArray, List.getElem?_cons_succ, List.getElem?_cons_zero]; exact rfl) (fun K' hK' => ?_) AllReadyH.nil)
    go_simp
    have bp75 := (show w1.heap.size < _ from World.block_lt_of_cell? _ _ b74_0)
    (go_at_call 15; refine (HS.out _ _ _ (q74)).mono ?_; rintro e m75 ⟨v75, rfl, c75, d75⟩; obtain ⟨A75, u75, rfl, c75⟩ := OwnE.eta c75)
    have f75_0 := cell_k2 d75 f74_0
    have f75_1 := cell_k2 d75 f74_1
    have f75_2 := cell_k2 d75 f74_2
    have f75_3 := cell_k2 d75 f74_3
    have f75_4 := cell_k2 d75 f74_4
    have f75_5 := cell_k2 d75 f74_5
    have D75 := (D74).trans ((d75).mono (D74).size)
    have s75 := (D74).size
    have S75 := D75.size
    have b75_0 := cell_k2 d75 b74_0
    have b75_1 := cell_k2 d75 b74_1
    have b75_2 := cell_k2 d75 b74_2
    have bf75 : ∀ o, m75.frozen? ⟨w1.heap.size, o, none⟩ = false := fun o => (d75.frozen (p := ⟨w1.heap.size, o, none⟩) (show w1.heap.size < _ from World.block_lt_of_cell? _ _ b74_0)).trans (bf74 o)
    have bn75 : some (w1.heap.size) ≠ (Value.slice A75 xs.length u75).ownBlock := fun e => by have := (World.ownsRow.lt c75 _ e.symm).1; omega
    (refine hK'.out _ _ (⟨f75_0, f75_1, f75_2, f75_3, f75_4, f75_5⟩) (fun hHeld => ?_); clear hK' K'; try simp only [Act.put, List.setIfInBounds_toArray, List.set_cons_zero, List.set_cons_succ])
    (refine wpAnyH_take (i := 5) (v := ?_) (by simp only [List.getElem?_toArray, List.getElem?_cons_succ, List.getElem?_cons_zero]; exact rfl) (by kernel_rfl) (by kernel_rfl) (by kernel_rfl) (by intro _ _ _ h; exact h) (Or.inl ⟨by rfl, ?_⟩) (by assumption) ?_; rotate_left; (focus (intro w' hSw; (try dsimp only at hSw); go_simp; (try with_reducible rfl))); try simp only [Act.put, List.setIfInBounds_toArray, List.set_cons_zero, List.set_cons_succ])
    (refine wpAnyH_take (i := 6) (v := ?_) (by simp only [List.getElem?_toArray, List.getElem?_cons_succ, List.getElem?_cons_zero]; exact rfl) (by kernel_rfl) (by kernel_rfl) (by kernel_rfl) (by intro _ _ _ h; exact h) (Or.inl ⟨by rfl, ?_⟩) (by assumption) ?_; rotate_left; (focus (intro w' hSw; (try dsimp only at hSw); go_simp; (try with_reducible rfl))); try simp only [Act.put, List.setIfInBounds_toArray, List.set_cons_zero, List.set_cons_succ])
    (refine wpAnyH_take (i := 7) (v := ?_) (by simp only [List.getElem?_toArray, List.getElem?_cons_succ, List.getElem?_cons_zero]; exact rfl) (by kernel_rfl) (by kernel_rfl) (by kernel_rfl) (by intro _ _ _ h; exact h) (Or.inl ⟨by rfl, ?_⟩) (by assumption) ?_; rotate_left; (focus (intro w' hSw; (try dsimp only at hSw); go_simp; (try with_reducible rfl))); try simp only [Act.put, List.setIfInBounds_toArray, List.set_cons_zero, List.set_cons_succ])
    refine wpAnyH_ready (rs := [9]) (by kernel_rfl) (by simp) (AllReadyH.cons (by simp only [List.getElem?_toArray, List.getElem?_cons_succ, List.getElem?_cons_zero]; exact rfl) (fun K' hK' => ?_) AllReadyH.nil)
    go_simp
    (refine hK'.out _ _ (⟨cell_set3 f75_0 (show w.heap.size ≠ w1.heap.size by omega), cell_set3 f75_1 (show w.heap.size ≠ w1.heap.size by omega), cell_set3 f75_2 (show w.heap.size ≠ w1.heap.size by omega), cell_set3 f75_3 (show w.heap.size + 1 ≠ w1.heap.size by omega), cell_set3 f75_4 (show w.heap.size + 1 ≠ w1.heap.size by omega), cell_set3 f75_5 (show w.heap.size + 1 ≠ w1.heap.size by omega)⟩) (fun hHeld => ?_); clear hK' K'; try simp only [Act.put, List.setIfInBounds_toArray, List.set_cons_zero, List.set_cons_succ])
    refine wpAnyH_ready (rs := [10]) (by kernel_rfl) (by simp) (AllReadyH.cons (by simp only [List.getElem?_toArray, List.getElem?_cons_succ, List.getElem?_cons_zero]; exact rfl) (fun K' hK' => ?_) AllReadyH.nil)
    go_simp
    (refine hK'.out _ _ (⟨cell_set3 f75_0 (show w.heap.size ≠ w1.heap.size by omega), cell_set3 f75_1 (show w.heap.size ≠ w1.heap.size by omega), cell_set3 f75_2 (show w.heap.size ≠ w1.heap.size by omega), cell_set3 f75_3 (show w.heap.size + 1 ≠ w1.heap.size by omega), cell_set3 f75_4 (show w.heap.size + 1 ≠ w1.heap.size by omega), cell_set3 f75_5 (show w.heap.size + 1 ≠ w1.heap.size by omega)⟩) (fun hHeld => ?_); clear hK' K'; try simp only [Act.put, List.setIfInBounds_toArray, List.set_cons_zero, List.set_cons_succ])
    refine wpAnyH_done (by kernel_rfl) ?_ _
    show K1 _ _
    exact TAIL1 _ _ _ _ _ (Below.set3 (D75) (by omega)) (set3_0 b75_0) (set3_1 b75_1) (set3_2 b75_2) (OwnE.mono (OwnE.setOther (a := ⟨w1.heap.size, 2, none⟩) (OwnE.setOther (a := ⟨w1.heap.size, 1, none⟩) (OwnE.setOther (a := ⟨w1.heap.size, 0, none⟩) c75 (by show w1.heap.size < _; omega) _) (by show w1.heap.size < _; omega) _) (by show w1.heap.size < _; omega) _) (by omega)) (by omega) bn75

set_option maxRecDepth 100000 in
theorem lifted (os : Os) (started : os.Started) (H : Type) (enc : TypeId × Value → H) :
    ReturnsInHanded {} Try.checked os 4 .any (Rows.fnExactCloseBlockSpec.pre6 enc Try.prog Try.f4 Rows.fnExactCloseBlockRow.domain false) (Rows.fnExactCloseBlockSpec.post enc Try.prog Try.f4 false true false false) := by
  refine returnsInHanded_of_change (C := Try.checked) own started (by kernel_rfl) Try.func4
    (ChangeSpec.witness6 (enc := enc) (C := Try.checked) false ⟨#[], #[.agg #[.int .i64 0, .int .i64 0, .slice none 0 0], .agg #[.int .i64 0, .int .i64 0, .bool false]], []⟩ 8 (by kernel_rfl) (by kernel_rfl) (by kernel_rfl) (by kernel_rfl)) ?_
  intro W base args ds gs before hval0 hW hcnd _
  have hval : ∀ (j : Nat) t v, Try.f4.params[j]? = some t → args[j]? = some v → Value.okWide Try.prog W .any base t v := hval0
  have hW' := hW
  obtain ⟨p, q, hA0, hV, rfl, hfz, hnd⟩ := hW
  have hA : DataW.TrodAll enc Try.prog W 0 (fun _ => true) true Try.f4.params.toList args.toList ds p := hA0
  rw [Try.params4] at hA hval
  obtain ⟨v0, vs0, d0, ds0, p0, q0, hargs, rfl, rfl, h0, r0⟩ := trodAll_cons hA
  obtain ⟨v1, vs1, d1, ds1, p1, q1, rfl, rfl, rfl, h1, r1⟩ := trodAll_cons r0
  obtain ⟨rfl, rfl, rfl⟩ := trodAll_nil r1
  obtain rfl : args = #[v0, v1] := by cases args; simp_all
  obtain ⟨rfl, rfl⟩ := trodVars_none hV
  have k0 := h0
  have lt0 : ∀ x ∈ p0, x.block < W.heap.size := by obtain ⟨m, hm⟩ := k0; exact DataW.trod_lt m _ _ _ hm
  obtain ⟨c0x, c0y, c0z, y0x, y0y, y0z, m0, rfl, rfl, rfl, hy0x, hy0y, hy0z⟩ := open_agg3 Try.underlying24 (by kernel_rfl) (show Try.prog.cellsOf 24 = 3 by kernel_rfl) (hval 0 24 v0 rfl rfl) h0
  obtain ⟨a0x, e0x, rfl, _⟩ := DataW.trod_int Try.underlying3 hy0x
  obtain ⟨a0y, e0y, rfl, _⟩ := DataW.trod_int Try.underlying3 hy0y
  obtain ⟨a0, len0, cap0, e0z⟩ := slice_form Try.underlying22 hy0z
  simp at e0x e0y e0z
  subst e0x e0y e0z
  obtain ⟨z0, w0⟩ := ArgE.of_trod Av.b0 (by decide) bcs_len Try.underlying22 (by kernel_rfl) (fun n cs x h => block_of_trod Try.underlying26 (by kernel_rfl) rfl rfl rfl (by kernel_rfl) (by kernel_rfl) (by kernel_rfl) Try.underlying3 Try.underlying3 Try.underlying4 n cs x h) hy0z
  have k1 := h1
  have lt1 : ∀ x ∈ p1, x.block < W.heap.size := by obtain ⟨m, hm⟩ := k1; exact DataW.trod_lt m _ _ _ hm
  obtain ⟨c1x, c1y, c1z, y1x, y1y, y1z, m1, rfl, rfl, rfl, hy1x, hy1y, hy1z⟩ := open_agg3 Try.underlying26 (by kernel_rfl) (show Try.prog.cellsOf 26 = 3 by kernel_rfl) (hval 1 26 v1 rfl rfl) h1
  obtain ⟨a1x, e1x, rfl, _⟩ := DataW.trod_int Try.underlying3 hy1x
  obtain ⟨a1y, e1y, rfl, _⟩ := DataW.trod_int Try.underlying3 hy1y
  obtain ⟨a1u, e1z, rfl⟩ := DataW.trod_bool Try.underlying4 hy1z
  simp at e1x e1y e1z
  subst e1x e1y e1z
  clear hA0 hval0
  simp only [List.append_nil] at hW'
  refine (walk a0x a0y a0 len0 cap0 z0 a1x a1y a1u W w0).mono fun e W' ⟨he, bel⟩ => ?_
  subst he
  exact ⟨_, rfl, _, _, _, [], _, [], hW', trodAll_mk1 (shut_bool Try.underlying4 _), (trodAll_cons_mk (Below.trod laidOut (by kernel_rfl) (of_decide_eq_true (by kernel_rfl)) k0 bel lt0) (trodAll_cons_mk (Below.trod laidOut (by kernel_rfl) (of_decide_eq_true (by kernel_rfl)) k1 bel lt1) trodAll_mk0)), rfl, bel.frame _, fun h => by cases h⟩

theorem over : Rows.fnExactCloseBlockRow.holds Try.pinned (OpenSpec.ofChange Rows.fnExactCloseBlockSpec) :=
  OpenClaim.holds_of_wide 4 Try.f4 rfl rfl rfl rfl rfl rfl rfl ⟨rfl, rfl, rfl, rfl, rfl⟩ rfl rfl rfl rfl rfl (by kernel_rfl) Try.func4 (show joinedFacts Try.prog 4 Try.f4 Rows.fnExactCloseBlockSpec Rows.fnExactCloseBlockRow = true by unfold joinedFacts; rw [Try.frMake, Try.frEnter, Try.frLifts]; kernel_rfl)
    (of_decide_eq_true (by kernel_rfl)) (by unfold Func.isWrapper; first | (rw [if_pos (by decide +kernel)]; kernel_rfl) | (rw [if_neg (by decide +kernel)]; exact ⟨rfl, rfl⟩))
    (fun os started H enc _ => lifted os started H enc)

/-- The statement. -/
theorem proved : Rows.FnExactCloseBlockSaid :=
  over
#print axioms proved
end Go.Proofs.Ytedkkmnoldghmaa.fnExactCloseBlock
