/-
  'FnExactBestToOpen' answers true at every argument and leaves its arguments as they were: the function of the program and its model give the same results.
-/
import Derived.Test.YtkgfbdbhllakoaaRows
import Derived.WalkKit
import Derived.ProofKit
import Derived.OpenShut
import Derived.Lib.SmallJoins
import Derived.Carry
import Derived.Test.YtkgfbdbhllakoaaAvZs
import Derived.Test.YtkgfbdbhllakoaaArgs
import Derived.Test.YtkgfbdbhllakoaaArgsB
import Derived.Test.YtkgfbdbhllakoaaCtL
namespace Go.Proofs.Ytkgfbdbhllakoaa.fnExactBestToOpen
open Go.ChangeShapes Go.WideShapes Go.ChangeAt Go.RowKit Go.Joins
open Go.WideMaps Go.WideElems
open Go.ChangeMaps (setBlock shut_map_nil open_string shut_string keptBut_setBlock frozen?_setBlock heap_setBlock_same)
set_option linter.unusedVariables false
set_option linter.unusedSimpArgs false

theorem own : ownKnob Try.prog.godebug = none := by kernel_rfl
theorem laidOut : laidOutB Try.prog = true := by kernel_rfl

set_option maxRecDepth 100000 in
set_option maxHeartbeats 1000000 in
theorem walk (a0x a0y : Int) (a0 : Option Addr) (len0 cap0 : Nat) (z0 : List Av.Blk) (a1 : Option Addr) (len1 cap1 : Nat) (z1 : List Int) (a2 : Option Addr) (len2 cap2 : Nat) (z2 : List Int) (w : World) (w0 : ArgB w a0 len0 cap0 z0) (w1 : ArgI w a1 len1 cap1 z1) (w2 : ArgI w a2 len2 cap2 z2) :
    Calls Try.prog 9 #[.agg #[.int .i64 a0x, .int .i64 a0y, .slice a0 len0 cap0], .slice a1 len1 cap1, .slice a2 len2 cap2] w fun e w' => e = .returned (.bool true) ∧ Below w.heap.size w w' := by
  have wl0 : len0 ≤ maxLen := Nat.le_trans w0.2.1 w0.2.2.1
  by_cases hs1 : len1 ≤ 1048576
  case neg =>
    have zz : (1048576 : Int) < (len1 : Int) := by omega
    clear w0 w1 w2
    go_enter Try.func9, Try.ntmps9
    go_wp2
    go_ret
    exact ⟨rfl, Gr.below (by repeat (first | exact Gr.refl _ | refine Gr.alloc ?_ _ | refine Gr.trans ?_ (by assumption) | refine Gr.drew ?_ | refine Gr.drewN ?_ _ | refine Gr.grow ?_ _ | refine Gr.setCell ?_ (by (try simp); (try omega)) _))⟩
  by_cases hs2 : len2 ≤ 1048576
  case neg =>
    have zz : (1048576 : Int) < (len2 : Int) := by omega
    have z1' : ¬ (1048576 : Int) < (len1 : Int) := by omega
    clear w0 w1 w2
    go_enter Try.func9, Try.ntmps9
    go_wp2
    go_ret
    exact ⟨rfl, Gr.below (by repeat (first | exact Gr.refl _ | refine Gr.alloc ?_ _ | refine Gr.trans ?_ (by assumption) | refine Gr.drew ?_ | refine Gr.drewN ?_ _ | refine Gr.grow ?_ _ | refine Gr.setCell ?_ (by (try simp); (try omega)) _))⟩
  have z1' : ¬ (1048576 : Int) < (len1 : Int) := by omega
  have z2' : ¬ (1048576 : Int) < (len2 : Int) := by omega
  by_cases hsum : len0 ≤ 1048576
  case neg =>
    have SZ := Lib.hid (fun (w : World) => Try.szCity w a0x a0y a0 len0 cap0 wl0)
    rw [if_pos (by omega)] at SZ
    clear w0 w1 w2
    go_enter Try.func9, Try.ntmps9
    go_wp2_with (first | (go_at_call 10; refine (SZ.out _).mono ?_; rintro e w1 ⟨rfl, hbW⟩; have hcW := (bcell hbW.below).1; have hfW := (bcell hbW.below).2; (try have hzW : w.heap.size < w1.heap.size := by have hq := hbW.below.size; (try simp at hq); omega); (try have hyW : w.heap.size + 1 < w1.heap.size := by have hq := hbW.below.size; (try simp at hq); omega); (try have hxW : w.heap.size + 2 < w1.heap.size := by have hq := hbW.below.size; (try simp at hq); omega)))
    go_ret
    exact ⟨rfl, Gr.below (by repeat (first | exact Gr.refl _ | refine Gr.alloc ?_ _ | refine Gr.trans ?_ (by assumption) | refine Gr.drew ?_ | refine Gr.drewN ?_ _ | refine Gr.grow ?_ _ | refine Gr.setCell ?_ (by (try simp); (try omega)) _))⟩
  have zl0 : z0.length ≤ 1048576 := by have := w0.1; omega
  have zl1 : z1.length ≤ 1048576 := by have := w1.1; omega
  have zl2 : z2.length ≤ 1048576 := by have := w2.1; omega
  rcases hp : boK a0x a0y z0 z1 z2 with ⟨p1, p2, p3⟩
  have HS := Lib.hid (fun (w : World) B v h B1 v1 h1 B2 v2 h2 => Try.sBestToOpen w a0x a0y B v z0 B1 v1 z1 B2 v2 z2 p1 p2 p3 (boL a0x a0y z0 z1 z2) (boB a0x a0y z0 z1 z2) hp rfl rfl zl0 h h1 h2)
  have HI := Lib.hid (fun (w : World) B v h B1 v1 h1 B2 v2 h2 => Try.iBestToOpen w a0x a0y B v z0 B1 v1 z1 B2 v2 z2 p1 p2 p3 (boL a0x a0y z0 z1 z2) (boB a0x a0y z0 z1 z2) hp rfl rfl zl0 h h1 h2)
  generalize boL a0x a0y z0 z1 z2 = v at *
  generalize boB a0x a0y z0 z1 z2 = b at *
  have SZ := Lib.hid (fun (w : World) => Try.szCity w a0x a0y a0 len0 cap0 wl0)
  rw [if_neg (by omega)] at SZ
  have zz : ¬ (1048576 : Int) - (len0 : Int) < 0 := by omega
  have WA0 := Lib.hid w0
  have HL0 := Lib.hid hsum
  have WA1 := Lib.hid w1
  have HL1 := Lib.hid hs1
  have WA2 := Lib.hid w2
  have HL2 := Lib.hid hs2
  clear w0 w1 w2
  go_enter Try.func9, Try.ntmps9
  go_wp2_with (first | (go_at_call 10; refine (SZ.out _).mono ?_; rintro e w1 ⟨rfl, g1⟩; have B1 : Below w.heap.size w w1 := (show Gr w w1 from (by repeat (first | exact Gr.refl _ | refine Gr.alloc ?_ _ | refine Gr.trans ?_ (by assumption) | refine Gr.drew ?_ | refine Gr.drewN ?_ _ | refine Gr.grow ?_ _ | refine Gr.setCell ?_ (by (try simp); (try omega)) _))).below; have g2 : Gr (w.alloc (.cells #[.int .i64 a0x, .int .i64 a0y, .slice a0 len0 cap0] 24)) w1 := (by repeat (first | exact Gr.refl _ | refine Gr.alloc ?_ _ | refine Gr.trans ?_ (by assumption) | refine Gr.drew ?_ | refine Gr.drewN ?_ _ | refine Gr.grow ?_ _ | refine Gr.setCell ?_ (by (try simp); (try omega)) _)); have e0 : w1.cell? ⟨w.heap.size, 0, none⟩ = some (.int .i64 a0x) := g2.keep0 (by simp [go_sem]); have e1 : w1.cell? ⟨w.heap.size, 1, none⟩ = some (.int .i64 a0y) := g2.keep0 (by simp [go_sem]); have e2 : w1.cell? ⟨w.heap.size, 2, none⟩ = some (.slice a0 len0 cap0) := g2.keep0 (by simp [go_sem])))
  refine (Try.toCity _ _ _ _ _ _ _ HL0.out (ArgE.below WA0.out B1)).mono ?_
  rintro e wv1 ⟨v1, rfl, c1, d1⟩
  obtain ⟨A1, u1, rfl, c1⟩ := OwnE.eta c1
  have f2_0 := cell_k2 (d1) e0
  have f2_1 := cell_k2 (d1) e1
  have f2_2 := cell_k2 (d1) e2
  clear e0 e1 e2
  have D2 := B1.trans ((d1).mono B1.size)
  have s2 := (d1).size
  have Fr1 := c1
  go_wp2_with fail
  refine (Try.toIntS _ _ _ _ _ HL1.out (ArgI.below WA1.out D2)).mono ?_
  rintro e wv3 ⟨v3, rfl, c3, d3⟩
  have f4_0 := cell_k2 (d3) f2_0
  have f4_1 := cell_k2 (d3) f2_1
  have f4_2 := cell_k2 (d3) f2_2
  clear f2_0 f2_1 f2_2
  have o4_r1 := OwnE.below c1 (d3) (Nat.le_refl _)
  have D4 := D2.trans ((d3).mono D2.size)
  have s4 := (d3).size
  have Fr2 := c3
  go_wp2_with fail
  refine (Try.toIntS _ _ _ _ _ HL2.out (ArgI.below WA2.out D4)).mono ?_
  rintro e wv5 ⟨v5, rfl, c5, d5⟩
  have f6_0 := cell_k2 (d5) f4_0
  have f6_1 := cell_k2 (d5) f4_1
  have f6_2 := cell_k2 (d5) f4_2
  clear f4_0 f4_1 f4_2
  have o6_r1 := OwnE.below o4_r1 (d5) (Nat.le_refl _)
  have o6_r2 := OwnI.below c3 (d5) (Nat.le_refl _)
  have D6 := D4.trans ((d5).mono D4.size)
  have s6 := (d5).size
  have Fr3 := c5
  go_wp2_with fail
  refine (HS.out _ _ _ o6_r1 _ _ o6_r2 _ _ c5).mono ?_
  rintro e wC7 ⟨rfl, dC7⟩
  have f8_0 := cell_k2 (dC7) f6_0
  have f8_1 := cell_k2 (dC7) f6_1
  have f8_2 := cell_k2 (dC7) f6_2
  clear f6_0 f6_1 f6_2
  have o8_r1 := OwnE.below o6_r1 (dC7) (Nat.le_refl _)
  have o8_r2 := OwnI.below o6_r2 (dC7) (Nat.le_refl _)
  have o8_r3 := OwnI.below c5 (dC7) (Nat.le_refl _)
  have D8 := D6.trans ((dC7).mono D6.size)
  have s8 := (dC7).size
  have g9 := Gr.alloc (Gr.refl wC7) (.cells #[.int .i64 p1, .int .i64 p2, .bool p3] 45)
  have f10_0 := cell_k2 (g9.below) f8_0
  have f10_1 := cell_k2 (g9.below) f8_1
  have f10_2 := cell_k2 (g9.below) f8_2
  clear f8_0 f8_1 f8_2
  have o10_r1 := OwnE.below o8_r1 (g9.below) (Nat.le_refl _)
  have o10_r2 := OwnI.below o8_r2 (g9.below) (Nat.le_refl _)
  have o10_r3 := OwnI.below o8_r3 (g9.below) (Nat.le_refl _)
  have D10 := D8.trans ((g9.below).mono D8.size)
  have s10 := (g9.below).size
  have h9_0 : (wC7.alloc (.cells #[.int .i64 p1, .int .i64 p2, .bool p3] 45)).cell? ⟨wC7.heap.size, 0, none⟩ = some (.int .i64 p1) := by simp [go_sem]
  have h9_1 : (wC7.alloc (.cells #[.int .i64 p1, .int .i64 p2, .bool p3] 45)).cell? ⟨wC7.heap.size, 1, none⟩ = some (.int .i64 p2) := by simp [go_sem]
  have h9_2 : (wC7.alloc (.cells #[.int .i64 p1, .int .i64 p2, .bool p3] 45)).cell? ⟨wC7.heap.size, 2, none⟩ = some (.bool p3) := by simp [go_sem]
  go_wp2_with fail
  refine (Try.toCity _ _ _ _ _ _ _ HL0.out (ArgE.below WA0.out D10)).mono ?_
  rintro e wv11 ⟨v11, rfl, c11, d11⟩
  obtain ⟨A11, u11, rfl, c11⟩ := OwnE.eta c11
  have f12_0 := cell_k2 (d11) f10_0
  have f12_1 := cell_k2 (d11) f10_1
  have f12_2 := cell_k2 (d11) f10_2
  have f12_3 := cell_k2 (d11) h9_0
  have f12_4 := cell_k2 (d11) h9_1
  have f12_5 := cell_k2 (d11) h9_2
  clear f10_0 f10_1 f10_2 h9_0 h9_1 h9_2
  have D12 := D10.trans ((d11).mono D10.size)
  have s12 := (d11).size
  have Fr4 := c11
  have g13 := Gr.alloc (Gr.refl wv11) (.cells #[.int .i64 a0x, .int .i64 a0y, .slice A11 z0.length u11] 31)
  have f14_0 := cell_k2 (g13.below) f12_0
  have f14_1 := cell_k2 (g13.below) f12_1
  have f14_2 := cell_k2 (g13.below) f12_2
  have f14_3 := cell_k2 (g13.below) f12_3
  have f14_4 := cell_k2 (g13.below) f12_4
  have f14_5 := cell_k2 (g13.below) f12_5
  clear f12_0 f12_1 f12_2 f12_3 f12_4 f12_5
  have o14_r4 := OwnE.below c11 (g13.below) (Nat.le_refl _)
  have D14 := D12.trans ((g13.below).mono D12.size)
  have s14 := (g13.below).size
  have h13_0 : (wv11.alloc (.cells #[.int .i64 a0x, .int .i64 a0y, .slice A11 z0.length u11] 31)).cell? ⟨wv11.heap.size, 0, none⟩ = some (.int .i64 a0x) := by simp [go_sem]
  have h13_1 : (wv11.alloc (.cells #[.int .i64 a0x, .int .i64 a0y, .slice A11 z0.length u11] 31)).cell? ⟨wv11.heap.size, 1, none⟩ = some (.int .i64 a0y) := by simp [go_sem]
  have h13_2 : (wv11.alloc (.cells #[.int .i64 a0x, .int .i64 a0y, .slice A11 z0.length u11] 31)).cell? ⟨wv11.heap.size, 2, none⟩ = some (.slice A11 z0.length u11) := by simp [go_sem]
  go_wp2_with fail
  refine (Try.toIntS _ _ _ _ _ HL1.out (ArgI.below WA1.out D14)).mono ?_
  rintro e wv15 ⟨v15, rfl, c15, d15⟩
  have f16_0 := cell_k2 (d15) f14_0
  have f16_1 := cell_k2 (d15) f14_1
  have f16_2 := cell_k2 (d15) f14_2
  have f16_3 := cell_k2 (d15) f14_3
  have f16_4 := cell_k2 (d15) f14_4
  have f16_5 := cell_k2 (d15) f14_5
  have f16_6 := cell_k2 (d15) h13_0
  have f16_7 := cell_k2 (d15) h13_1
  have f16_8 := cell_k2 (d15) h13_2
  clear f14_0 f14_1 f14_2 f14_3 f14_4 f14_5 h13_0 h13_1 h13_2
  have o16_r4 := OwnE.below o14_r4 (d15) (Nat.le_refl _)
  have D16 := D14.trans ((d15).mono D14.size)
  have s16 := (d15).size
  have Fr5 := c15
  go_wp2_with fail
  refine (Try.toIntS _ _ _ _ _ HL2.out (ArgI.below WA2.out D16)).mono ?_
  rintro e wv17 ⟨v17, rfl, c17, d17⟩
  have f18_0 := cell_k2 (d17) f16_0
  have f18_1 := cell_k2 (d17) f16_1
  have f18_2 := cell_k2 (d17) f16_2
  have f18_3 := cell_k2 (d17) f16_3
  have f18_4 := cell_k2 (d17) f16_4
  have f18_5 := cell_k2 (d17) f16_5
  have f18_6 := cell_k2 (d17) f16_6
  have f18_7 := cell_k2 (d17) f16_7
  have f18_8 := cell_k2 (d17) f16_8
  clear f16_0 f16_1 f16_2 f16_3 f16_4 f16_5 f16_6 f16_7 f16_8
  have o18_r4 := OwnE.below o16_r4 (d17) (Nat.le_refl _)
  have o18_r5 := OwnI.below c15 (d17) (Nat.le_refl _)
  have D18 := D16.trans ((d17).mono D16.size)
  have s18 := (d17).size
  have Fr6 := c17
  go_wp2_with fail
  refine (HI.out _ _ _ o18_r4 _ _ o18_r5 _ _ c17).mono ?_
  rintro e wC19 ⟨rfl, dC19⟩
  have f20_0 := cell_k2 (dC19) f18_0
  have f20_1 := cell_k2 (dC19) f18_1
  have f20_2 := cell_k2 (dC19) f18_2
  have f20_3 := cell_k2 (dC19) f18_3
  have f20_4 := cell_k2 (dC19) f18_4
  have f20_5 := cell_k2 (dC19) f18_5
  have f20_6 := cell_k2 (dC19) f18_6
  have f20_7 := cell_k2 (dC19) f18_7
  have f20_8 := cell_k2 (dC19) f18_8
  clear f18_0 f18_1 f18_2 f18_3 f18_4 f18_5 f18_6 f18_7 f18_8
  have o20_r4 := OwnE.below o18_r4 (dC19) (Nat.le_refl _)
  have o20_r5 := OwnI.below o18_r5 (dC19) (Nat.le_refl _)
  have o20_r6 := OwnI.below c17 (dC19) (Nat.le_refl _)
  have D20 := D18.trans ((dC19).mono D18.size)
  have s20 := (dC19).size
  have g21 := Gr.alloc (Gr.refl wC19) (.cells #[.int .i64 p1, .int .i64 p2, .bool p3] 45)
  have f22_0 := cell_k2 (g21.below) f20_0
  have f22_1 := cell_k2 (g21.below) f20_1
  have f22_2 := cell_k2 (g21.below) f20_2
  have f22_3 := cell_k2 (g21.below) f20_3
  have f22_4 := cell_k2 (g21.below) f20_4
  have f22_5 := cell_k2 (g21.below) f20_5
  have f22_6 := cell_k2 (g21.below) f20_6
  have f22_7 := cell_k2 (g21.below) f20_7
  have f22_8 := cell_k2 (g21.below) f20_8
  clear f20_0 f20_1 f20_2 f20_3 f20_4 f20_5 f20_6 f20_7 f20_8
  have o22_r4 := OwnE.below o20_r4 (g21.below) (Nat.le_refl _)
  have o22_r5 := OwnI.below o20_r5 (g21.below) (Nat.le_refl _)
  have o22_r6 := OwnI.below o20_r6 (g21.below) (Nat.le_refl _)
  have D22 := D20.trans ((g21.below).mono D20.size)
  have s22 := (g21.below).size
  have h21_0 : (wC19.alloc (.cells #[.int .i64 p1, .int .i64 p2, .bool p3] 45)).cell? ⟨wC19.heap.size, 0, none⟩ = some (.int .i64 p1) := by simp [go_sem]
  have h21_1 : (wC19.alloc (.cells #[.int .i64 p1, .int .i64 p2, .bool p3] 45)).cell? ⟨wC19.heap.size, 1, none⟩ = some (.int .i64 p2) := by simp [go_sem]
  have h21_2 : (wC19.alloc (.cells #[.int .i64 p1, .int .i64 p2, .bool p3] 45)).cell? ⟨wC19.heap.size, 2, none⟩ = some (.bool p3) := by simp [go_sem]
  go_wp2_with fail
  refine (Try.eqBlock _ _ _ _).mono ?_
  rintro e wE23 ⟨rfl, dE23⟩
  have f24_0 := cell_k2 (dE23.below) f22_0
  have f24_1 := cell_k2 (dE23.below) f22_1
  have f24_2 := cell_k2 (dE23.below) f22_2
  have f24_3 := cell_k2 (dE23.below) f22_3
  have f24_4 := cell_k2 (dE23.below) f22_4
  have f24_5 := cell_k2 (dE23.below) f22_5
  have f24_6 := cell_k2 (dE23.below) f22_6
  have f24_7 := cell_k2 (dE23.below) f22_7
  have f24_8 := cell_k2 (dE23.below) f22_8
  have f24_9 := cell_k2 (dE23.below) h21_0
  have f24_10 := cell_k2 (dE23.below) h21_1
  have f24_11 := cell_k2 (dE23.below) h21_2
  clear f22_0 f22_1 f22_2 f22_3 f22_4 f22_5 f22_6 f22_7 f22_8 h21_0 h21_1 h21_2
  have o24_r4 := OwnE.below o22_r4 (dE23.below) (Nat.le_refl _)
  have o24_r5 := OwnI.below o22_r5 (dE23.below) (Nat.le_refl _)
  have o24_r6 := OwnI.below o22_r6 (dE23.below) (Nat.le_refl _)
  have D24 := D22.trans ((dE23.below).mono D22.size)
  have s24 := (dE23.below).size
  go_upto_region 16 with fail
  go_region_held3 (fun W' => W'.cell? ⟨w.heap.size, 0, none⟩ = some (.int .i64 a0x) ∧ W'.cell? ⟨w.heap.size, 1, none⟩ = some (.int .i64 a0y) ∧ W'.cell? ⟨w.heap.size, 2, none⟩ = some (.slice a0 len0 cap0) ∧ W'.cell? ⟨wC7.heap.size, 0, none⟩ = some (.int .i64 p1) ∧ W'.cell? ⟨wC7.heap.size, 1, none⟩ = some (.int .i64 p2) ∧ W'.cell? ⟨wC7.heap.size, 2, none⟩ = some (.bool p3) ∧ W'.cell? ⟨wv11.heap.size, 0, none⟩ = some (.int .i64 a0x) ∧ W'.cell? ⟨wv11.heap.size, 1, none⟩ = some (.int .i64 a0y) ∧ W'.cell? ⟨wv11.heap.size, 2, none⟩ = some (.slice A11 z0.length u11) ∧ W'.cell? ⟨wC19.heap.size, 0, none⟩ = some (.int .i64 p1) ∧ W'.cell? ⟨wC19.heap.size, 1, none⟩ = some (.int .i64 p2) ∧ W'.cell? ⟨wC19.heap.size, 2, none⟩ = some (.bool p3))
    (first | exact ⟨f24_0, f24_1, f24_2, f24_3, f24_4, f24_5, f24_6, f24_7, f24_8, f24_9, f24_10, f24_11⟩ | exact ⟨cell_k2 (Below.drew (Below.refl _ _)) f24_0, cell_k2 (Below.drew (Below.refl _ _)) f24_1, cell_k2 (Below.drew (Below.refl _ _)) f24_2, cell_k2 (Below.drew (Below.refl _ _)) f24_3, cell_k2 (Below.drew (Below.refl _ _)) f24_4, cell_k2 (Below.drew (Below.refl _ _)) f24_5, cell_k2 (Below.drew (Below.refl _ _)) f24_6, cell_k2 (Below.drew (Below.refl _ _)) f24_7, cell_k2 (Below.drew (Below.refl _ _)) f24_8, cell_k2 (Below.drew (Below.refl _ _)) f24_9, cell_k2 (Below.drew (Below.refl _ _)) f24_10, cell_k2 (Below.drew (Below.refl _ _)) f24_11⟩ | exact keep12 dA25 (by assumption) | exact keep12 dE25.below (by assumption))
    ((first | (go_at_call 12; refine (Try.toCity _ _ _ _ _ _ _ HL0.out (ArgE.below WA0.out (by first | exact D24 | exact Below.drew D24))).mono ?_; rintro e wA25 ⟨vA25, rfl, cA25, dA25⟩) | (go_at_call 15; refine (Try.eqCity _ _ _ _ _ _ _ _ (OwnE.below (by first | exact o24_r4 | exact OwnE.below o24_r4 (Below.drew (Below.refl _ _)) (Nat.le_refl _)) dA25 (Nat.le_refl _)) cA25).mono ?_; rintro e wE25 ⟨rfl, dE25⟩)))
  have f26_0 := cell_k2 ((show Below wE23.heap.size wE23 _ by first | exact dA25 | exact Below.trans (Below.drew (Below.refl _ _)) dA25)) f24_0
  have f26_1 := cell_k2 ((show Below wE23.heap.size wE23 _ by first | exact dA25 | exact Below.trans (Below.drew (Below.refl _ _)) dA25)) f24_1
  have f26_2 := cell_k2 ((show Below wE23.heap.size wE23 _ by first | exact dA25 | exact Below.trans (Below.drew (Below.refl _ _)) dA25)) f24_2
  have f26_3 := cell_k2 ((show Below wE23.heap.size wE23 _ by first | exact dA25 | exact Below.trans (Below.drew (Below.refl _ _)) dA25)) f24_3
  have f26_4 := cell_k2 ((show Below wE23.heap.size wE23 _ by first | exact dA25 | exact Below.trans (Below.drew (Below.refl _ _)) dA25)) f24_4
  have f26_5 := cell_k2 ((show Below wE23.heap.size wE23 _ by first | exact dA25 | exact Below.trans (Below.drew (Below.refl _ _)) dA25)) f24_5
  have f26_6 := cell_k2 ((show Below wE23.heap.size wE23 _ by first | exact dA25 | exact Below.trans (Below.drew (Below.refl _ _)) dA25)) f24_6
  have f26_7 := cell_k2 ((show Below wE23.heap.size wE23 _ by first | exact dA25 | exact Below.trans (Below.drew (Below.refl _ _)) dA25)) f24_7
  have f26_8 := cell_k2 ((show Below wE23.heap.size wE23 _ by first | exact dA25 | exact Below.trans (Below.drew (Below.refl _ _)) dA25)) f24_8
  have f26_9 := cell_k2 ((show Below wE23.heap.size wE23 _ by first | exact dA25 | exact Below.trans (Below.drew (Below.refl _ _)) dA25)) f24_9
  have f26_10 := cell_k2 ((show Below wE23.heap.size wE23 _ by first | exact dA25 | exact Below.trans (Below.drew (Below.refl _ _)) dA25)) f24_10
  have f26_11 := cell_k2 ((show Below wE23.heap.size wE23 _ by first | exact dA25 | exact Below.trans (Below.drew (Below.refl _ _)) dA25)) f24_11
  clear f24_0 f24_1 f24_2 f24_3 f24_4 f24_5 f24_6 f24_7 f24_8 f24_9 f24_10 f24_11
  have o26_r4 := OwnE.below o24_r4 ((show Below wE23.heap.size wE23 _ by first | exact dA25 | exact Below.trans (Below.drew (Below.refl _ _)) dA25)) (Nat.le_refl _)
  have o26_r5 := OwnI.below o24_r5 ((show Below wE23.heap.size wE23 _ by first | exact dA25 | exact Below.trans (Below.drew (Below.refl _ _)) dA25)) (Nat.le_refl _)
  have o26_r6 := OwnI.below o24_r6 ((show Below wE23.heap.size wE23 _ by first | exact dA25 | exact Below.trans (Below.drew (Below.refl _ _)) dA25)) (Nat.le_refl _)
  have D26 := D24.trans (((show Below wE23.heap.size wE23 _ by first | exact dA25 | exact Below.trans (Below.drew (Below.refl _ _)) dA25)).mono D24.size)
  have s26 := ((show Below wE23.heap.size wE23 _ by first | exact dA25 | exact Below.trans (Below.drew (Below.refl _ _)) dA25)).size
  have f27_0 := cell_k2 (dE25.below) f26_0
  have f27_1 := cell_k2 (dE25.below) f26_1
  have f27_2 := cell_k2 (dE25.below) f26_2
  have f27_3 := cell_k2 (dE25.below) f26_3
  have f27_4 := cell_k2 (dE25.below) f26_4
  have f27_5 := cell_k2 (dE25.below) f26_5
  have f27_6 := cell_k2 (dE25.below) f26_6
  have f27_7 := cell_k2 (dE25.below) f26_7
  have f27_8 := cell_k2 (dE25.below) f26_8
  have f27_9 := cell_k2 (dE25.below) f26_9
  have f27_10 := cell_k2 (dE25.below) f26_10
  have f27_11 := cell_k2 (dE25.below) f26_11
  clear f26_0 f26_1 f26_2 f26_3 f26_4 f26_5 f26_6 f26_7 f26_8 f26_9 f26_10 f26_11
  have o27_r4 := OwnE.below o26_r4 (dE25.below) (Nat.le_refl _)
  have o27_r5 := OwnI.below o26_r5 (dE25.below) (Nat.le_refl _)
  have o27_r6 := OwnI.below o26_r6 (dE25.below) (Nat.le_refl _)
  have D27 := D26.trans ((dE25.below).mono D26.size)
  have s27 := (dE25.below).size
  go_wp2_with fail
  refine (Try.toIntS _ _ _ _ _ HL1.out (ArgI.below WA1.out D27)).mono ?_
  rintro e wv28 ⟨v28, rfl, c28, d28⟩
  have f29_0 := cell_k2 (d28) f27_0
  have f29_1 := cell_k2 (d28) f27_1
  have f29_2 := cell_k2 (d28) f27_2
  have f29_3 := cell_k2 (d28) f27_3
  have f29_4 := cell_k2 (d28) f27_4
  have f29_5 := cell_k2 (d28) f27_5
  have f29_6 := cell_k2 (d28) f27_6
  have f29_7 := cell_k2 (d28) f27_7
  have f29_8 := cell_k2 (d28) f27_8
  have f29_9 := cell_k2 (d28) f27_9
  have f29_10 := cell_k2 (d28) f27_10
  have f29_11 := cell_k2 (d28) f27_11
  clear f27_0 f27_1 f27_2 f27_3 f27_4 f27_5 f27_6 f27_7 f27_8 f27_9 f27_10 f27_11
  have o29_r4 := OwnE.below o27_r4 (d28) (Nat.le_refl _)
  have o29_r5 := OwnI.below o27_r5 (d28) (Nat.le_refl _)
  have o29_r6 := OwnI.below o27_r6 (d28) (Nat.le_refl _)
  have D29 := D27.trans ((d28).mono D27.size)
  have s29 := (d28).size
  have Fr7 := c28
  go_wp2_with fail
  refine (Try.eqIntS _ _ _ _ _ _ o29_r5 c28).mono ?_
  rintro e wE30 ⟨rfl, dE30⟩
  have f31_0 := cell_k2 (dE30.below) f29_0
  have f31_1 := cell_k2 (dE30.below) f29_1
  have f31_2 := cell_k2 (dE30.below) f29_2
  have f31_3 := cell_k2 (dE30.below) f29_3
  have f31_4 := cell_k2 (dE30.below) f29_4
  have f31_5 := cell_k2 (dE30.below) f29_5
  have f31_6 := cell_k2 (dE30.below) f29_6
  have f31_7 := cell_k2 (dE30.below) f29_7
  have f31_8 := cell_k2 (dE30.below) f29_8
  have f31_9 := cell_k2 (dE30.below) f29_9
  have f31_10 := cell_k2 (dE30.below) f29_10
  have f31_11 := cell_k2 (dE30.below) f29_11
  clear f29_0 f29_1 f29_2 f29_3 f29_4 f29_5 f29_6 f29_7 f29_8 f29_9 f29_10 f29_11
  have o31_r4 := OwnE.below o29_r4 (dE30.below) (Nat.le_refl _)
  have o31_r5 := OwnI.below o29_r5 (dE30.below) (Nat.le_refl _)
  have o31_r6 := OwnI.below o29_r6 (dE30.below) (Nat.le_refl _)
  have o31_r7 := OwnI.below c28 (dE30.below) (Nat.le_refl _)
  have D31 := D29.trans ((dE30.below).mono D29.size)
  have s31 := (dE30.below).size
  go_wp2_with fail
  refine (Try.toIntS _ _ _ _ _ HL2.out (ArgI.below WA2.out D31)).mono ?_
  rintro e wv32 ⟨v32, rfl, c32, d32⟩
  have f33_0 := cell_k2 (d32) f31_0
  have f33_1 := cell_k2 (d32) f31_1
  have f33_2 := cell_k2 (d32) f31_2
  have f33_3 := cell_k2 (d32) f31_3
  have f33_4 := cell_k2 (d32) f31_4
  have f33_5 := cell_k2 (d32) f31_5
  have f33_6 := cell_k2 (d32) f31_6
  have f33_7 := cell_k2 (d32) f31_7
  have f33_8 := cell_k2 (d32) f31_8
  have f33_9 := cell_k2 (d32) f31_9
  have f33_10 := cell_k2 (d32) f31_10
  have f33_11 := cell_k2 (d32) f31_11
  clear f31_0 f31_1 f31_2 f31_3 f31_4 f31_5 f31_6 f31_7 f31_8 f31_9 f31_10 f31_11
  have o33_r4 := OwnE.below o31_r4 (d32) (Nat.le_refl _)
  have o33_r5 := OwnI.below o31_r5 (d32) (Nat.le_refl _)
  have o33_r6 := OwnI.below o31_r6 (d32) (Nat.le_refl _)
  have D33 := D31.trans ((d32).mono D31.size)
  have s33 := (d32).size
  have Fr8 := c32
  go_wp2_with fail
  refine (Try.eqIntS _ _ _ _ _ _ o33_r6 c32).mono ?_
  rintro e wE34 ⟨rfl, dE34⟩
  have f35_0 := cell_k2 (dE34.below) f33_0
  have f35_1 := cell_k2 (dE34.below) f33_1
  have f35_2 := cell_k2 (dE34.below) f33_2
  have f35_3 := cell_k2 (dE34.below) f33_3
  have f35_4 := cell_k2 (dE34.below) f33_4
  have f35_5 := cell_k2 (dE34.below) f33_5
  have f35_6 := cell_k2 (dE34.below) f33_6
  have f35_7 := cell_k2 (dE34.below) f33_7
  have f35_8 := cell_k2 (dE34.below) f33_8
  have f35_9 := cell_k2 (dE34.below) f33_9
  have f35_10 := cell_k2 (dE34.below) f33_10
  have f35_11 := cell_k2 (dE34.below) f33_11
  clear f33_0 f33_1 f33_2 f33_3 f33_4 f33_5 f33_6 f33_7 f33_8 f33_9 f33_10 f33_11
  have o35_r4 := OwnE.below o33_r4 (dE34.below) (Nat.le_refl _)
  have o35_r5 := OwnI.below o33_r5 (dE34.below) (Nat.le_refl _)
  have o35_r6 := OwnI.below o33_r6 (dE34.below) (Nat.le_refl _)
  have o35_r8 := OwnI.below c32 (dE34.below) (Nat.le_refl _)
  have D35 := D33.trans ((dE34.below).mono D33.size)
  have s35 := (dE34.below).size
  go_wp2_with fail
  go_ret
  exact ⟨rfl, D35⟩

set_option maxRecDepth 100000 in
theorem lifted (os : Os) (started : os.Started) (H : Type) (enc : TypeId × Value → H) :
    ReturnsInHanded {} Try.checked os 9 .any (Rows.fnExactBestToOpenSpec.pre6 enc Try.prog Try.f9 Rows.fnExactBestToOpenRow.domain false) (Rows.fnExactBestToOpenSpec.post enc Try.prog Try.f9 false true false false) := by
  refine returnsInHanded_of_change (C := Try.checked) own started (by kernel_rfl) Try.func9
    (ChangeSpec.witness6 (enc := enc) (C := Try.checked) false ⟨#[], #[.agg #[.int .i64 0, .int .i64 0, .slice none 0 0], .slice none 0 0, .slice none 0 0], []⟩ 8 (by kernel_rfl) (by kernel_rfl) (by kernel_rfl) (by kernel_rfl)) ?_
  intro W base args ds gs before hval0 hW hcnd _
  have hval : ∀ (j : Nat) t v, Try.f9.params[j]? = some t → args[j]? = some v → Value.okWide Try.prog W .any base t v := hval0
  have hW' := hW
  obtain ⟨p, q, hA0, hV, rfl, hfz, hnd⟩ := hW
  have hA : DataW.TrodAll enc Try.prog W 0 (fun _ => true) true Try.f9.params.toList args.toList ds p := hA0
  rw [Try.params9] at hA hval
  obtain ⟨v0, vs0, d0, ds0, p0, q0, hargs, rfl, rfl, h0, r0⟩ := trodAll_cons hA
  obtain ⟨v1, vs1, d1, ds1, p1, q1, rfl, rfl, rfl, h1, r1⟩ := trodAll_cons r0
  obtain ⟨v2, vs2, d2, ds2, p2, q2, rfl, rfl, rfl, h2, r2⟩ := trodAll_cons r1
  obtain ⟨rfl, rfl, rfl⟩ := trodAll_nil r2
  obtain rfl : args = #[v0, v1, v2] := by cases args; simp_all
  obtain ⟨rfl, rfl⟩ := trodVars_none hV
  have k0 := h0
  have lt0 : ∀ x ∈ p0, x.block < W.heap.size := by obtain ⟨m, hm⟩ := k0; exact DataW.trod_lt m _ _ _ hm
  obtain ⟨c0x, c0y, c0z, y0x, y0y, y0z, m0, rfl, rfl, rfl, hy0x, hy0y, hy0z⟩ := open_agg3 Try.underlying24 (by kernel_rfl) (show Try.prog.cellsOf 24 = 3 by kernel_rfl) (hval 0 24 v0 rfl rfl) h0
  obtain ⟨a0x, e0x, rfl, _⟩ := DataW.trod_int Try.underlying3 hy0x
  obtain ⟨a0y, e0y, rfl, _⟩ := DataW.trod_int Try.underlying3 hy0y
  obtain ⟨a0, len0, cap0, e0z⟩ := slice_form Try.underlying22 hy0z
  simp at e0x e0y e0z
  subst e0x e0y e0z
  obtain ⟨z0, w0⟩ := ArgE.of_trod Av.b0 (by decide) bcs_len Try.underlying22 (by kernel_rfl) (fun n cs x h => block_of_trod Try.underlying77 (by kernel_rfl) rfl rfl rfl (by kernel_rfl) (by kernel_rfl) (by kernel_rfl) Try.underlying3 Try.underlying3 Try.underlying4 n cs x h) hy0z
  obtain ⟨a1, len1, cap1, rfl⟩ := okWide_slice Try.underlying25 (hval 1 25 v1 rfl rfl)
  have k1 := h1
  have lt1 : ∀ x ∈ p1, x.block < W.heap.size := by obtain ⟨m, hm⟩ := k1; exact DataW.trod_lt m _ _ _ hm
  obtain ⟨z1, w1⟩ : ∃ zs, ArgI W a1 len1 cap1 zs := by
    obtain ⟨fuel, hf⟩ := h1
    rcases open_ints Try.underlying25 Try.underlying3 (by kernel_rfl) hf with ⟨hcs, _⟩ | ⟨x, l, c, zs, hcs, _, hl, hm, hz, _, hcell, hwz⟩
    · simp [Value.cells] at hcs
      obtain ⟨rfl, rfl, rfl⟩ := hcs
      exact ⟨[], rfl, Nat.le_refl _, Nat.zero_le _, fun n hn => by simp at hn, .inl rfl⟩
    · simp [Value.cells] at hcs
      obtain ⟨rfl, rfl, rfl⟩ := hcs
      exact ArgI.of_open hl hm (by simpa using hz) hcell hwz
  obtain ⟨a2, len2, cap2, rfl⟩ := okWide_slice Try.underlying25 (hval 2 25 v2 rfl rfl)
  have k2 := h2
  have lt2 : ∀ x ∈ p2, x.block < W.heap.size := by obtain ⟨m, hm⟩ := k2; exact DataW.trod_lt m _ _ _ hm
  obtain ⟨z2, w2⟩ : ∃ zs, ArgI W a2 len2 cap2 zs := by
    obtain ⟨fuel, hf⟩ := h2
    rcases open_ints Try.underlying25 Try.underlying3 (by kernel_rfl) hf with ⟨hcs, _⟩ | ⟨x, l, c, zs, hcs, _, hl, hm, hz, _, hcell, hwz⟩
    · simp [Value.cells] at hcs
      obtain ⟨rfl, rfl, rfl⟩ := hcs
      exact ⟨[], rfl, Nat.le_refl _, Nat.zero_le _, fun n hn => by simp at hn, .inl rfl⟩
    · simp [Value.cells] at hcs
      obtain ⟨rfl, rfl, rfl⟩ := hcs
      exact ArgI.of_open hl hm (by simpa using hz) hcell hwz
  clear hA0 hval0
  simp only [List.append_nil] at hW'
  refine (walk a0x a0y a0 len0 cap0 z0 a1 len1 cap1 z1 a2 len2 cap2 z2 W w0 w1 w2).mono fun e W' ⟨he, bel⟩ => ?_
  subst he
  exact ⟨_, rfl, _, _, _, [], _, [], hW', trodAll_mk1 (shut_bool Try.underlying4 _), (trodAll_cons_mk (Below.trod laidOut (by kernel_rfl) (of_decide_eq_true (by kernel_rfl)) k0 bel lt0) (trodAll_cons_mk (Below.trod laidOut (by kernel_rfl) (of_decide_eq_true (by kernel_rfl)) k1 bel lt1) (trodAll_cons_mk (Below.trod laidOut (by kernel_rfl) (of_decide_eq_true (by kernel_rfl)) k2 bel lt2) trodAll_mk0))), rfl, bel.frame _, fun h => by cases h⟩

theorem over : Rows.fnExactBestToOpenRow.holds Try.pinned (OpenSpec.ofChange Rows.fnExactBestToOpenSpec) :=
  OpenClaim.holds_of_wide 9 Try.f9 rfl rfl rfl rfl rfl rfl rfl ⟨rfl, rfl, rfl, rfl, rfl⟩ rfl rfl rfl rfl rfl (by kernel_rfl) Try.func9 (by kernel_rfl)
    (of_decide_eq_true (by kernel_rfl)) (by unfold Func.isWrapper; first | (rw [if_pos (by decide +kernel)]; kernel_rfl) | (rw [if_neg (by decide +kernel)]; exact ⟨rfl, rfl⟩))
    (fun os started H enc _ => lifted os started H enc)

/-- The statement. -/
theorem proved : Rows.FnExactBestToOpenSaid :=
  over
#print axioms proved
end Go.Proofs.Ytkgfbdbhllakoaa.fnExactBestToOpen
