/-
  'FnExactNeededBlocks' answers true at every argument and leaves its arguments as they were: the function of the program and its model give the same results.
-/
import Derived.Test.YtnpkhoiblemodaaRows
import Derived.WalkKit
import Derived.ProofKit
import Derived.OpenShut
import Derived.Lib.SmallJoins
import Derived.Carry
import Derived.Test.YtnpkhoiblemodaaFr
import Derived.Test.YtnpkhoiblemodaaNbP
import Derived.Test.YtnpkhoiblemodaaArgs
import Derived.Test.YtnpkhoiblemodaaArgsB
import Derived.Test.YtnpkhoiblemodaaCtK
namespace Go.Proofs.Ytnpkhoiblemodaa.fnExactNeededBlocks
open Go.ChangeShapes Go.WideShapes Go.ChangeAt Go.RowKit Go.Joins
open Go.WideMaps Go.WideElems
open Go.ChangeMaps (setBlock shut_map_nil open_string shut_string keptBut_setBlock frozen?_setBlock heap_setBlock_same)
set_option linter.unusedVariables false
set_option linter.unusedSimpArgs false

theorem own : ownKnob Try.prog.godebug = none := by kernel_rfl
theorem laidOut : laidOutB Try.prog = true := by kernel_rfl

set_option maxRecDepth 100000 in
set_option maxHeartbeats 1000000 in
theorem walk (a0x a0y : Int) (a0 : Option Addr) (len0 cap0 : Nat) (z0 : List Av.Blk) (a1 : Option Addr) (len1 cap1 : Nat) (z1 : List Int) (a2 : Option Addr) (len2 cap2 : Nat) (z2 : List Int) (w : World) (w0 : ArgB w a0 len0 cap0 z0) (w1 : ArgI w a1 len1 cap1 z1) (w2 : ArgI w a2 len2 cap2 z2) :
    Calls Try.prog 5 #[.agg #[.int .i64 a0x, .int .i64 a0y, .slice a0 len0 cap0], .slice a1 len1 cap1, .slice a2 len2 cap2] w fun e w' => e = .returned (.bool true) ∧ Below w.heap.size w w' := by
  have wl0 : len0 ≤ maxLen := Nat.le_trans w0.2.1 w0.2.2.1
  by_cases hs1 : len1 ≤ 1048576
  case neg =>
    have zz : (1048576 : Int) < (len1 : Int) := by omega
    clear w0 w1 w2
    go_enter Try.func5, Try.ntmps5
    go_wp2
    go_ret
    exact ⟨rfl, Gr.below (by repeat (first | exact Gr.refl _ | refine Gr.alloc ?_ _ | refine Gr.trans ?_ (by assumption) | refine Gr.drew ?_ | refine Gr.drewN ?_ _ | refine Gr.grow ?_ _ | refine Gr.setCell ?_ (by (try simp); (try omega)) _))⟩
  by_cases hs2 : len2 ≤ 1048576
  case neg =>
    have zz : (1048576 : Int) < (len2 : Int) := by omega
    have z1' : ¬ (1048576 : Int) < (len1 : Int) := by omega
    clear w0 w1 w2
    go_enter Try.func5, Try.ntmps5
    go_wp2
    go_ret
    exact ⟨rfl, Gr.below (by repeat (first | exact Gr.refl _ | refine Gr.alloc ?_ _ | refine Gr.trans ?_ (by assumption) | refine Gr.drew ?_ | refine Gr.drewN ?_ _ | refine Gr.grow ?_ _ | refine Gr.setCell ?_ (by (try simp); (try omega)) _))⟩
  have z1' : ¬ (1048576 : Int) < (len1 : Int) := by omega
  have z2' : ¬ (1048576 : Int) < (len2 : Int) := by omega
  by_cases hsum : len0 ≤ 1048576
  case neg =>
    have SZ := Lib.hid (fun (w : World) => Try.szCity w a0x a0y a0 len0 cap0 wl0)
    rw [if_pos (by omega)] at SZ
    clear w0 w1 w2
    go_enter Try.func5, Try.ntmps5
    go_wp2_with (first | (go_at_call 7; refine (SZ.out _).mono ?_; rintro e w1 ⟨rfl, hbW⟩; have hcW := (bcell hbW.below).1; have hfW := (bcell hbW.below).2; (try have hzW : w.heap.size < w1.heap.size := by have hq := hbW.below.size; (try simp at hq); omega); (try have hyW : w.heap.size + 1 < w1.heap.size := by have hq := hbW.below.size; (try simp at hq); omega); (try have hxW : w.heap.size + 2 < w1.heap.size := by have hq := hbW.below.size; (try simp at hq); omega)))
    go_ret
    exact ⟨rfl, Gr.below (by repeat (first | exact Gr.refl _ | refine Gr.alloc ?_ _ | refine Gr.trans ?_ (by assumption) | refine Gr.drew ?_ | refine Gr.drewN ?_ _ | refine Gr.grow ?_ _ | refine Gr.setCell ?_ (by (try simp); (try omega)) _))⟩
  have zl0 : z0.length ≤ 1048576 := by have := w0.1; omega
  have zl1 : z1.length ≤ 1048576 := by have := w1.1; omega
  have zl2 : z2.length ≤ 1048576 := by have := w2.1; omega
  have HS := Lib.hid (fun (w : World) B v h B1 v1 h1 B2 v2 h2 => Try.sNeededBlocks w a0x a0y B v z0 B1 v1 z1 B2 v2 z2 (nbL a0x a0y z0 z1 z2) (cdB a0x a0y z0 z1 z2) rfl rfl zl0 h h1 h2)
  have HI := Lib.hid (fun (w : World) B v h B1 v1 h1 B2 v2 h2 => Try.iNeededBlocks w a0x a0y B v z0 B1 v1 z1 B2 v2 z2 (nbL a0x a0y z0 z1 z2) (cdB a0x a0y z0 z1 z2) rfl rfl zl0 h h1 h2)
  have hlen0 : (nbL a0x a0y z0 z1 z2).length ≤ 1000000000 := by have := nbL_len a0x a0y z0 z1 z2; omega
  generalize nbL a0x a0y z0 z1 z2 = xs at *
  generalize cdB a0x a0y z0 z1 z2 = b at *
  have SZ := Lib.hid (fun (w : World) => Try.szCity w a0x a0y a0 len0 cap0 wl0)
  rw [if_neg (by omega)] at SZ
  have zz : ¬ (1048576 : Int) - (len0 : Int) < 0 := by omega
  have WA0 := Lib.hid w0
  have HL0 := Lib.hid hsum
  have WA1 := Lib.hid w1
  have HL1 := Lib.hid hs1
  have WA2 := Lib.hid w2
  have HL2 := Lib.hid hs2
  clear w0 w1 w2
  go_enter Try.func5, Try.ntmps5
  go_wp2_with (first | (go_at_call 7; refine (SZ.out _).mono ?_; rintro e w1 ⟨rfl, g1⟩; have B1 : Below w.heap.size w w1 := (show Gr w w1 from (by repeat (first | exact Gr.refl _ | refine Gr.alloc ?_ _ | refine Gr.trans ?_ (by assumption) | refine Gr.drew ?_ | refine Gr.drewN ?_ _ | refine Gr.grow ?_ _ | refine Gr.setCell ?_ (by (try simp); (try omega)) _))).below; have g2 : Gr (w.alloc (.cells #[.int .i64 a0x, .int .i64 a0y, .slice a0 len0 cap0] 24)) w1 := (by repeat (first | exact Gr.refl _ | refine Gr.alloc ?_ _ | refine Gr.trans ?_ (by assumption) | refine Gr.drew ?_ | refine Gr.drewN ?_ _ | refine Gr.grow ?_ _ | refine Gr.setCell ?_ (by (try simp); (try omega)) _)); have e0 : w1.cell? ⟨w.heap.size, 0, none⟩ = some (.int .i64 a0x) := g2.keep0 (by simp [go_sem]); have e1 : w1.cell? ⟨w.heap.size, 1, none⟩ = some (.int .i64 a0y) := g2.keep0 (by simp [go_sem]); have e2 : w1.cell? ⟨w.heap.size, 2, none⟩ = some (.slice a0 len0 cap0) := g2.keep0 (by simp [go_sem])))
  have sB1 := B1.size
  have sB2 : w.heap.size < w1.heap.size := World.block_lt_of_cell? _ _ e0
  refine (Try.toCity _ _ _ _ _ _ _ HL0.out (ArgE.below WA0.out B1)).mono ?_
  rintro e wv1 ⟨v1, rfl, c1, d1⟩
  obtain ⟨A1, u1, rfl, c1⟩ := OwnE.eta c1
  have f2_0 := cell_k2 (d1) e0
  have f2_1 := cell_k2 (d1) e1
  have f2_2 := cell_k2 (d1) e2
  clear e0 e1 e2
  have D2 := B1.trans ((d1).mono B1.size)
  have s2 := (d1).size
  have Fr1 := c1
  go_wp2_with fail
  refine (Try.toIntS _ _ _ _ _ HL1.out (ArgI.below WA1.out D2)).mono ?_
  rintro e wv3 ⟨v3, rfl, c3, d3⟩
  have f4_0 := cell_k2 (d3) f2_0
  have f4_1 := cell_k2 (d3) f2_1
  have f4_2 := cell_k2 (d3) f2_2
  clear f2_0 f2_1 f2_2
  have o4_r1 := OwnE.below c1 (d3) (Nat.le_refl _)
  have D4 := D2.trans ((d3).mono D2.size)
  have s4 := (d3).size
  have Fr2 := c3
  go_wp2_with fail
  refine (Try.toIntS _ _ _ _ _ HL2.out (ArgI.below WA2.out D4)).mono ?_
  rintro e wv5 ⟨v5, rfl, c5, d5⟩
  have f6_0 := cell_k2 (d5) f4_0
  have f6_1 := cell_k2 (d5) f4_1
  have f6_2 := cell_k2 (d5) f4_2
  clear f4_0 f4_1 f4_2
  have o6_r1 := OwnE.below o4_r1 (d5) (Nat.le_refl _)
  have o6_r2 := OwnI.below c3 (d5) (Nat.le_refl _)
  have D6 := D4.trans ((d5).mono D4.size)
  have s6 := (d5).size
  have Fr3 := c5
  go_wp2_with fail
  refine (HS.out _ _ _ o6_r1 _ _ o6_r2 _ _ c5).mono ?_
  rintro e wC7 ⟨vC7_0, rfl, cC7_0, dC7⟩
  have f8_0 := cell_k2 (dC7) f6_0
  have f8_1 := cell_k2 (dC7) f6_1
  have f8_2 := cell_k2 (dC7) f6_2
  clear f6_0 f6_1 f6_2
  have o8_r1 := OwnE.below o6_r1 (dC7) (Nat.le_refl _)
  have o8_r2 := OwnI.below o6_r2 (dC7) (Nat.le_refl _)
  have o8_r3 := OwnI.below c5 (dC7) (Nat.le_refl _)
  have D8 := D6.trans ((dC7).mono D6.size)
  have s8 := (dC7).size
  obtain ⟨AC7_0, uC7_0, rfl, cC7_0⟩ := OwnE.eta cC7_0
  have Fr4 := cC7_0
  go_wp2_with fail
  refine (Try.toCity _ _ _ _ _ _ _ HL0.out (ArgE.below WA0.out D8)).mono ?_
  rintro e wv9 ⟨v9, rfl, c9, d9⟩
  obtain ⟨A9, u9, rfl, c9⟩ := OwnE.eta c9
  have f10_0 := cell_k2 (d9) f8_0
  have f10_1 := cell_k2 (d9) f8_1
  have f10_2 := cell_k2 (d9) f8_2
  clear f8_0 f8_1 f8_2
  have o10_r4 := OwnE.below cC7_0 (d9) (Nat.le_refl _)
  have D10 := D8.trans ((d9).mono D8.size)
  have s10 := (d9).size
  have Fr5 := c9
  have g11 := Gr.alloc (Gr.refl wv9) (.cells #[.int .i64 a0x, .int .i64 a0y, .slice A9 z0.length u9] 30)
  have f12_0 := cell_k2 (g11.below) f10_0
  have f12_1 := cell_k2 (g11.below) f10_1
  have f12_2 := cell_k2 (g11.below) f10_2
  clear f10_0 f10_1 f10_2
  have o12_r4 := OwnE.below o10_r4 (g11.below) (Nat.le_refl _)
  have o12_r5 := OwnE.below c9 (g11.below) (Nat.le_refl _)
  have D12 := D10.trans ((g11.below).mono D10.size)
  have s12 := (g11.below).size
  have h11_0 : (wv9.alloc (.cells #[.int .i64 a0x, .int .i64 a0y, .slice A9 z0.length u9] 30)).cell? ⟨wv9.heap.size, 0, none⟩ = some (.int .i64 a0x) := by simp [go_sem]
  have h11_1 : (wv9.alloc (.cells #[.int .i64 a0x, .int .i64 a0y, .slice A9 z0.length u9] 30)).cell? ⟨wv9.heap.size, 1, none⟩ = some (.int .i64 a0y) := by simp [go_sem]
  have h11_2 : (wv9.alloc (.cells #[.int .i64 a0x, .int .i64 a0y, .slice A9 z0.length u9] 30)).cell? ⟨wv9.heap.size, 2, none⟩ = some (.slice A9 z0.length u9) := by simp [go_sem]
  go_wp2_with fail
  refine (Try.toIntS _ _ _ _ _ HL1.out (ArgI.below WA1.out D12)).mono ?_
  rintro e wv13 ⟨v13, rfl, c13, d13⟩
  have f14_0 := cell_k2 (d13) f12_0
  have f14_1 := cell_k2 (d13) f12_1
  have f14_2 := cell_k2 (d13) f12_2
  have f14_3 := cell_k2 (d13) h11_0
  have f14_4 := cell_k2 (d13) h11_1
  have f14_5 := cell_k2 (d13) h11_2
  clear f12_0 f12_1 f12_2 h11_0 h11_1 h11_2
  have o14_r4 := OwnE.below o12_r4 (d13) (Nat.le_refl _)
  have o14_r5 := OwnE.below o12_r5 (d13) (Nat.le_refl _)
  have D14 := D12.trans ((d13).mono D12.size)
  have s14 := (d13).size
  have Fr6 := c13
  go_wp2_with fail
  refine (Try.toIntS _ _ _ _ _ HL2.out (ArgI.below WA2.out D14)).mono ?_
  rintro e wv15 ⟨v15, rfl, c15, d15⟩
  have f16_0 := cell_k2 (d15) f14_0
  have f16_1 := cell_k2 (d15) f14_1
  have f16_2 := cell_k2 (d15) f14_2
  have f16_3 := cell_k2 (d15) f14_3
  have f16_4 := cell_k2 (d15) f14_4
  have f16_5 := cell_k2 (d15) f14_5
  clear f14_0 f14_1 f14_2 f14_3 f14_4 f14_5
  have o16_r4 := OwnE.below o14_r4 (d15) (Nat.le_refl _)
  have o16_r5 := OwnE.below o14_r5 (d15) (Nat.le_refl _)
  have o16_r6 := OwnI.below c13 (d15) (Nat.le_refl _)
  have D16 := D14.trans ((d15).mono D14.size)
  have s16 := (d15).size
  have Fr7 := c15
  go_wp2_with fail
  refine (HI.out _ _ _ o16_r5 _ _ o16_r6 _ _ c15).mono ?_
  rintro e wC17 ⟨vC17_0, rfl, cC17_0, dC17⟩
  have f18_0 := cell_k2 (dC17) f16_0
  have f18_1 := cell_k2 (dC17) f16_1
  have f18_2 := cell_k2 (dC17) f16_2
  have f18_3 := cell_k2 (dC17) f16_3
  have f18_4 := cell_k2 (dC17) f16_4
  have f18_5 := cell_k2 (dC17) f16_5
  clear f16_0 f16_1 f16_2 f16_3 f16_4 f16_5
  have o18_r4 := OwnE.below o16_r4 (dC17) (Nat.le_refl _)
  have o18_r5 := OwnE.below o16_r5 (dC17) (Nat.le_refl _)
  have o18_r6 := OwnI.below o16_r6 (dC17) (Nat.le_refl _)
  have o18_r7 := OwnI.below c15 (dC17) (Nat.le_refl _)
  have D18 := D16.trans ((dC17).mono D16.size)
  have s18 := (dC17).size
  obtain ⟨AC17_0, uC17_0, rfl, cC17_0⟩ := OwnE.eta cC17_0
  have Fr8 := cC17_0
  go_wp2_with fail
  refine (Try.eqBlockS _ _ _ _ _ _ cC17_0 o18_r4).mono ?_
  rintro e wE19 ⟨rfl, dE19⟩
  have f20_0 := cell_k2 (dE19.below) f18_0
  have f20_1 := cell_k2 (dE19.below) f18_1
  have f20_2 := cell_k2 (dE19.below) f18_2
  have f20_3 := cell_k2 (dE19.below) f18_3
  have f20_4 := cell_k2 (dE19.below) f18_4
  have f20_5 := cell_k2 (dE19.below) f18_5
  clear f18_0 f18_1 f18_2 f18_3 f18_4 f18_5
  have o20_r4 := OwnE.below o18_r4 (dE19.below) (Nat.le_refl _)
  have o20_r5 := OwnE.below o18_r5 (dE19.below) (Nat.le_refl _)
  have o20_r6 := OwnI.below o18_r6 (dE19.below) (Nat.le_refl _)
  have o20_r7 := OwnI.below o18_r7 (dE19.below) (Nat.le_refl _)
  have o20_r8 := OwnE.below cC17_0 (dE19.below) (Nat.le_refl _)
  have D20 := D18.trans ((dE19.below).mono D18.size)
  have s20 := (dE19.below).size
  go_upto_region 16 with fail
  go_region_held3 (fun W' => W'.cell? ⟨w.heap.size, 0, none⟩ = some (.int .i64 a0x) ∧ W'.cell? ⟨w.heap.size, 1, none⟩ = some (.int .i64 a0y) ∧ W'.cell? ⟨w.heap.size, 2, none⟩ = some (.slice a0 len0 cap0) ∧ W'.cell? ⟨wv9.heap.size, 0, none⟩ = some (.int .i64 a0x) ∧ W'.cell? ⟨wv9.heap.size, 1, none⟩ = some (.int .i64 a0y) ∧ W'.cell? ⟨wv9.heap.size, 2, none⟩ = some (.slice A9 z0.length u9))
    (first | exact ⟨f20_0, f20_1, f20_2, f20_3, f20_4, f20_5⟩ | exact ⟨cell_k2 (Below.drew (Below.refl _ _)) f20_0, cell_k2 (Below.drew (Below.refl _ _)) f20_1, cell_k2 (Below.drew (Below.refl _ _)) f20_2, cell_k2 (Below.drew (Below.refl _ _)) f20_3, cell_k2 (Below.drew (Below.refl _ _)) f20_4, cell_k2 (Below.drew (Below.refl _ _)) f20_5⟩ | exact keep6 dA21 (by assumption) | exact keep6 dE21.below (by assumption))
    ((first | (go_at_call 9; refine (Try.toCity _ _ _ _ _ _ _ HL0.out (ArgE.below WA0.out (by first | exact D20 | exact Below.drew D20))).mono ?_; rintro e wA21 ⟨vA21, rfl, cA21, dA21⟩) | (go_at_call 12; refine (Try.eqCity _ _ _ _ _ _ _ _ (OwnE.below (by first | exact o20_r5 | exact OwnE.below o20_r5 (Below.drew (Below.refl _ _)) (Nat.le_refl _)) dA21 (Nat.le_refl _)) cA21).mono ?_; rintro e wE21 ⟨rfl, dE21⟩)))
  have f22_0 := cell_k2 ((show Below wE19.heap.size wE19 _ by first | exact dA21 | exact Below.trans (Below.drew (Below.refl _ _)) dA21)) f20_0
  have f22_1 := cell_k2 ((show Below wE19.heap.size wE19 _ by first | exact dA21 | exact Below.trans (Below.drew (Below.refl _ _)) dA21)) f20_1
  have f22_2 := cell_k2 ((show Below wE19.heap.size wE19 _ by first | exact dA21 | exact Below.trans (Below.drew (Below.refl _ _)) dA21)) f20_2
  have f22_3 := cell_k2 ((show Below wE19.heap.size wE19 _ by first | exact dA21 | exact Below.trans (Below.drew (Below.refl _ _)) dA21)) f20_3
  have f22_4 := cell_k2 ((show Below wE19.heap.size wE19 _ by first | exact dA21 | exact Below.trans (Below.drew (Below.refl _ _)) dA21)) f20_4
  have f22_5 := cell_k2 ((show Below wE19.heap.size wE19 _ by first | exact dA21 | exact Below.trans (Below.drew (Below.refl _ _)) dA21)) f20_5
  clear f20_0 f20_1 f20_2 f20_3 f20_4 f20_5
  have o22_r4 := OwnE.below o20_r4 ((show Below wE19.heap.size wE19 _ by first | exact dA21 | exact Below.trans (Below.drew (Below.refl _ _)) dA21)) (Nat.le_refl _)
  have o22_r5 := OwnE.below o20_r5 ((show Below wE19.heap.size wE19 _ by first | exact dA21 | exact Below.trans (Below.drew (Below.refl _ _)) dA21)) (Nat.le_refl _)
  have o22_r6 := OwnI.below o20_r6 ((show Below wE19.heap.size wE19 _ by first | exact dA21 | exact Below.trans (Below.drew (Below.refl _ _)) dA21)) (Nat.le_refl _)
  have o22_r7 := OwnI.below o20_r7 ((show Below wE19.heap.size wE19 _ by first | exact dA21 | exact Below.trans (Below.drew (Below.refl _ _)) dA21)) (Nat.le_refl _)
  have o22_r8 := OwnE.below o20_r8 ((show Below wE19.heap.size wE19 _ by first | exact dA21 | exact Below.trans (Below.drew (Below.refl _ _)) dA21)) (Nat.le_refl _)
  have D22 := D20.trans (((show Below wE19.heap.size wE19 _ by first | exact dA21 | exact Below.trans (Below.drew (Below.refl _ _)) dA21)).mono D20.size)
  have s22 := ((show Below wE19.heap.size wE19 _ by first | exact dA21 | exact Below.trans (Below.drew (Below.refl _ _)) dA21)).size
  have f23_0 := cell_k2 (dE21.below) f22_0
  have f23_1 := cell_k2 (dE21.below) f22_1
  have f23_2 := cell_k2 (dE21.below) f22_2
  have f23_3 := cell_k2 (dE21.below) f22_3
  have f23_4 := cell_k2 (dE21.below) f22_4
  have f23_5 := cell_k2 (dE21.below) f22_5
  clear f22_0 f22_1 f22_2 f22_3 f22_4 f22_5
  have o23_r4 := OwnE.below o22_r4 (dE21.below) (Nat.le_refl _)
  have o23_r5 := OwnE.below o22_r5 (dE21.below) (Nat.le_refl _)
  have o23_r6 := OwnI.below o22_r6 (dE21.below) (Nat.le_refl _)
  have o23_r7 := OwnI.below o22_r7 (dE21.below) (Nat.le_refl _)
  have o23_r8 := OwnE.below o22_r8 (dE21.below) (Nat.le_refl _)
  have D23 := D22.trans ((dE21.below).mono D22.size)
  have s23 := (dE21.below).size
  go_wp2_with fail
  refine (Try.toIntS _ _ _ _ _ HL1.out (ArgI.below WA1.out D23)).mono ?_
  rintro e wv24 ⟨v24, rfl, c24, d24⟩
  have f25_0 := cell_k2 (d24) f23_0
  have f25_1 := cell_k2 (d24) f23_1
  have f25_2 := cell_k2 (d24) f23_2
  have f25_3 := cell_k2 (d24) f23_3
  have f25_4 := cell_k2 (d24) f23_4
  have f25_5 := cell_k2 (d24) f23_5
  clear f23_0 f23_1 f23_2 f23_3 f23_4 f23_5
  have o25_r4 := OwnE.below o23_r4 (d24) (Nat.le_refl _)
  have o25_r5 := OwnE.below o23_r5 (d24) (Nat.le_refl _)
  have o25_r6 := OwnI.below o23_r6 (d24) (Nat.le_refl _)
  have o25_r7 := OwnI.below o23_r7 (d24) (Nat.le_refl _)
  have o25_r8 := OwnE.below o23_r8 (d24) (Nat.le_refl _)
  have D25 := D23.trans ((d24).mono D23.size)
  have s25 := (d24).size
  have Fr9 := c24
  go_wp2_with fail
  refine (Try.eqIntS _ _ _ _ _ _ o25_r6 c24).mono ?_
  rintro e wE26 ⟨rfl, dE26⟩
  have f27_0 := cell_k2 (dE26.below) f25_0
  have f27_1 := cell_k2 (dE26.below) f25_1
  have f27_2 := cell_k2 (dE26.below) f25_2
  have f27_3 := cell_k2 (dE26.below) f25_3
  have f27_4 := cell_k2 (dE26.below) f25_4
  have f27_5 := cell_k2 (dE26.below) f25_5
  clear f25_0 f25_1 f25_2 f25_3 f25_4 f25_5
  have o27_r4 := OwnE.below o25_r4 (dE26.below) (Nat.le_refl _)
  have o27_r5 := OwnE.below o25_r5 (dE26.below) (Nat.le_refl _)
  have o27_r6 := OwnI.below o25_r6 (dE26.below) (Nat.le_refl _)
  have o27_r7 := OwnI.below o25_r7 (dE26.below) (Nat.le_refl _)
  have o27_r8 := OwnE.below o25_r8 (dE26.below) (Nat.le_refl _)
  have o27_r9 := OwnI.below c24 (dE26.below) (Nat.le_refl _)
  have D27 := D25.trans ((dE26.below).mono D25.size)
  have s27 := (dE26.below).size
  go_wp2_with fail
  refine (Try.toIntS _ _ _ _ _ HL2.out (ArgI.below WA2.out D27)).mono ?_
  rintro e wv28 ⟨v28, rfl, c28, d28⟩
  have f29_0 := cell_k2 (d28) f27_0
  have f29_1 := cell_k2 (d28) f27_1
  have f29_2 := cell_k2 (d28) f27_2
  have f29_3 := cell_k2 (d28) f27_3
  have f29_4 := cell_k2 (d28) f27_4
  have f29_5 := cell_k2 (d28) f27_5
  clear f27_0 f27_1 f27_2 f27_3 f27_4 f27_5
  have o29_r4 := OwnE.below o27_r4 (d28) (Nat.le_refl _)
  have o29_r5 := OwnE.below o27_r5 (d28) (Nat.le_refl _)
  have o29_r6 := OwnI.below o27_r6 (d28) (Nat.le_refl _)
  have o29_r7 := OwnI.below o27_r7 (d28) (Nat.le_refl _)
  have o29_r8 := OwnE.below o27_r8 (d28) (Nat.le_refl _)
  have D29 := D27.trans ((d28).mono D27.size)
  have s29 := (d28).size
  have Fr10 := c28
  go_wp2_with fail
  refine (Try.eqIntS _ _ _ _ _ _ o29_r7 c28).mono ?_
  rintro e wE30 ⟨rfl, dE30⟩
  have f31_0 := cell_k2 (dE30.below) f29_0
  have f31_1 := cell_k2 (dE30.below) f29_1
  have f31_2 := cell_k2 (dE30.below) f29_2
  have f31_3 := cell_k2 (dE30.below) f29_3
  have f31_4 := cell_k2 (dE30.below) f29_4
  have f31_5 := cell_k2 (dE30.below) f29_5
  clear f29_0 f29_1 f29_2 f29_3 f29_4 f29_5
  have o31_r4 := OwnE.below o29_r4 (dE30.below) (Nat.le_refl _)
  have o31_r5 := OwnE.below o29_r5 (dE30.below) (Nat.le_refl _)
  have o31_r6 := OwnI.below o29_r6 (dE30.below) (Nat.le_refl _)
  have o31_r7 := OwnI.below o29_r7 (dE30.below) (Nat.le_refl _)
  have o31_r8 := OwnE.below o29_r8 (dE30.below) (Nat.le_refl _)
  have o31_r10 := OwnI.below c28 (dE30.below) (Nat.le_refl _)
  have D31 := D29.trans ((dE30.below).mono D29.size)
  have s31 := (dE30.below).size
  go_wp2_with fail
  refine (Try.markCity _ _ _ _ _ _ ((Nat.le_trans (by have := WA0.out.1; have := HL0.out; omega) (show 1048576 ≤ 1000000000 by decide))) o31_r5).mono ?_
  rintro e wM32 ⟨rfl, cM32, dM32⟩
  have s32 := dM32.size
  have o32_r4 := OwnE.grown o31_r4 dM32 (own_ne' Fr4 Fr5 (by omega))
  have o32_r6 := OwnI.grown o31_r6 dM32 (own_ne Fr6 Fr5 (by omega))
  have o32_r7 := OwnI.grown o31_r7 dM32 (own_ne Fr7 Fr5 (by omega))
  have o32_r8 := OwnE.grown o31_r8 dM32 (own_ne Fr8 Fr5 (by omega))
  have f32_0 := cell_gb dM32 f31_0 (fun e => by have := (World.ownsRow.lt Fr5 _ e.symm).1; omega)
  have f32_1 := cell_gb dM32 f31_1 (fun e => by have := (World.ownsRow.lt Fr5 _ e.symm).1; omega)
  have f32_2 := cell_gb dM32 f31_2 (fun e => by have := (World.ownsRow.lt Fr5 _ e.symm).1; omega)
  clear f31_0 f31_1 f31_2
  have b32 := Below.grown (Below.refl w.heap.size _) dM32 (by omega) (fun j hj => by have := (World.ownsRow.lt Fr5 j hj).1; omega)
  have D32 := D31.trans b32
  clear f31_3 f31_4 f31_5
  have lz0 : ((z0).length : Int) ≤ 1048576 := by have := WA0.out.1; have := HL0.out; omega
  go_wp2_with fail
  refine (Try.markIntM _ _ _ _ (1 + 3 * ((z0).length : Int)) (by omega) (by omega) ((Nat.le_trans (by have := WA1.out.1; have := HL1.out; omega) (show 1048576 ≤ 1000000000 by decide))) o32_r6).mono ?_
  rintro e wM33 ⟨rfl, cM33, dM33⟩
  have s33 := dM33.size
  have o33_r4 := OwnE.grown o32_r4 dM33 (own_ne' Fr4 Fr6 (by omega))
  have o33_r5 := OwnE.grown cM32 dM33 (own_ne' Fr5 Fr6 (by omega))
  have o33_r7 := OwnI.grown o32_r7 dM33 (own_ne Fr7 Fr6 (by omega))
  have o33_r8 := OwnE.grown o32_r8 dM33 (own_ne Fr8 Fr6 (by omega))
  have f33_0 := cell_gb dM33 f32_0 (fun e => by have := (World.ownsRow.lt Fr6 _ e.symm).1; omega)
  have f33_1 := cell_gb dM33 f32_1 (fun e => by have := (World.ownsRow.lt Fr6 _ e.symm).1; omega)
  have f33_2 := cell_gb dM33 f32_2 (fun e => by have := (World.ownsRow.lt Fr6 _ e.symm).1; omega)
  clear f32_0 f32_1 f32_2
  have b33 := Below.grown (Below.refl w.heap.size _) dM33 (by omega) (fun j hj => by have := (World.ownsRow.lt Fr6 j hj).1; omega)
  have D33 := D32.trans b33
  have lz1 : ((z1).length : Int) ≤ 1048576 := by have := WA1.out.1; have := HL1.out; omega
  go_wp2_with fail
  refine (Try.markIntM _ _ _ _ (1 + 3 * ((z0).length : Int) + ((z1).length : Int)) (by omega) (by omega) ((Nat.le_trans (by have := WA2.out.1; have := HL2.out; omega) (show 1048576 ≤ 1000000000 by decide))) o33_r7).mono ?_
  rintro e wM34 ⟨rfl, cM34, dM34⟩
  have s34 := dM34.size
  have o34_r4 := OwnE.grown o33_r4 dM34 (own_ne' Fr4 Fr7 (by omega))
  have o34_r5 := OwnE.grown o33_r5 dM34 (own_ne' Fr5 Fr7 (by omega))
  have o34_r6 := OwnI.grown cM33 dM34 (own_ne' Fr6 Fr7 (by omega))
  have o34_r8 := OwnE.grown o33_r8 dM34 (own_ne Fr8 Fr7 (by omega))
  have f34_0 := cell_gb dM34 f33_0 (fun e => by have := (World.ownsRow.lt Fr7 _ e.symm).1; omega)
  have f34_1 := cell_gb dM34 f33_1 (fun e => by have := (World.ownsRow.lt Fr7 _ e.symm).1; omega)
  have f34_2 := cell_gb dM34 f33_2 (fun e => by have := (World.ownsRow.lt Fr7 _ e.symm).1; omega)
  clear f33_0 f33_1 f33_2
  have b34 := Below.grown (Below.refl w.heap.size _) dM34 (by omega) (fun j hj => by have := (World.ownsRow.lt Fr7 j hj).1; omega)
  have D34 := D33.trans b34
  have lz2 : ((z2).length : Int) ≤ 1048576 := by have := WA2.out.1; have := HL2.out; omega
  go_wp2_with fail
  refine (Try.eqBlockS _ _ _ _ _ _ o34_r8 o34_r4).mono ?_
  rintro e wE35 ⟨rfl, dE35⟩
  have f36_0 := cell_k2 (dE35.below) f34_0
  have f36_1 := cell_k2 (dE35.below) f34_1
  have f36_2 := cell_k2 (dE35.below) f34_2
  clear f34_0 f34_1 f34_2
  have o36_r4 := OwnE.below o34_r4 (dE35.below) (Nat.le_refl _)
  have o36_r5 := OwnE.below o34_r5 (dE35.below) (Nat.le_refl _)
  have o36_r6 := OwnI.below o34_r6 (dE35.below) (Nat.le_refl _)
  have o36_r7 := OwnI.below cM34 (dE35.below) (Nat.le_refl _)
  have o36_r8 := OwnE.below o34_r8 (dE35.below) (Nat.le_refl _)
  have D36 := D34.trans ((dE35.below).mono D34.size)
  have s36 := (dE35.below).size
  go_wp2_with fail
  refine (Try.markBlockS _ _ _ _ (hlen0) o36_r8).mono ?_
  rintro e wM37 ⟨rfl, cM37, dM37⟩
  have s37 := dM37.size
  have o37_r4 := OwnE.grown o36_r4 dM37 (own_ne' Fr4 Fr8 (by omega))
  have o37_r5 := OwnE.grown o36_r5 dM37 (own_ne' Fr5 Fr8 (by omega))
  have o37_r6 := OwnI.grown o36_r6 dM37 (own_ne' Fr6 Fr8 (by omega))
  have o37_r7 := OwnI.grown o36_r7 dM37 (own_ne' Fr7 Fr8 (by omega))
  have f37_0 := cell_gb dM37 f36_0 (fun e => by have := (World.ownsRow.lt Fr8 _ e.symm).1; omega)
  have f37_1 := cell_gb dM37 f36_1 (fun e => by have := (World.ownsRow.lt Fr8 _ e.symm).1; omega)
  have f37_2 := cell_gb dM37 f36_2 (fun e => by have := (World.ownsRow.lt Fr8 _ e.symm).1; omega)
  clear f36_0 f36_1 f36_2
  have b37 := Below.grown (Below.refl w.heap.size _) dM37 (by omega) (fun j hj => by have := (World.ownsRow.lt Fr8 j hj).1; omega)
  have D37 := D36.trans b37
  go_wp2_with fail
  refine (Try.heldBlockS _ _ _ _ (hlen0) cM37).mono ?_
  rintro e wH38 ⟨rfl, rfl⟩
  go_wp2_with fail
  refine (Try.toCity _ _ _ _ _ _ _ HL0.out (ArgE.below WA0.out D37)).mono ?_
  rintro e wv39 ⟨v39, rfl, c39, d39⟩
  obtain ⟨A39, u39, rfl, c39⟩ := OwnE.eta c39
  have f40_0 := cell_k2 (d39) f37_0
  have f40_1 := cell_k2 (d39) f37_1
  have f40_2 := cell_k2 (d39) f37_2
  clear f37_0 f37_1 f37_2
  have o40_r4 := OwnE.below o37_r4 (d39) (Nat.le_refl _)
  have o40_r8 := OwnE.below cM37 (d39) (Nat.le_refl _)
  have D40 := D37.trans ((d39).mono D37.size)
  have s40 := (d39).size
  have Fr11 := c39
  go_wp2_with fail
  refine (Try.toIntS _ _ _ _ _ HL1.out (ArgI.below WA1.out D40)).mono ?_
  rintro e wv41 ⟨v41, rfl, c41, d41⟩
  have f42_0 := cell_k2 (d41) f40_0
  have f42_1 := cell_k2 (d41) f40_1
  have f42_2 := cell_k2 (d41) f40_2
  clear f40_0 f40_1 f40_2
  have o42_r4 := OwnE.below o40_r4 (d41) (Nat.le_refl _)
  have o42_r8 := OwnE.below o40_r8 (d41) (Nat.le_refl _)
  have o42_r11 := OwnE.below c39 (d41) (Nat.le_refl _)
  have D42 := D40.trans ((d41).mono D40.size)
  have s42 := (d41).size
  have Fr12 := c41
  go_wp2_with fail
  refine (Try.toIntS _ _ _ _ _ HL2.out (ArgI.below WA2.out D42)).mono ?_
  rintro e wv43 ⟨v43, rfl, c43, d43⟩
  have f44_0 := cell_k2 (d43) f42_0
  have f44_1 := cell_k2 (d43) f42_1
  have f44_2 := cell_k2 (d43) f42_2
  clear f42_0 f42_1 f42_2
  have o44_r4 := OwnE.below o42_r4 (d43) (Nat.le_refl _)
  have o44_r8 := OwnE.below o42_r8 (d43) (Nat.le_refl _)
  have o44_r11 := OwnE.below o42_r11 (d43) (Nat.le_refl _)
  have o44_r12 := OwnI.below c41 (d43) (Nat.le_refl _)
  have D44 := D42.trans ((d43).mono D42.size)
  have s44 := (d43).size
  have Fr13 := c43
  go_wp2_with fail
  refine (HI.out _ _ _ o44_r11 _ _ o44_r12 _ _ c43).mono ?_
  rintro e wC45 ⟨vC45_0, rfl, cC45_0, dC45⟩
  have f46_0 := cell_k2 (dC45) f44_0
  have f46_1 := cell_k2 (dC45) f44_1
  have f46_2 := cell_k2 (dC45) f44_2
  clear f44_0 f44_1 f44_2
  have o46_r4 := OwnE.below o44_r4 (dC45) (Nat.le_refl _)
  have o46_r8 := OwnE.below o44_r8 (dC45) (Nat.le_refl _)
  have o46_r11 := OwnE.below o44_r11 (dC45) (Nat.le_refl _)
  have o46_r12 := OwnI.below o44_r12 (dC45) (Nat.le_refl _)
  have o46_r13 := OwnI.below c43 (dC45) (Nat.le_refl _)
  have D46 := D44.trans ((dC45).mono D44.size)
  have s46 := (dC45).size
  obtain ⟨AC45_0, uC45_0, rfl, cC45_0⟩ := OwnE.eta cC45_0
  have Fr14 := cC45_0
  go_wp2_with fail
  refine (Try.eqBlockS _ _ _ _ _ _ cC45_0 o46_r4).mono ?_
  rintro e wE47 ⟨rfl, dE47⟩
  have f48_0 := cell_k2 (dE47.below) f46_0
  have f48_1 := cell_k2 (dE47.below) f46_1
  have f48_2 := cell_k2 (dE47.below) f46_2
  clear f46_0 f46_1 f46_2
  have o48_r4 := OwnE.below o46_r4 (dE47.below) (Nat.le_refl _)
  have o48_r8 := OwnE.below o46_r8 (dE47.below) (Nat.le_refl _)
  have o48_r11 := OwnE.below o46_r11 (dE47.below) (Nat.le_refl _)
  have o48_r12 := OwnI.below o46_r12 (dE47.below) (Nat.le_refl _)
  have o48_r13 := OwnI.below o46_r13 (dE47.below) (Nat.le_refl _)
  have o48_r14 := OwnE.below cC45_0 (dE47.below) (Nat.le_refl _)
  have D48 := D46.trans ((dE47.below).mono D46.size)
  have s48 := (dE47.below).size
  go_wp2_with fail
  refine (Try.heldBlockS _ _ _ _ (hlen0) o48_r8).mono ?_
  rintro e wH49 ⟨rfl, rfl⟩
  go_wp2_with fail
  go_ret
  exact ⟨rfl, D48⟩

set_option maxRecDepth 100000 in
theorem lifted (os : Os) (started : os.Started) (H : Type) (enc : TypeId × Value → H) :
    ReturnsInHanded {} Try.checked os 5 .any (Rows.fnExactNeededBlocksSpec.pre6 enc Try.prog Try.f5 Rows.fnExactNeededBlocksRow.domain false) (Rows.fnExactNeededBlocksSpec.post enc Try.prog Try.f5 false true false false) := by
  refine returnsInHanded_of_change (C := Try.checked) own started (by kernel_rfl) Try.func5
    (ChangeSpec.witness6 (enc := enc) (C := Try.checked) false ⟨#[], #[.agg #[.int .i64 0, .int .i64 0, .slice none 0 0], .slice none 0 0, .slice none 0 0], []⟩ 8 (by kernel_rfl) (by kernel_rfl) (by kernel_rfl) (by kernel_rfl)) ?_
  intro W base args ds gs before hval0 hW hcnd _
  have hval : ∀ (j : Nat) t v, Try.f5.params[j]? = some t → args[j]? = some v → Value.okWide Try.prog W .any base t v := hval0
  have hW' := hW
  obtain ⟨p, q, hA0, hV, rfl, hfz, hnd⟩ := hW
  have hA : DataW.TrodAll enc Try.prog W 0 (fun _ => true) true Try.f5.params.toList args.toList ds p := hA0
  rw [Try.params5] at hA hval
  obtain ⟨v0, vs0, d0, ds0, p0, q0, hargs, rfl, rfl, h0, r0⟩ := trodAll_cons hA
  obtain ⟨v1, vs1, d1, ds1, p1, q1, rfl, rfl, rfl, h1, r1⟩ := trodAll_cons r0
  obtain ⟨v2, vs2, d2, ds2, p2, q2, rfl, rfl, rfl, h2, r2⟩ := trodAll_cons r1
  obtain ⟨rfl, rfl, rfl⟩ := trodAll_nil r2
  obtain rfl : args = #[v0, v1, v2] := by cases args; simp_all
  obtain ⟨rfl, rfl⟩ := trodVars_none hV
  have k0 := h0
  have lt0 : ∀ x ∈ p0, x.block < W.heap.size := by obtain ⟨m, hm⟩ := k0; exact DataW.trod_lt m _ _ _ hm
  obtain ⟨c0x, c0y, c0z, y0x, y0y, y0z, m0, rfl, rfl, rfl, hy0x, hy0y, hy0z⟩ := open_agg3 Try.underlying24 (by kernel_rfl) (show Try.prog.cellsOf 24 = 3 by kernel_rfl) (hval 0 24 v0 rfl rfl) h0
  obtain ⟨a0x, e0x, rfl, _⟩ := DataW.trod_int Try.underlying3 hy0x
  obtain ⟨a0y, e0y, rfl, _⟩ := DataW.trod_int Try.underlying3 hy0y
  obtain ⟨a0, len0, cap0, e0z⟩ := slice_form Try.underlying22 hy0z
  simp at e0x e0y e0z
  subst e0x e0y e0z
  obtain ⟨z0, w0⟩ := ArgE.of_trod Av.b0 (by decide) bcs_len Try.underlying22 (by kernel_rfl) (fun n cs x h => block_of_trod Try.underlying26 (by kernel_rfl) rfl rfl rfl (by kernel_rfl) (by kernel_rfl) (by kernel_rfl) Try.underlying3 Try.underlying3 Try.underlying4 n cs x h) hy0z
  obtain ⟨a1, len1, cap1, rfl⟩ := okWide_slice Try.underlying39 (hval 1 39 v1 rfl rfl)
  have k1 := h1
  have lt1 : ∀ x ∈ p1, x.block < W.heap.size := by obtain ⟨m, hm⟩ := k1; exact DataW.trod_lt m _ _ _ hm
  obtain ⟨z1, w1⟩ : ∃ zs, ArgI W a1 len1 cap1 zs := by
    obtain ⟨fuel, hf⟩ := h1
    rcases open_ints Try.underlying39 Try.underlying3 (by kernel_rfl) hf with ⟨hcs, _⟩ | ⟨x, l, c, zs, hcs, _, hl, hm, hz, _, hcell, hwz⟩
    · simp [Value.cells] at hcs
      obtain ⟨rfl, rfl, rfl⟩ := hcs
      exact ⟨[], rfl, Nat.le_refl _, Nat.zero_le _, fun n hn => by simp at hn, .inl rfl⟩
    · simp [Value.cells] at hcs
      obtain ⟨rfl, rfl, rfl⟩ := hcs
      exact ArgI.of_open hl hm (by simpa using hz) hcell hwz
  obtain ⟨a2, len2, cap2, rfl⟩ := okWide_slice Try.underlying39 (hval 2 39 v2 rfl rfl)
  have k2 := h2
  have lt2 : ∀ x ∈ p2, x.block < W.heap.size := by obtain ⟨m, hm⟩ := k2; exact DataW.trod_lt m _ _ _ hm
  obtain ⟨z2, w2⟩ : ∃ zs, ArgI W a2 len2 cap2 zs := by
    obtain ⟨fuel, hf⟩ := h2
    rcases open_ints Try.underlying39 Try.underlying3 (by kernel_rfl) hf with ⟨hcs, _⟩ | ⟨x, l, c, zs, hcs, _, hl, hm, hz, _, hcell, hwz⟩
    · simp [Value.cells] at hcs
      obtain ⟨rfl, rfl, rfl⟩ := hcs
      exact ⟨[], rfl, Nat.le_refl _, Nat.zero_le _, fun n hn => by simp at hn, .inl rfl⟩
    · simp [Value.cells] at hcs
      obtain ⟨rfl, rfl, rfl⟩ := hcs
      exact ArgI.of_open hl hm (by simpa using hz) hcell hwz
  clear hA0 hval0
  simp only [List.append_nil] at hW'
  refine (walk a0x a0y a0 len0 cap0 z0 a1 len1 cap1 z1 a2 len2 cap2 z2 W w0 w1 w2).mono fun e W' ⟨he, bel⟩ => ?_
  subst he
  exact ⟨_, rfl, _, _, _, [], _, [], hW', trodAll_mk1 (shut_bool Try.underlying4 _), (trodAll_cons_mk (Below.trod laidOut (by kernel_rfl) (of_decide_eq_true (by kernel_rfl)) k0 bel lt0) (trodAll_cons_mk (Below.trod laidOut (by kernel_rfl) (of_decide_eq_true (by kernel_rfl)) k1 bel lt1) (trodAll_cons_mk (Below.trod laidOut (by kernel_rfl) (of_decide_eq_true (by kernel_rfl)) k2 bel lt2) trodAll_mk0))), rfl, bel.frame _, fun h => by cases h⟩

theorem over : Rows.fnExactNeededBlocksRow.holds Try.pinned (OpenSpec.ofChange Rows.fnExactNeededBlocksSpec) :=
  OpenClaim.holds_of_wide 5 Try.f5 rfl rfl rfl rfl rfl rfl rfl ⟨rfl, rfl, rfl, rfl, rfl⟩ rfl rfl rfl rfl rfl (by kernel_rfl) Try.func5 (show joinedFacts Try.prog 5 Try.f5 Rows.fnExactNeededBlocksSpec Rows.fnExactNeededBlocksRow = true by unfold joinedFacts; rw [Try.frMake, Try.frEnter, Try.frLifts]; kernel_rfl)
    (of_decide_eq_true (by kernel_rfl)) (by unfold Func.isWrapper; first | (rw [if_pos (by decide +kernel)]; kernel_rfl) | (rw [if_neg (by decide +kernel)]; exact ⟨rfl, rfl⟩))
    (fun os started H enc _ => lifted os started H enc)

/-- The statement. -/
theorem proved : Rows.FnExactNeededBlocksSaid :=
  over
#print axioms proved
end Go.Proofs.Ytnpkhoiblemodaa.fnExactNeededBlocks
