/-
  'FnExactMirrorCity' answers true at every argument and leaves its arguments as they were: the function of the program and its model give the same results.
-/
import Derived.Test.YtnpkhoiblemodaaRows
import Derived.WalkKit
import Derived.ProofKit
import Derived.OpenShut
import Derived.Lib.SmallJoins
import Derived.Carry
import Derived.Test.YtnpkhoiblemodaaFr
import Derived.Test.YtnpkhoiblemodaaMrD
import Derived.Test.YtnpkhoiblemodaaArgsB
import Derived.Test.YtnpkhoiblemodaaCtK
namespace Go.Proofs.Ytnpkhoiblemodaa.fnExactMirrorCity
open Go.ChangeShapes Go.WideShapes Go.ChangeAt Go.RowKit Go.Joins
open Go.WideMaps Go.WideElems
open Go.ChangeMaps (setBlock shut_map_nil open_string shut_string keptBut_setBlock frozen?_setBlock heap_setBlock_same)
set_option linter.unusedVariables false
set_option linter.unusedSimpArgs false

theorem own : ownKnob Try.prog.godebug = none := by kernel_rfl
theorem laidOut : laidOutB Try.prog = true := by kernel_rfl

set_option maxRecDepth 100000 in
set_option maxHeartbeats 1000000 in
theorem walk (a0x a0y : Int) (a0 : Option Addr) (len0 cap0 : Nat) (z0 : List Av.Blk) (w : World) (w0 : ArgB w a0 len0 cap0 z0) :
    Calls Try.prog 6 #[.agg #[.int .i64 a0x, .int .i64 a0y, .slice a0 len0 cap0]] w fun e w' => e = .returned (.bool true) ∧ Below w.heap.size w w' := by
  have wl0 : len0 ≤ maxLen := Nat.le_trans w0.2.1 w0.2.2.1
  by_cases hsum : len0 ≤ 1048576
  case neg =>
    have SZ := Lib.hid (fun (w : World) => Try.szCity w a0x a0y a0 len0 cap0 wl0)
    rw [if_pos (by omega)] at SZ
    clear w0
    go_enter Try.func6, Try.ntmps6
    go_wp2_with (first | (go_at_call 7; refine (SZ.out _).mono ?_; rintro e w1 ⟨rfl, hbW⟩; have hcW := (bcell hbW.below).1; have hfW := (bcell hbW.below).2; (try have hzW : w.heap.size < w1.heap.size := by have hq := hbW.below.size; (try simp at hq); omega); (try have hyW : w.heap.size + 1 < w1.heap.size := by have hq := hbW.below.size; (try simp at hq); omega); (try have hxW : w.heap.size + 2 < w1.heap.size := by have hq := hbW.below.size; (try simp at hq); omega)))
    go_ret
    exact ⟨rfl, Gr.below (by repeat (first | exact Gr.refl _ | refine Gr.alloc ?_ _ | refine Gr.trans ?_ (by assumption) | refine Gr.drew ?_ | refine Gr.drewN ?_ _ | refine Gr.grow ?_ _ | refine Gr.setCell ?_ (by (try simp); (try omega)) _))⟩
  have zl0 : z0.length ≤ 1048576 := by have := w0.1; omega
  have HS := Lib.hid (fun (w : World) B v h => Try.sMirrorCity w a0x a0y B v z0 zl0 h)
  have HI := Lib.hid (fun (w : World) B v h => Try.iMirrorCity w a0x a0y B v z0 zl0 h)
  have hlen0 : (mrL a0x a0y z0).length ≤ 1000000000 := by have := mrL_len a0x a0y z0; omega
  generalize ifN (Av.okB a0x a0y z0) a0x = K at *
  generalize ifN (Av.okB a0x a0y z0) a0y = P at *
  generalize mrL a0x a0y z0 = xs at *
  generalize Av.okB a0x a0y z0 = b at *
  have SZ := Lib.hid (fun (w : World) => Try.szCity w a0x a0y a0 len0 cap0 wl0)
  rw [if_neg (by omega)] at SZ
  have zz : ¬ (1048576 : Int) - (len0 : Int) < 0 := by omega
  have WA0 := Lib.hid w0
  have HL0 := Lib.hid hsum
  clear w0
  go_enter Try.func6, Try.ntmps6
  go_wp2_with (first | (go_at_call 7; refine (SZ.out _).mono ?_; rintro e w1 ⟨rfl, g1⟩; have B1 : Below w.heap.size w w1 := (show Gr w w1 from (by repeat (first | exact Gr.refl _ | refine Gr.alloc ?_ _ | refine Gr.trans ?_ (by assumption) | refine Gr.drew ?_ | refine Gr.drewN ?_ _ | refine Gr.grow ?_ _ | refine Gr.setCell ?_ (by (try simp); (try omega)) _))).below; have g2 : Gr (w.alloc (.cells #[.int .i64 a0x, .int .i64 a0y, .slice a0 len0 cap0] 24)) w1 := (by repeat (first | exact Gr.refl _ | refine Gr.alloc ?_ _ | refine Gr.trans ?_ (by assumption) | refine Gr.drew ?_ | refine Gr.drewN ?_ _ | refine Gr.grow ?_ _ | refine Gr.setCell ?_ (by (try simp); (try omega)) _)); have e0 : w1.cell? ⟨w.heap.size, 0, none⟩ = some (.int .i64 a0x) := g2.keep0 (by simp [go_sem]); have e1 : w1.cell? ⟨w.heap.size, 1, none⟩ = some (.int .i64 a0y) := g2.keep0 (by simp [go_sem]); have e2 : w1.cell? ⟨w.heap.size, 2, none⟩ = some (.slice a0 len0 cap0) := g2.keep0 (by simp [go_sem])))
  have sB1 := B1.size
  have sB2 : w.heap.size < w1.heap.size := World.block_lt_of_cell? _ _ e0
  refine (Try.toCity _ _ _ _ _ _ _ HL0.out (ArgE.below WA0.out B1)).mono ?_
  rintro e wv1 ⟨v1, rfl, c1, d1⟩
  obtain ⟨A1, u1, rfl, c1⟩ := OwnE.eta c1
  have f2_0 := cell_k2 (d1) e0
  have f2_1 := cell_k2 (d1) e1
  have f2_2 := cell_k2 (d1) e2
  clear e0 e1 e2
  have D2 := B1.trans ((d1).mono B1.size)
  have s2 := (d1).size
  have Fr1 := c1
  go_wp2_with fail
  refine (HS.out _ _ _ c1).mono ?_
  rintro e wC3 ⟨vC3_0, rfl, cC3_0, dC3⟩
  have f4_0 := cell_k2 (dC3) f2_0
  have f4_1 := cell_k2 (dC3) f2_1
  have f4_2 := cell_k2 (dC3) f2_2
  clear f2_0 f2_1 f2_2
  have o4_r1 := OwnE.below c1 (dC3) (Nat.le_refl _)
  have D4 := D2.trans ((dC3).mono D2.size)
  have s4 := (dC3).size
  obtain ⟨AC3_0, uC3_0, rfl, cC3_0⟩ := OwnE.eta cC3_0
  have Fr2 := cC3_0
  have g5 := Gr.alloc (Gr.refl wC3) (.cells #[.int .i64 K, .int .i64 P, .slice AC3_0 (xs).length uC3_0] 30)
  have f6_0 := cell_k2 (g5.below) f4_0
  have f6_1 := cell_k2 (g5.below) f4_1
  have f6_2 := cell_k2 (g5.below) f4_2
  clear f4_0 f4_1 f4_2
  have o6_r1 := OwnE.below o4_r1 (g5.below) (Nat.le_refl _)
  have o6_r2 := OwnE.below cC3_0 (g5.below) (Nat.le_refl _)
  have D6 := D4.trans ((g5.below).mono D4.size)
  have s6 := (g5.below).size
  have h5_0 : (wC3.alloc (.cells #[.int .i64 K, .int .i64 P, .slice AC3_0 (xs).length uC3_0] 30)).cell? ⟨wC3.heap.size, 0, none⟩ = some (.int .i64 K) := by simp [go_sem]
  have h5_1 : (wC3.alloc (.cells #[.int .i64 K, .int .i64 P, .slice AC3_0 (xs).length uC3_0] 30)).cell? ⟨wC3.heap.size, 1, none⟩ = some (.int .i64 P) := by simp [go_sem]
  have h5_2 : (wC3.alloc (.cells #[.int .i64 K, .int .i64 P, .slice AC3_0 (xs).length uC3_0] 30)).cell? ⟨wC3.heap.size, 2, none⟩ = some (.slice AC3_0 (xs).length uC3_0) := by simp [go_sem]
  go_wp2_with fail
  refine (Try.toCity _ _ _ _ _ _ _ HL0.out (ArgE.below WA0.out D6)).mono ?_
  rintro e wv7 ⟨v7, rfl, c7, d7⟩
  obtain ⟨A7, u7, rfl, c7⟩ := OwnE.eta c7
  have f8_0 := cell_k2 (d7) f6_0
  have f8_1 := cell_k2 (d7) f6_1
  have f8_2 := cell_k2 (d7) f6_2
  have f8_3 := cell_k2 (d7) h5_0
  have f8_4 := cell_k2 (d7) h5_1
  have f8_5 := cell_k2 (d7) h5_2
  clear f6_0 f6_1 f6_2 h5_0 h5_1 h5_2
  have o8_r2 := OwnE.below o6_r2 (d7) (Nat.le_refl _)
  have D8 := D6.trans ((d7).mono D6.size)
  have s8 := (d7).size
  have Fr3 := c7
  have g9 := Gr.alloc (Gr.refl wv7) (.cells #[.int .i64 a0x, .int .i64 a0y, .slice A7 z0.length u7] 30)
  have f10_0 := cell_k2 (g9.below) f8_0
  have f10_1 := cell_k2 (g9.below) f8_1
  have f10_2 := cell_k2 (g9.below) f8_2
  have f10_3 := cell_k2 (g9.below) f8_3
  have f10_4 := cell_k2 (g9.below) f8_4
  have f10_5 := cell_k2 (g9.below) f8_5
  clear f8_0 f8_1 f8_2 f8_3 f8_4 f8_5
  have o10_r2 := OwnE.below o8_r2 (g9.below) (Nat.le_refl _)
  have o10_r3 := OwnE.below c7 (g9.below) (Nat.le_refl _)
  have D10 := D8.trans ((g9.below).mono D8.size)
  have s10 := (g9.below).size
  have h9_0 : (wv7.alloc (.cells #[.int .i64 a0x, .int .i64 a0y, .slice A7 z0.length u7] 30)).cell? ⟨wv7.heap.size, 0, none⟩ = some (.int .i64 a0x) := by simp [go_sem]
  have h9_1 : (wv7.alloc (.cells #[.int .i64 a0x, .int .i64 a0y, .slice A7 z0.length u7] 30)).cell? ⟨wv7.heap.size, 1, none⟩ = some (.int .i64 a0y) := by simp [go_sem]
  have h9_2 : (wv7.alloc (.cells #[.int .i64 a0x, .int .i64 a0y, .slice A7 z0.length u7] 30)).cell? ⟨wv7.heap.size, 2, none⟩ = some (.slice A7 z0.length u7) := by simp [go_sem]
  go_wp2_with fail
  refine (HI.out _ _ _ o10_r3).mono ?_
  rintro e wC11 ⟨vC11_0, rfl, cC11_0, dC11⟩
  have f12_0 := cell_k2 (dC11) f10_0
  have f12_1 := cell_k2 (dC11) f10_1
  have f12_2 := cell_k2 (dC11) f10_2
  have f12_3 := cell_k2 (dC11) f10_3
  have f12_4 := cell_k2 (dC11) f10_4
  have f12_5 := cell_k2 (dC11) f10_5
  have f12_6 := cell_k2 (dC11) h9_0
  have f12_7 := cell_k2 (dC11) h9_1
  have f12_8 := cell_k2 (dC11) h9_2
  clear f10_0 f10_1 f10_2 f10_3 f10_4 f10_5 h9_0 h9_1 h9_2
  have o12_r2 := OwnE.below o10_r2 (dC11) (Nat.le_refl _)
  have o12_r3 := OwnE.below o10_r3 (dC11) (Nat.le_refl _)
  have D12 := D10.trans ((dC11).mono D10.size)
  have s12 := (dC11).size
  obtain ⟨AC11_0, uC11_0, rfl, cC11_0⟩ := OwnE.eta cC11_0
  have Fr4 := cC11_0
  have g13 := Gr.alloc (Gr.refl wC11) (.cells #[.int .i64 K, .int .i64 P, .slice AC11_0 (xs).length uC11_0] 30)
  have f14_0 := cell_k2 (g13.below) f12_0
  have f14_1 := cell_k2 (g13.below) f12_1
  have f14_2 := cell_k2 (g13.below) f12_2
  have f14_3 := cell_k2 (g13.below) f12_3
  have f14_4 := cell_k2 (g13.below) f12_4
  have f14_5 := cell_k2 (g13.below) f12_5
  have f14_6 := cell_k2 (g13.below) f12_6
  have f14_7 := cell_k2 (g13.below) f12_7
  have f14_8 := cell_k2 (g13.below) f12_8
  clear f12_0 f12_1 f12_2 f12_3 f12_4 f12_5 f12_6 f12_7 f12_8
  have o14_r2 := OwnE.below o12_r2 (g13.below) (Nat.le_refl _)
  have o14_r3 := OwnE.below o12_r3 (g13.below) (Nat.le_refl _)
  have o14_r4 := OwnE.below cC11_0 (g13.below) (Nat.le_refl _)
  have D14 := D12.trans ((g13.below).mono D12.size)
  have s14 := (g13.below).size
  have h13_0 : (wC11.alloc (.cells #[.int .i64 K, .int .i64 P, .slice AC11_0 (xs).length uC11_0] 30)).cell? ⟨wC11.heap.size, 0, none⟩ = some (.int .i64 K) := by simp [go_sem]
  have h13_1 : (wC11.alloc (.cells #[.int .i64 K, .int .i64 P, .slice AC11_0 (xs).length uC11_0] 30)).cell? ⟨wC11.heap.size, 1, none⟩ = some (.int .i64 P) := by simp [go_sem]
  have h13_2 : (wC11.alloc (.cells #[.int .i64 K, .int .i64 P, .slice AC11_0 (xs).length uC11_0] 30)).cell? ⟨wC11.heap.size, 2, none⟩ = some (.slice AC11_0 (xs).length uC11_0) := by simp [go_sem]
  go_wp2_with fail
  refine (Try.eqCity _ _ _ _ _ _ _ _ o14_r4 o14_r2).mono ?_
  rintro e wE15 ⟨rfl, dE15⟩
  have f16_0 := cell_k2 (dE15.below) f14_0
  have f16_1 := cell_k2 (dE15.below) f14_1
  have f16_2 := cell_k2 (dE15.below) f14_2
  have f16_3 := cell_k2 (dE15.below) f14_3
  have f16_4 := cell_k2 (dE15.below) f14_4
  have f16_5 := cell_k2 (dE15.below) f14_5
  have f16_6 := cell_k2 (dE15.below) f14_6
  have f16_7 := cell_k2 (dE15.below) f14_7
  have f16_8 := cell_k2 (dE15.below) f14_8
  have f16_9 := cell_k2 (dE15.below) h13_0
  have f16_10 := cell_k2 (dE15.below) h13_1
  have f16_11 := cell_k2 (dE15.below) h13_2
  clear f14_0 f14_1 f14_2 f14_3 f14_4 f14_5 f14_6 f14_7 f14_8 h13_0 h13_1 h13_2
  have o16_r2 := OwnE.below o14_r2 (dE15.below) (Nat.le_refl _)
  have o16_r3 := OwnE.below o14_r3 (dE15.below) (Nat.le_refl _)
  have o16_r4 := OwnE.below o14_r4 (dE15.below) (Nat.le_refl _)
  have D16 := D14.trans ((dE15.below).mono D14.size)
  have s16 := (dE15.below).size
  go_upto_region 10 with fail
  go_region_held3 (fun W' => W'.cell? ⟨w.heap.size, 0, none⟩ = some (.int .i64 a0x) ∧ W'.cell? ⟨w.heap.size, 1, none⟩ = some (.int .i64 a0y) ∧ W'.cell? ⟨w.heap.size, 2, none⟩ = some (.slice a0 len0 cap0) ∧ W'.cell? ⟨wv7.heap.size, 0, none⟩ = some (.int .i64 a0x) ∧ W'.cell? ⟨wv7.heap.size, 1, none⟩ = some (.int .i64 a0y) ∧ W'.cell? ⟨wv7.heap.size, 2, none⟩ = some (.slice A7 z0.length u7))
    (first | exact ⟨f16_0, f16_1, f16_2, f16_6, f16_7, f16_8⟩ | exact ⟨cell_k2 (Below.drew (Below.refl _ _)) f16_0, cell_k2 (Below.drew (Below.refl _ _)) f16_1, cell_k2 (Below.drew (Below.refl _ _)) f16_2, cell_k2 (Below.drew (Below.refl _ _)) f16_6, cell_k2 (Below.drew (Below.refl _ _)) f16_7, cell_k2 (Below.drew (Below.refl _ _)) f16_8⟩ | exact keep6 dA17 (by assumption) | exact keep6 dE17.below (by assumption))
    ((first | (go_at_call 9; refine (Try.toCity _ _ _ _ _ _ _ HL0.out (ArgE.below WA0.out (by first | exact D16 | exact Below.drew D16))).mono ?_; rintro e wA17 ⟨vA17, rfl, cA17, dA17⟩) | (go_at_call 12; refine (Try.eqCity _ _ _ _ _ _ _ _ (OwnE.below (by first | exact o16_r3 | exact OwnE.below o16_r3 (Below.drew (Below.refl _ _)) (Nat.le_refl _)) dA17 (Nat.le_refl _)) cA17).mono ?_; rintro e wE17 ⟨rfl, dE17⟩)))
  have f18_0 := cell_k2 ((show Below wE15.heap.size wE15 _ by first | exact dA17 | exact Below.trans (Below.drew (Below.refl _ _)) dA17)) f16_0
  have f18_1 := cell_k2 ((show Below wE15.heap.size wE15 _ by first | exact dA17 | exact Below.trans (Below.drew (Below.refl _ _)) dA17)) f16_1
  have f18_2 := cell_k2 ((show Below wE15.heap.size wE15 _ by first | exact dA17 | exact Below.trans (Below.drew (Below.refl _ _)) dA17)) f16_2
  have f18_3 := cell_k2 ((show Below wE15.heap.size wE15 _ by first | exact dA17 | exact Below.trans (Below.drew (Below.refl _ _)) dA17)) f16_3
  have f18_4 := cell_k2 ((show Below wE15.heap.size wE15 _ by first | exact dA17 | exact Below.trans (Below.drew (Below.refl _ _)) dA17)) f16_4
  have f18_5 := cell_k2 ((show Below wE15.heap.size wE15 _ by first | exact dA17 | exact Below.trans (Below.drew (Below.refl _ _)) dA17)) f16_5
  have f18_6 := cell_k2 ((show Below wE15.heap.size wE15 _ by first | exact dA17 | exact Below.trans (Below.drew (Below.refl _ _)) dA17)) f16_6
  have f18_7 := cell_k2 ((show Below wE15.heap.size wE15 _ by first | exact dA17 | exact Below.trans (Below.drew (Below.refl _ _)) dA17)) f16_7
  have f18_8 := cell_k2 ((show Below wE15.heap.size wE15 _ by first | exact dA17 | exact Below.trans (Below.drew (Below.refl _ _)) dA17)) f16_8
  have f18_9 := cell_k2 ((show Below wE15.heap.size wE15 _ by first | exact dA17 | exact Below.trans (Below.drew (Below.refl _ _)) dA17)) f16_9
  have f18_10 := cell_k2 ((show Below wE15.heap.size wE15 _ by first | exact dA17 | exact Below.trans (Below.drew (Below.refl _ _)) dA17)) f16_10
  have f18_11 := cell_k2 ((show Below wE15.heap.size wE15 _ by first | exact dA17 | exact Below.trans (Below.drew (Below.refl _ _)) dA17)) f16_11
  clear f16_0 f16_1 f16_2 f16_3 f16_4 f16_5 f16_6 f16_7 f16_8 f16_9 f16_10 f16_11
  have o18_r2 := OwnE.below o16_r2 ((show Below wE15.heap.size wE15 _ by first | exact dA17 | exact Below.trans (Below.drew (Below.refl _ _)) dA17)) (Nat.le_refl _)
  have o18_r3 := OwnE.below o16_r3 ((show Below wE15.heap.size wE15 _ by first | exact dA17 | exact Below.trans (Below.drew (Below.refl _ _)) dA17)) (Nat.le_refl _)
  have o18_r4 := OwnE.below o16_r4 ((show Below wE15.heap.size wE15 _ by first | exact dA17 | exact Below.trans (Below.drew (Below.refl _ _)) dA17)) (Nat.le_refl _)
  have D18 := D16.trans (((show Below wE15.heap.size wE15 _ by first | exact dA17 | exact Below.trans (Below.drew (Below.refl _ _)) dA17)).mono D16.size)
  have s18 := ((show Below wE15.heap.size wE15 _ by first | exact dA17 | exact Below.trans (Below.drew (Below.refl _ _)) dA17)).size
  have f19_0 := cell_k2 (dE17.below) f18_0
  have f19_1 := cell_k2 (dE17.below) f18_1
  have f19_2 := cell_k2 (dE17.below) f18_2
  have f19_3 := cell_k2 (dE17.below) f18_3
  have f19_4 := cell_k2 (dE17.below) f18_4
  have f19_5 := cell_k2 (dE17.below) f18_5
  have f19_6 := cell_k2 (dE17.below) f18_6
  have f19_7 := cell_k2 (dE17.below) f18_7
  have f19_8 := cell_k2 (dE17.below) f18_8
  have f19_9 := cell_k2 (dE17.below) f18_9
  have f19_10 := cell_k2 (dE17.below) f18_10
  have f19_11 := cell_k2 (dE17.below) f18_11
  clear f18_0 f18_1 f18_2 f18_3 f18_4 f18_5 f18_6 f18_7 f18_8 f18_9 f18_10 f18_11
  have o19_r2 := OwnE.below o18_r2 (dE17.below) (Nat.le_refl _)
  have o19_r3 := OwnE.below o18_r3 (dE17.below) (Nat.le_refl _)
  have o19_r4 := OwnE.below o18_r4 (dE17.below) (Nat.le_refl _)
  have D19 := D18.trans ((dE17.below).mono D18.size)
  have s19 := (dE17.below).size
  go_wp2_with fail
  refine (Try.markCity _ _ _ _ _ _ ((Nat.le_trans (by have := WA0.out.1; have := HL0.out; omega) (show 1048576 ≤ 1000000000 by decide))) o19_r3).mono ?_
  rintro e wM20 ⟨rfl, cM20, dM20⟩
  have s20 := dM20.size
  have o20_r2 := OwnE.grown o19_r2 dM20 (own_ne' Fr2 Fr3 (by omega))
  have o20_r4 := OwnE.grown o19_r4 dM20 (own_ne Fr4 Fr3 (by omega))
  have f20_0 := cell_gbZ dM20 f19_0 (fun e => by have := (World.ownsRow.lt Fr3 _ e.symm); (try simp only [World.size_alloc] at *); omega)
  have f20_1 := cell_gbZ dM20 f19_1 (fun e => by have := (World.ownsRow.lt Fr3 _ e.symm); (try simp only [World.size_alloc] at *); omega)
  have f20_2 := cell_gbZ dM20 f19_2 (fun e => by have := (World.ownsRow.lt Fr3 _ e.symm); (try simp only [World.size_alloc] at *); omega)
  have f20_3 := cell_gbZ dM20 f19_3 (fun e => by have := (World.ownsRow.lt Fr3 _ e.symm); (try simp only [World.size_alloc] at *); omega)
  have f20_4 := cell_gbZ dM20 f19_4 (fun e => by have := (World.ownsRow.lt Fr3 _ e.symm); (try simp only [World.size_alloc] at *); omega)
  have f20_5 := cell_gbZ dM20 f19_5 (fun e => by have := (World.ownsRow.lt Fr3 _ e.symm); (try simp only [World.size_alloc] at *); omega)
  have f20_6 := cell_gbZ dM20 f19_6 (fun e => by have := (World.ownsRow.lt Fr3 _ e.symm); (try simp only [World.size_alloc] at *); omega)
  have f20_7 := cell_gbZ dM20 f19_7 (fun e => by have := (World.ownsRow.lt Fr3 _ e.symm); (try simp only [World.size_alloc] at *); omega)
  have f20_8 := cell_gbZ dM20 f19_8 (fun e => by have := (World.ownsRow.lt Fr3 _ e.symm); (try simp only [World.size_alloc] at *); omega)
  have f20_9 := cell_gbZ dM20 f19_9 (fun e => by have := (World.ownsRow.lt Fr3 _ e.symm); (try simp only [World.size_alloc] at *); omega)
  have f20_10 := cell_gbZ dM20 f19_10 (fun e => by have := (World.ownsRow.lt Fr3 _ e.symm); (try simp only [World.size_alloc] at *); omega)
  have f20_11 := cell_gbZ dM20 f19_11 (fun e => by have := (World.ownsRow.lt Fr3 _ e.symm); (try simp only [World.size_alloc] at *); omega)
  clear f19_0 f19_1 f19_2 f19_3 f19_4 f19_5 f19_6 f19_7 f19_8 f19_9 f19_10 f19_11
  have b20 := Below.grown (Below.refl w.heap.size _) dM20 (by omega) (fun j hj => by have := (World.ownsRow.lt Fr3 j hj).1; omega)
  have D20 := D19.trans b20
  have lz0 : ((z0).length : Int) ≤ 1048576 := by have := WA0.out.1; have := HL0.out; omega
  go_wp2_with fail
  refine (Try.eqCity _ _ _ _ _ _ _ _ o20_r4 o20_r2).mono ?_
  rintro e wE21 ⟨rfl, dE21⟩
  have f22_0 := cell_k2 (dE21.below) f20_0
  have f22_1 := cell_k2 (dE21.below) f20_1
  have f22_2 := cell_k2 (dE21.below) f20_2
  have f22_3 := cell_k2 (dE21.below) f20_3
  have f22_4 := cell_k2 (dE21.below) f20_4
  have f22_5 := cell_k2 (dE21.below) f20_5
  have f22_6 := cell_k2 (dE21.below) f20_6
  have f22_7 := cell_k2 (dE21.below) f20_7
  have f22_8 := cell_k2 (dE21.below) f20_8
  have f22_9 := cell_k2 (dE21.below) f20_9
  have f22_10 := cell_k2 (dE21.below) f20_10
  have f22_11 := cell_k2 (dE21.below) f20_11
  clear f20_0 f20_1 f20_2 f20_3 f20_4 f20_5 f20_6 f20_7 f20_8 f20_9 f20_10 f20_11
  have o22_r2 := OwnE.below o20_r2 (dE21.below) (Nat.le_refl _)
  have o22_r3 := OwnE.below cM20 (dE21.below) (Nat.le_refl _)
  have o22_r4 := OwnE.below o20_r4 (dE21.below) (Nat.le_refl _)
  have D22 := D20.trans ((dE21.below).mono D20.size)
  have s22 := (dE21.below).size
  go_wp2_with fail
  refine (Try.markCity _ _ _ _ _ _ (hlen0) o22_r4).mono ?_
  rintro e wM23 ⟨rfl, cM23, dM23⟩
  have s23 := dM23.size
  have o23_r2 := OwnE.grown o22_r2 dM23 (own_ne' Fr2 Fr4 (by omega))
  have o23_r3 := OwnE.grown o22_r3 dM23 (own_ne' Fr3 Fr4 (by omega))
  have f23_0 := cell_gbZ dM23 f22_0 (fun e => by have := (World.ownsRow.lt Fr4 _ e.symm); (try simp only [World.size_alloc] at *); omega)
  have f23_1 := cell_gbZ dM23 f22_1 (fun e => by have := (World.ownsRow.lt Fr4 _ e.symm); (try simp only [World.size_alloc] at *); omega)
  have f23_2 := cell_gbZ dM23 f22_2 (fun e => by have := (World.ownsRow.lt Fr4 _ e.symm); (try simp only [World.size_alloc] at *); omega)
  have f23_3 := cell_gbZ dM23 f22_3 (fun e => by have := (World.ownsRow.lt Fr4 _ e.symm); (try simp only [World.size_alloc] at *); omega)
  have f23_4 := cell_gbZ dM23 f22_4 (fun e => by have := (World.ownsRow.lt Fr4 _ e.symm); (try simp only [World.size_alloc] at *); omega)
  have f23_5 := cell_gbZ dM23 f22_5 (fun e => by have := (World.ownsRow.lt Fr4 _ e.symm); (try simp only [World.size_alloc] at *); omega)
  have f23_6 := cell_gbZ dM23 f22_6 (fun e => by have := (World.ownsRow.lt Fr4 _ e.symm); (try simp only [World.size_alloc] at *); omega)
  have f23_7 := cell_gbZ dM23 f22_7 (fun e => by have := (World.ownsRow.lt Fr4 _ e.symm); (try simp only [World.size_alloc] at *); omega)
  have f23_8 := cell_gbZ dM23 f22_8 (fun e => by have := (World.ownsRow.lt Fr4 _ e.symm); (try simp only [World.size_alloc] at *); omega)
  have f23_9 := cell_gbZ dM23 f22_9 (fun e => by have := (World.ownsRow.lt Fr4 _ e.symm); (try simp only [World.size_alloc] at *); omega)
  have f23_10 := cell_gbZ dM23 f22_10 (fun e => by have := (World.ownsRow.lt Fr4 _ e.symm); (try simp only [World.size_alloc] at *); omega)
  have f23_11 := cell_gbZ dM23 f22_11 (fun e => by have := (World.ownsRow.lt Fr4 _ e.symm); (try simp only [World.size_alloc] at *); omega)
  clear f22_0 f22_1 f22_2 f22_3 f22_4 f22_5 f22_6 f22_7 f22_8 f22_9 f22_10 f22_11
  have b23 := Below.grown (Below.refl w.heap.size _) dM23 (by omega) (fun j hj => by have := (World.ownsRow.lt Fr4 j hj).1; omega)
  have D23 := D22.trans b23
  go_wp2_with fail
  refine (Try.heldCity _ _ _ _ _ _ (hlen0) cM23).mono ?_
  rintro e wH24 ⟨rfl, dH24⟩
  have f25_0 := cell_k2 (dH24.below) f23_0
  have f25_1 := cell_k2 (dH24.below) f23_1
  have f25_2 := cell_k2 (dH24.below) f23_2
  have f25_3 := cell_k2 (dH24.below) f23_3
  have f25_4 := cell_k2 (dH24.below) f23_4
  have f25_5 := cell_k2 (dH24.below) f23_5
  have f25_6 := cell_k2 (dH24.below) f23_6
  have f25_7 := cell_k2 (dH24.below) f23_7
  have f25_8 := cell_k2 (dH24.below) f23_8
  have f25_9 := cell_k2 (dH24.below) f23_9
  have f25_10 := cell_k2 (dH24.below) f23_10
  have f25_11 := cell_k2 (dH24.below) f23_11
  clear f23_0 f23_1 f23_2 f23_3 f23_4 f23_5 f23_6 f23_7 f23_8 f23_9 f23_10 f23_11
  have o25_r2 := OwnE.below o23_r2 (dH24.below) (Nat.le_refl _)
  have o25_r3 := OwnE.below o23_r3 (dH24.below) (Nat.le_refl _)
  have o25_r4 := OwnE.below cM23 (dH24.below) (Nat.le_refl _)
  have D25 := D23.trans ((dH24.below).mono D23.size)
  have s25 := (dH24.below).size
  go_wp2_with fail
  refine (Try.toCity _ _ _ _ _ _ _ HL0.out (ArgE.below WA0.out D25)).mono ?_
  rintro e wv26 ⟨v26, rfl, c26, d26⟩
  obtain ⟨A26, u26, rfl, c26⟩ := OwnE.eta c26
  have f27_0 := cell_k2 (d26) f25_0
  have f27_1 := cell_k2 (d26) f25_1
  have f27_2 := cell_k2 (d26) f25_2
  have f27_3 := cell_k2 (d26) f25_3
  have f27_4 := cell_k2 (d26) f25_4
  have f27_5 := cell_k2 (d26) f25_5
  have f27_6 := cell_k2 (d26) f25_6
  have f27_7 := cell_k2 (d26) f25_7
  have f27_8 := cell_k2 (d26) f25_8
  have f27_9 := cell_k2 (d26) f25_9
  have f27_10 := cell_k2 (d26) f25_10
  have f27_11 := cell_k2 (d26) f25_11
  clear f25_0 f25_1 f25_2 f25_3 f25_4 f25_5 f25_6 f25_7 f25_8 f25_9 f25_10 f25_11
  have o27_r2 := OwnE.below o25_r2 (d26) (Nat.le_refl _)
  have o27_r4 := OwnE.below o25_r4 (d26) (Nat.le_refl _)
  have D27 := D25.trans ((d26).mono D25.size)
  have s27 := (d26).size
  have Fr5 := c26
  go_wp2_with fail
  refine (HI.out _ _ _ c26).mono ?_
  rintro e wC28 ⟨vC28_0, rfl, cC28_0, dC28⟩
  have f29_0 := cell_k2 (dC28) f27_0
  have f29_1 := cell_k2 (dC28) f27_1
  have f29_2 := cell_k2 (dC28) f27_2
  have f29_3 := cell_k2 (dC28) f27_3
  have f29_4 := cell_k2 (dC28) f27_4
  have f29_5 := cell_k2 (dC28) f27_5
  have f29_6 := cell_k2 (dC28) f27_6
  have f29_7 := cell_k2 (dC28) f27_7
  have f29_8 := cell_k2 (dC28) f27_8
  have f29_9 := cell_k2 (dC28) f27_9
  have f29_10 := cell_k2 (dC28) f27_10
  have f29_11 := cell_k2 (dC28) f27_11
  clear f27_0 f27_1 f27_2 f27_3 f27_4 f27_5 f27_6 f27_7 f27_8 f27_9 f27_10 f27_11
  have o29_r2 := OwnE.below o27_r2 (dC28) (Nat.le_refl _)
  have o29_r4 := OwnE.below o27_r4 (dC28) (Nat.le_refl _)
  have o29_r5 := OwnE.below c26 (dC28) (Nat.le_refl _)
  have D29 := D27.trans ((dC28).mono D27.size)
  have s29 := (dC28).size
  obtain ⟨AC28_0, uC28_0, rfl, cC28_0⟩ := OwnE.eta cC28_0
  have Fr6 := cC28_0
  have g30 := Gr.alloc (Gr.refl wC28) (.cells #[.int .i64 K, .int .i64 P, .slice AC28_0 (xs).length uC28_0] 30)
  have f31_0 := cell_k2 (g30.below) f29_0
  have f31_1 := cell_k2 (g30.below) f29_1
  have f31_2 := cell_k2 (g30.below) f29_2
  have f31_3 := cell_k2 (g30.below) f29_3
  have f31_4 := cell_k2 (g30.below) f29_4
  have f31_5 := cell_k2 (g30.below) f29_5
  have f31_6 := cell_k2 (g30.below) f29_6
  have f31_7 := cell_k2 (g30.below) f29_7
  have f31_8 := cell_k2 (g30.below) f29_8
  have f31_9 := cell_k2 (g30.below) f29_9
  have f31_10 := cell_k2 (g30.below) f29_10
  have f31_11 := cell_k2 (g30.below) f29_11
  clear f29_0 f29_1 f29_2 f29_3 f29_4 f29_5 f29_6 f29_7 f29_8 f29_9 f29_10 f29_11
  have o31_r2 := OwnE.below o29_r2 (g30.below) (Nat.le_refl _)
  have o31_r4 := OwnE.below o29_r4 (g30.below) (Nat.le_refl _)
  have o31_r5 := OwnE.below o29_r5 (g30.below) (Nat.le_refl _)
  have o31_r6 := OwnE.below cC28_0 (g30.below) (Nat.le_refl _)
  have D31 := D29.trans ((g30.below).mono D29.size)
  have s31 := (g30.below).size
  have h30_0 : (wC28.alloc (.cells #[.int .i64 K, .int .i64 P, .slice AC28_0 (xs).length uC28_0] 30)).cell? ⟨wC28.heap.size, 0, none⟩ = some (.int .i64 K) := by simp [go_sem]
  have h30_1 : (wC28.alloc (.cells #[.int .i64 K, .int .i64 P, .slice AC28_0 (xs).length uC28_0] 30)).cell? ⟨wC28.heap.size, 1, none⟩ = some (.int .i64 P) := by simp [go_sem]
  have h30_2 : (wC28.alloc (.cells #[.int .i64 K, .int .i64 P, .slice AC28_0 (xs).length uC28_0] 30)).cell? ⟨wC28.heap.size, 2, none⟩ = some (.slice AC28_0 (xs).length uC28_0) := by simp [go_sem]
  go_wp2_with fail
  refine (Try.eqCity _ _ _ _ _ _ _ _ o31_r6 o31_r2).mono ?_
  rintro e wE32 ⟨rfl, dE32⟩
  have f33_0 := cell_k2 (dE32.below) f31_0
  have f33_1 := cell_k2 (dE32.below) f31_1
  have f33_2 := cell_k2 (dE32.below) f31_2
  have f33_3 := cell_k2 (dE32.below) f31_3
  have f33_4 := cell_k2 (dE32.below) f31_4
  have f33_5 := cell_k2 (dE32.below) f31_5
  have f33_6 := cell_k2 (dE32.below) f31_6
  have f33_7 := cell_k2 (dE32.below) f31_7
  have f33_8 := cell_k2 (dE32.below) f31_8
  have f33_9 := cell_k2 (dE32.below) f31_9
  have f33_10 := cell_k2 (dE32.below) f31_10
  have f33_11 := cell_k2 (dE32.below) f31_11
  have f33_12 := cell_k2 (dE32.below) h30_0
  have f33_13 := cell_k2 (dE32.below) h30_1
  have f33_14 := cell_k2 (dE32.below) h30_2
  clear f31_0 f31_1 f31_2 f31_3 f31_4 f31_5 f31_6 f31_7 f31_8 f31_9 f31_10 f31_11 h30_0 h30_1 h30_2
  have o33_r2 := OwnE.below o31_r2 (dE32.below) (Nat.le_refl _)
  have o33_r4 := OwnE.below o31_r4 (dE32.below) (Nat.le_refl _)
  have o33_r5 := OwnE.below o31_r5 (dE32.below) (Nat.le_refl _)
  have o33_r6 := OwnE.below o31_r6 (dE32.below) (Nat.le_refl _)
  have D33 := D31.trans ((dE32.below).mono D31.size)
  have s33 := (dE32.below).size
  go_wp2_with fail
  refine (Try.heldCity _ _ _ _ _ _ (hlen0) o33_r4).mono ?_
  rintro e wH34 ⟨rfl, dH34⟩
  have f35_0 := cell_k2 (dH34.below) f33_0
  have f35_1 := cell_k2 (dH34.below) f33_1
  have f35_2 := cell_k2 (dH34.below) f33_2
  have f35_3 := cell_k2 (dH34.below) f33_3
  have f35_4 := cell_k2 (dH34.below) f33_4
  have f35_5 := cell_k2 (dH34.below) f33_5
  have f35_6 := cell_k2 (dH34.below) f33_6
  have f35_7 := cell_k2 (dH34.below) f33_7
  have f35_8 := cell_k2 (dH34.below) f33_8
  have f35_9 := cell_k2 (dH34.below) f33_9
  have f35_10 := cell_k2 (dH34.below) f33_10
  have f35_11 := cell_k2 (dH34.below) f33_11
  have f35_12 := cell_k2 (dH34.below) f33_12
  have f35_13 := cell_k2 (dH34.below) f33_13
  have f35_14 := cell_k2 (dH34.below) f33_14
  clear f33_0 f33_1 f33_2 f33_3 f33_4 f33_5 f33_6 f33_7 f33_8 f33_9 f33_10 f33_11 f33_12 f33_13 f33_14
  have o35_r2 := OwnE.below o33_r2 (dH34.below) (Nat.le_refl _)
  have o35_r4 := OwnE.below o33_r4 (dH34.below) (Nat.le_refl _)
  have o35_r5 := OwnE.below o33_r5 (dH34.below) (Nat.le_refl _)
  have o35_r6 := OwnE.below o33_r6 (dH34.below) (Nat.le_refl _)
  have D35 := D33.trans ((dH34.below).mono D33.size)
  have s35 := (dH34.below).size
  go_wp2_with fail
  go_ret
  exact ⟨rfl, D35⟩

set_option maxRecDepth 100000 in
theorem lifted (os : Os) (started : os.Started) (H : Type) (enc : TypeId × Value → H) :
    ReturnsInHanded {} Try.checked os 6 .any (Rows.fnExactMirrorCitySpec.pre6 enc Try.prog Try.f6 Rows.fnExactMirrorCityRow.domain false) (Rows.fnExactMirrorCitySpec.post enc Try.prog Try.f6 false true false false) := by
  refine returnsInHanded_of_change (C := Try.checked) own started (by kernel_rfl) Try.func6
    (ChangeSpec.witness6 (enc := enc) (C := Try.checked) false ⟨#[], #[.agg #[.int .i64 0, .int .i64 0, .slice none 0 0]], []⟩ 8 (by kernel_rfl) (by kernel_rfl) (by kernel_rfl) (by kernel_rfl)) ?_
  intro W base args ds gs before hval0 hW hcnd _
  have hval : ∀ (j : Nat) t v, Try.f6.params[j]? = some t → args[j]? = some v → Value.okWide Try.prog W .any base t v := hval0
  have hW' := hW
  obtain ⟨p, q, hA0, hV, rfl, hfz, hnd⟩ := hW
  have hA : DataW.TrodAll enc Try.prog W 0 (fun _ => true) true Try.f6.params.toList args.toList ds p := hA0
  rw [Try.params6] at hA hval
  obtain ⟨v0, vs0, d0, ds0, p0, q0, hargs, rfl, rfl, h0, r0⟩ := trodAll_cons hA
  obtain ⟨rfl, rfl, rfl⟩ := trodAll_nil r0
  obtain rfl : args = #[v0] := by cases args; simp_all
  obtain ⟨rfl, rfl⟩ := trodVars_none hV
  have k0 := h0
  have lt0 : ∀ x ∈ p0, x.block < W.heap.size := by obtain ⟨m, hm⟩ := k0; exact DataW.trod_lt m _ _ _ hm
  obtain ⟨c0x, c0y, c0z, y0x, y0y, y0z, m0, rfl, rfl, rfl, hy0x, hy0y, hy0z⟩ := open_agg3 Try.underlying24 (by kernel_rfl) (show Try.prog.cellsOf 24 = 3 by kernel_rfl) (hval 0 24 v0 rfl rfl) h0
  obtain ⟨a0x, e0x, rfl, _⟩ := DataW.trod_int Try.underlying3 hy0x
  obtain ⟨a0y, e0y, rfl, _⟩ := DataW.trod_int Try.underlying3 hy0y
  obtain ⟨a0, len0, cap0, e0z⟩ := slice_form Try.underlying22 hy0z
  simp at e0x e0y e0z
  subst e0x e0y e0z
  obtain ⟨z0, w0⟩ := ArgE.of_trod Av.b0 (by decide) bcs_len Try.underlying22 (by kernel_rfl) (fun n cs x h => block_of_trod Try.underlying26 (by kernel_rfl) rfl rfl rfl (by kernel_rfl) (by kernel_rfl) (by kernel_rfl) Try.underlying3 Try.underlying3 Try.underlying4 n cs x h) hy0z
  clear hA0 hval0
  simp only [List.append_nil] at hW'
  refine (walk a0x a0y a0 len0 cap0 z0 W w0).mono fun e W' ⟨he, bel⟩ => ?_
  subst he
  exact ⟨_, rfl, _, _, _, [], _, [], hW', trodAll_mk1 (shut_bool Try.underlying4 _), (trodAll_cons_mk (Below.trod laidOut (by kernel_rfl) (of_decide_eq_true (by kernel_rfl)) k0 bel lt0) trodAll_mk0), rfl, bel.frame _, fun h => by cases h⟩

theorem over : Rows.fnExactMirrorCityRow.holds Try.pinned (OpenSpec.ofChange Rows.fnExactMirrorCitySpec) :=
  OpenClaim.holds_of_wide 6 Try.f6 rfl rfl rfl rfl rfl rfl rfl ⟨rfl, rfl, rfl, rfl, rfl⟩ rfl rfl rfl rfl rfl (by kernel_rfl) Try.func6 (show joinedFacts Try.prog 6 Try.f6 Rows.fnExactMirrorCitySpec Rows.fnExactMirrorCityRow = true by unfold joinedFacts; rw [Try.frMake, Try.frEnter, Try.frLifts]; kernel_rfl)
    (of_decide_eq_true (by kernel_rfl)) (by unfold Func.isWrapper; first | (rw [if_pos (by decide +kernel)]; kernel_rfl) | (rw [if_neg (by decide +kernel)]; exact ⟨rfl, rfl⟩))
    (fun os started H enc _ => lifted os started H enc)

/-- The statement. -/
theorem proved : Rows.FnExactMirrorCitySaid :=
  over
#print axioms proved
end Go.Proofs.Ytnpkhoiblemodaa.fnExactMirrorCity
