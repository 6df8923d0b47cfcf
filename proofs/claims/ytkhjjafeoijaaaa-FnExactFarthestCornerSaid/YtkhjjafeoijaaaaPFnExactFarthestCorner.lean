/-
  'FnExactFarthestCorner' answers true at every argument and leaves its arguments as they were: the function of the program and its model give the same results.
-/
import Derived.Test.YtkhjjafeoijaaaaRows
import Derived.WalkKit
import Derived.ProofKit
import Derived.OpenShut
import Derived.Lib.SmallJoins
import Derived.Carry
import Derived.Test.YtkhjjafeoijaaaaAvFr
import Derived.Test.YtkhjjafeoijaaaaArgs
import Derived.Test.YtkhjjafeoijaaaaArgsB
import Derived.Test.YtkhjjafeoijaaaaCtK
import Derived.Test.YtkhjjafeoijaaaaLiT
namespace Go.Proofs.Ytkhjjafeoijaaaa.fnExactFarthestCorner
open Go.ChangeShapes Go.WideShapes Go.ChangeAt Go.RowKit Go.Joins
open Go.WideMaps Go.WideElems
open Go.ChangeMaps (setBlock shut_map_nil open_string shut_string keptBut_setBlock frozen?_setBlock heap_setBlock_same)
set_option linter.unusedVariables false
set_option linter.unusedSimpArgs false

theorem own : ownKnob Try.prog.godebug = none := by kernel_rfl
theorem laidOut : laidOutB Try.prog = true := by kernel_rfl

set_option maxRecDepth 100000 in
set_option maxHeartbeats 1000000 in
theorem walk (a0x a0y : Int) (a0 : Option Addr) (len0 cap0 : Nat) (z0 : List Av.Blk) (a1 : Option Addr) (len1 cap1 : Nat) (z1 : List Int) (w : World) (w0 : ArgB w a0 len0 cap0 z0) (w1 : ArgI w a1 len1 cap1 z1) :
    Calls Try.prog 9 #[.agg #[.int .i64 a0x, .int .i64 a0y, .slice a0 len0 cap0], .slice a1 len1 cap1] w fun e w' => e = .returned (.bool true) ∧ Below w.heap.size w w' := by
  have wl0 : len0 ≤ maxLen := Nat.le_trans w0.2.1 w0.2.2.1
  by_cases hs1 : len1 ≤ 1048576
  case neg =>
    have zz : (1048576 : Int) < (len1 : Int) := by omega
    clear w0 w1
    go_enter Try.func9, Try.ntmps9
    go_wp2
    go_ret
    exact ⟨rfl, Gr.below (by repeat (first | exact Gr.refl _ | refine Gr.alloc ?_ _ | refine Gr.trans ?_ (by assumption) | refine Gr.drew ?_ | refine Gr.drewN ?_ _ | refine Gr.grow ?_ _ | refine Gr.setCell ?_ (by (try simp); (try omega)) _))⟩
  have z1' : ¬ (1048576 : Int) < (len1 : Int) := by omega
  by_cases hsum : len0 ≤ 1048576
  case neg =>
    have SZ := Lib.hid (fun (w : World) => Try.szCity w a0x a0y a0 len0 cap0 wl0)
    rw [if_pos (by omega)] at SZ
    clear w0 w1
    go_enter Try.func9, Try.ntmps9
    go_wp2_with (first | (go_at_call 22; refine (SZ.out _).mono ?_; rintro e w1 ⟨rfl, hbW⟩; have hcW := (bcell hbW.below).1; have hfW := (bcell hbW.below).2; (try have hzW : w.heap.size < w1.heap.size := by have hq := hbW.below.size; (try simp at hq); omega); (try have hyW : w.heap.size + 1 < w1.heap.size := by have hq := hbW.below.size; (try simp at hq); omega); (try have hxW : w.heap.size + 2 < w1.heap.size := by have hq := hbW.below.size; (try simp at hq); omega)))
    go_ret
    exact ⟨rfl, Gr.below (by repeat (first | exact Gr.refl _ | refine Gr.alloc ?_ _ | refine Gr.trans ?_ (by assumption) | refine Gr.drew ?_ | refine Gr.drewN ?_ _ | refine Gr.grow ?_ _ | refine Gr.setCell ?_ (by (try simp); (try omega)) _))⟩
  have zl0 : z0.length ≤ 1048576 := by have := w0.1; omega
  have zl1 : z1.length ≤ 1048576 := by have := w1.1; omega
  have HS := Lib.hid (fun (w : World) B v h B1 v1 h1 => Try.sFarthestCorner w a0x a0y B v z0 B1 v1 z1 (fcL a0x a0y z0 z1) (fcD a0x a0y z0 z1) (fcB a0x a0y z0 z1) rfl rfl rfl zl0 h h1)
  have HI := Lib.hid (fun (w : World) B v h B1 v1 h1 => Try.iFarthestCorner w a0x a0y B v z0 B1 v1 z1 (fcL a0x a0y z0 z1) (fcD a0x a0y z0 z1) (fcB a0x a0y z0 z1) rfl rfl rfl zl0 h h1)
  have hlen0 : (fcL a0x a0y z0 z1).length ≤ 1000000000 := (by unfold fcL; split <;> simp)
  generalize fcL a0x a0y z0 z1 = zr at *
  generalize fcD a0x a0y z0 z1 = rd at *
  generalize fcB a0x a0y z0 z1 = rb at *
  have SZ := Lib.hid (fun (w : World) => Try.szCity w a0x a0y a0 len0 cap0 wl0)
  rw [if_neg (by omega)] at SZ
  have zz : ¬ (1048576 : Int) - (len0 : Int) < 0 := by omega
  have WA0 := Lib.hid w0
  have HL0 := Lib.hid hsum
  have WA1 := Lib.hid w1
  have HL1 := Lib.hid hs1
  clear w0 w1
  go_enter Try.func9, Try.ntmps9
  go_wp2_with (first | (go_at_call 22; refine (SZ.out _).mono ?_; rintro e w1 ⟨rfl, g1⟩; have B1 : Below w.heap.size w w1 := (show Gr w w1 from (by repeat (first | exact Gr.refl _ | refine Gr.alloc ?_ _ | refine Gr.trans ?_ (by assumption) | refine Gr.drew ?_ | refine Gr.drewN ?_ _ | refine Gr.grow ?_ _ | refine Gr.setCell ?_ (by (try simp); (try omega)) _))).below; have g2 : Gr (w.alloc (.cells #[.int .i64 a0x, .int .i64 a0y, .slice a0 len0 cap0] 36)) w1 := (by repeat (first | exact Gr.refl _ | refine Gr.alloc ?_ _ | refine Gr.trans ?_ (by assumption) | refine Gr.drew ?_ | refine Gr.drewN ?_ _ | refine Gr.grow ?_ _ | refine Gr.setCell ?_ (by (try simp); (try omega)) _)); have e0 : w1.cell? ⟨w.heap.size, 0, none⟩ = some (.int .i64 a0x) := g2.keep0 (by simp [go_sem]); have e1 : w1.cell? ⟨w.heap.size, 1, none⟩ = some (.int .i64 a0y) := g2.keep0 (by simp [go_sem]); have e2 : w1.cell? ⟨w.heap.size, 2, none⟩ = some (.slice a0 len0 cap0) := g2.keep0 (by simp [go_sem])))
  have sB1 := B1.size
  have sB2 : w.heap.size < w1.heap.size := World.block_lt_of_cell? _ _ e0
  refine (Try.toCity _ _ _ _ _ _ _ HL0.out (ArgE.below WA0.out B1)).mono ?_
  rintro e wv1 ⟨v1, rfl, c1, d1⟩
  obtain ⟨A1, u1, rfl, c1⟩ := OwnE.eta c1
  have f2_0 := cell_k2 (d1) e0
  have f2_1 := cell_k2 (d1) e1
  have f2_2 := cell_k2 (d1) e2
  clear e0 e1 e2
  have D2 := B1.trans ((d1).mono B1.size)
  have s2 := (d1).size
  have Fr1 := c1
  go_wp2_with fail
  refine (Try.toIntS _ _ _ _ _ HL1.out (ArgI.below WA1.out D2)).mono ?_
  rintro e wv3 ⟨v3, rfl, c3, d3⟩
  have f4_0 := cell_k2 (d3) f2_0
  have f4_1 := cell_k2 (d3) f2_1
  have f4_2 := cell_k2 (d3) f2_2
  clear f2_0 f2_1 f2_2
  have o4_r1 := OwnE.below c1 (d3) (Nat.le_refl _)
  have D4 := D2.trans ((d3).mono D2.size)
  have s4 := (d3).size
  have Fr2 := c3
  go_wp2_with fail
  refine (HS.out _ _ _ o4_r1 _ _ c3).mono ?_
  rintro e wC5 ⟨vC5_0, rfl, cC5_0, dC5⟩
  have f6_0 := cell_k2 (dC5) f4_0
  have f6_1 := cell_k2 (dC5) f4_1
  have f6_2 := cell_k2 (dC5) f4_2
  clear f4_0 f4_1 f4_2
  have o6_r1 := OwnE.below o4_r1 (dC5) (Nat.le_refl _)
  have o6_r2 := OwnI.below c3 (dC5) (Nat.le_refl _)
  have D6 := D4.trans ((dC5).mono D4.size)
  have s6 := (dC5).size
  have Fr3 := cC5_0
  go_wp2_with fail
  refine (Try.toCity _ _ _ _ _ _ _ HL0.out (ArgE.below WA0.out D6)).mono ?_
  rintro e wv7 ⟨v7, rfl, c7, d7⟩
  obtain ⟨A7, u7, rfl, c7⟩ := OwnE.eta c7
  have f8_0 := cell_k2 (d7) f6_0
  have f8_1 := cell_k2 (d7) f6_1
  have f8_2 := cell_k2 (d7) f6_2
  clear f6_0 f6_1 f6_2
  have o8_r3 := OwnI.below cC5_0 (d7) (Nat.le_refl _)
  have D8 := D6.trans ((d7).mono D6.size)
  have s8 := (d7).size
  have Fr4 := c7
  have g9 := Gr.alloc (Gr.refl wv7) (.cells #[.int .i64 a0x, .int .i64 a0y, .slice A7 z0.length u7] 42)
  have f10_0 := cell_k2 (g9.below) f8_0
  have f10_1 := cell_k2 (g9.below) f8_1
  have f10_2 := cell_k2 (g9.below) f8_2
  clear f8_0 f8_1 f8_2
  have o10_r3 := OwnI.below o8_r3 (g9.below) (Nat.le_refl _)
  have o10_r4 := OwnE.below c7 (g9.below) (Nat.le_refl _)
  have D10 := D8.trans ((g9.below).mono D8.size)
  have s10 := (g9.below).size
  have h9_0 : (wv7.alloc (.cells #[.int .i64 a0x, .int .i64 a0y, .slice A7 z0.length u7] 42)).cell? ⟨wv7.heap.size, 0, none⟩ = some (.int .i64 a0x) := by simp [go_sem]
  have h9_1 : (wv7.alloc (.cells #[.int .i64 a0x, .int .i64 a0y, .slice A7 z0.length u7] 42)).cell? ⟨wv7.heap.size, 1, none⟩ = some (.int .i64 a0y) := by simp [go_sem]
  have h9_2 : (wv7.alloc (.cells #[.int .i64 a0x, .int .i64 a0y, .slice A7 z0.length u7] 42)).cell? ⟨wv7.heap.size, 2, none⟩ = some (.slice A7 z0.length u7) := by simp [go_sem]
  go_wp2_with fail
  refine (Try.toIntS _ _ _ _ _ HL1.out (ArgI.below WA1.out D10)).mono ?_
  rintro e wv11 ⟨v11, rfl, c11, d11⟩
  have f12_0 := cell_k2 (d11) f10_0
  have f12_1 := cell_k2 (d11) f10_1
  have f12_2 := cell_k2 (d11) f10_2
  have f12_3 := cell_k2 (d11) h9_0
  have f12_4 := cell_k2 (d11) h9_1
  have f12_5 := cell_k2 (d11) h9_2
  clear f10_0 f10_1 f10_2 h9_0 h9_1 h9_2
  have o12_r3 := OwnI.below o10_r3 (d11) (Nat.le_refl _)
  have o12_r4 := OwnE.below o10_r4 (d11) (Nat.le_refl _)
  have D12 := D10.trans ((d11).mono D10.size)
  have s12 := (d11).size
  have Fr5 := c11
  go_wp2_with fail
  refine (HI.out _ _ _ o12_r4 _ _ c11).mono ?_
  rintro e wC13 ⟨vC13_0, rfl, cC13_0, dC13⟩
  have f14_0 := cell_k2 (dC13) f12_0
  have f14_1 := cell_k2 (dC13) f12_1
  have f14_2 := cell_k2 (dC13) f12_2
  have f14_3 := cell_k2 (dC13) f12_3
  have f14_4 := cell_k2 (dC13) f12_4
  have f14_5 := cell_k2 (dC13) f12_5
  clear f12_0 f12_1 f12_2 f12_3 f12_4 f12_5
  have o14_r3 := OwnI.below o12_r3 (dC13) (Nat.le_refl _)
  have o14_r4 := OwnE.below o12_r4 (dC13) (Nat.le_refl _)
  have o14_r5 := OwnI.below c11 (dC13) (Nat.le_refl _)
  have D14 := D12.trans ((dC13).mono D12.size)
  have s14 := (dC13).size
  have Fr6 := cC13_0
  go_wp2_with fail
  refine (Try.eqIntT _ _ _ _ _ _ cC13_0 o14_r3).mono ?_
  rintro e wE15 ⟨rfl, dE15⟩
  have f16_0 := cell_k2 (dE15.below) f14_0
  have f16_1 := cell_k2 (dE15.below) f14_1
  have f16_2 := cell_k2 (dE15.below) f14_2
  have f16_3 := cell_k2 (dE15.below) f14_3
  have f16_4 := cell_k2 (dE15.below) f14_4
  have f16_5 := cell_k2 (dE15.below) f14_5
  clear f14_0 f14_1 f14_2 f14_3 f14_4 f14_5
  have o16_r3 := OwnI.below o14_r3 (dE15.below) (Nat.le_refl _)
  have o16_r4 := OwnE.below o14_r4 (dE15.below) (Nat.le_refl _)
  have o16_r5 := OwnI.below o14_r5 (dE15.below) (Nat.le_refl _)
  have o16_r6 := OwnT.below cC13_0 (dE15.below) (Nat.le_refl _)
  have D16 := D14.trans ((dE15.below).mono D14.size)
  have s16 := (dE15.below).size
  go_upto_region 13 with fail
  go_region_held3 (fun W' => W'.cell? ⟨w.heap.size, 0, none⟩ = some (.int .i64 a0x) ∧ W'.cell? ⟨w.heap.size, 1, none⟩ = some (.int .i64 a0y) ∧ W'.cell? ⟨w.heap.size, 2, none⟩ = some (.slice a0 len0 cap0) ∧ W'.cell? ⟨wv7.heap.size, 0, none⟩ = some (.int .i64 a0x) ∧ W'.cell? ⟨wv7.heap.size, 1, none⟩ = some (.int .i64 a0y) ∧ W'.cell? ⟨wv7.heap.size, 2, none⟩ = some (.slice A7 z0.length u7))
    (first | exact ⟨f16_0, f16_1, f16_2, f16_3, f16_4, f16_5⟩ | exact ⟨cell_k2 (Below.drew (Below.refl _ _)) f16_0, cell_k2 (Below.drew (Below.refl _ _)) f16_1, cell_k2 (Below.drew (Below.refl _ _)) f16_2, cell_k2 (Below.drew (Below.refl _ _)) f16_3, cell_k2 (Below.drew (Below.refl _ _)) f16_4, cell_k2 (Below.drew (Below.refl _ _)) f16_5⟩ | exact keep6 dA17 (by assumption) | exact keep6 dE17.below (by assumption))
    ((first | (go_at_call 24; refine (Try.toCity _ _ _ _ _ _ _ HL0.out (ArgE.below WA0.out (by first | exact D16 | exact Below.drew D16))).mono ?_; rintro e wA17 ⟨vA17, rfl, cA17, dA17⟩) | (go_at_call 27; refine (Try.eqCity _ _ _ _ _ _ _ _ (OwnE.below (by first | exact o16_r4 | exact OwnE.below o16_r4 (Below.drew (Below.refl _ _)) (Nat.le_refl _)) dA17 (Nat.le_refl _)) cA17).mono ?_; rintro e wE17 ⟨rfl, dE17⟩)))
  have f18_0 := cell_k2 ((show Below wE15.heap.size wE15 _ by first | exact dA17 | exact Below.trans (Below.drew (Below.refl _ _)) dA17)) f16_0
  have f18_1 := cell_k2 ((show Below wE15.heap.size wE15 _ by first | exact dA17 | exact Below.trans (Below.drew (Below.refl _ _)) dA17)) f16_1
  have f18_2 := cell_k2 ((show Below wE15.heap.size wE15 _ by first | exact dA17 | exact Below.trans (Below.drew (Below.refl _ _)) dA17)) f16_2
  have f18_3 := cell_k2 ((show Below wE15.heap.size wE15 _ by first | exact dA17 | exact Below.trans (Below.drew (Below.refl _ _)) dA17)) f16_3
  have f18_4 := cell_k2 ((show Below wE15.heap.size wE15 _ by first | exact dA17 | exact Below.trans (Below.drew (Below.refl _ _)) dA17)) f16_4
  have f18_5 := cell_k2 ((show Below wE15.heap.size wE15 _ by first | exact dA17 | exact Below.trans (Below.drew (Below.refl _ _)) dA17)) f16_5
  clear f16_0 f16_1 f16_2 f16_3 f16_4 f16_5
  have o18_r3 := OwnI.below o16_r3 ((show Below wE15.heap.size wE15 _ by first | exact dA17 | exact Below.trans (Below.drew (Below.refl _ _)) dA17)) (Nat.le_refl _)
  have o18_r4 := OwnE.below o16_r4 ((show Below wE15.heap.size wE15 _ by first | exact dA17 | exact Below.trans (Below.drew (Below.refl _ _)) dA17)) (Nat.le_refl _)
  have o18_r5 := OwnI.below o16_r5 ((show Below wE15.heap.size wE15 _ by first | exact dA17 | exact Below.trans (Below.drew (Below.refl _ _)) dA17)) (Nat.le_refl _)
  have o18_r6 := OwnT.below o16_r6 ((show Below wE15.heap.size wE15 _ by first | exact dA17 | exact Below.trans (Below.drew (Below.refl _ _)) dA17)) (Nat.le_refl _)
  have D18 := D16.trans (((show Below wE15.heap.size wE15 _ by first | exact dA17 | exact Below.trans (Below.drew (Below.refl _ _)) dA17)).mono D16.size)
  have s18 := ((show Below wE15.heap.size wE15 _ by first | exact dA17 | exact Below.trans (Below.drew (Below.refl _ _)) dA17)).size
  have f19_0 := cell_k2 (dE17.below) f18_0
  have f19_1 := cell_k2 (dE17.below) f18_1
  have f19_2 := cell_k2 (dE17.below) f18_2
  have f19_3 := cell_k2 (dE17.below) f18_3
  have f19_4 := cell_k2 (dE17.below) f18_4
  have f19_5 := cell_k2 (dE17.below) f18_5
  clear f18_0 f18_1 f18_2 f18_3 f18_4 f18_5
  have o19_r3 := OwnI.below o18_r3 (dE17.below) (Nat.le_refl _)
  have o19_r4 := OwnE.below o18_r4 (dE17.below) (Nat.le_refl _)
  have o19_r5 := OwnI.below o18_r5 (dE17.below) (Nat.le_refl _)
  have o19_r6 := OwnT.below o18_r6 (dE17.below) (Nat.le_refl _)
  have D19 := D18.trans ((dE17.below).mono D18.size)
  have s19 := (dE17.below).size
  go_wp2_with fail
  refine (Try.toIntS _ _ _ _ _ HL1.out (ArgI.below WA1.out D19)).mono ?_
  rintro e wv20 ⟨v20, rfl, c20, d20⟩
  have f21_0 := cell_k2 (d20) f19_0
  have f21_1 := cell_k2 (d20) f19_1
  have f21_2 := cell_k2 (d20) f19_2
  have f21_3 := cell_k2 (d20) f19_3
  have f21_4 := cell_k2 (d20) f19_4
  have f21_5 := cell_k2 (d20) f19_5
  clear f19_0 f19_1 f19_2 f19_3 f19_4 f19_5
  have o21_r3 := OwnI.below o19_r3 (d20) (Nat.le_refl _)
  have o21_r4 := OwnE.below o19_r4 (d20) (Nat.le_refl _)
  have o21_r5 := OwnI.below o19_r5 (d20) (Nat.le_refl _)
  have o21_r6 := OwnT.below o19_r6 (d20) (Nat.le_refl _)
  have D21 := D19.trans ((d20).mono D19.size)
  have s21 := (d20).size
  have Fr7 := c20
  go_wp2_with fail
  refine (Try.eqIntS _ _ _ _ _ _ o21_r5 c20).mono ?_
  rintro e wE22 ⟨rfl, dE22⟩
  have f23_0 := cell_k2 (dE22.below) f21_0
  have f23_1 := cell_k2 (dE22.below) f21_1
  have f23_2 := cell_k2 (dE22.below) f21_2
  have f23_3 := cell_k2 (dE22.below) f21_3
  have f23_4 := cell_k2 (dE22.below) f21_4
  have f23_5 := cell_k2 (dE22.below) f21_5
  clear f21_0 f21_1 f21_2 f21_3 f21_4 f21_5
  have o23_r3 := OwnI.below o21_r3 (dE22.below) (Nat.le_refl _)
  have o23_r4 := OwnE.below o21_r4 (dE22.below) (Nat.le_refl _)
  have o23_r5 := OwnI.below o21_r5 (dE22.below) (Nat.le_refl _)
  have o23_r6 := OwnT.below o21_r6 (dE22.below) (Nat.le_refl _)
  have o23_r7 := OwnI.below c20 (dE22.below) (Nat.le_refl _)
  have D23 := D21.trans ((dE22.below).mono D21.size)
  have s23 := (dE22.below).size
  go_wp2_with fail
  refine (Try.markCity _ _ _ _ _ _ ((Nat.le_trans (by have := WA0.out.1; have := HL0.out; omega) (show 1048576 ≤ 1000000000 by decide))) o23_r4).mono ?_
  rintro e wM24 ⟨rfl, cM24, dM24⟩
  have s24 := dM24.size
  have o24_r3 := OwnI.grown o23_r3 dM24 (own_ne' Fr3 Fr4 (by omega))
  have o24_r5 := OwnI.grown o23_r5 dM24 (own_ne Fr5 Fr4 (by omega))
  have o24_r6 := OwnT.grown o23_r6 dM24 (own_ne Fr6 Fr4 (by omega))
  have f24_0 := cell_gb dM24 f23_0 (fun e => by have := (World.ownsRow.lt Fr4 _ e.symm).1; omega)
  have f24_1 := cell_gb dM24 f23_1 (fun e => by have := (World.ownsRow.lt Fr4 _ e.symm).1; omega)
  have f24_2 := cell_gb dM24 f23_2 (fun e => by have := (World.ownsRow.lt Fr4 _ e.symm).1; omega)
  clear f23_0 f23_1 f23_2
  have b24 := Below.grown (Below.refl w.heap.size _) dM24 (by omega) (fun j hj => by have := (World.ownsRow.lt Fr4 j hj).1; omega)
  have D24 := D23.trans b24
  clear f23_3 f23_4 f23_5
  have lz0 : ((z0).length : Int) ≤ 1048576 := by have := WA0.out.1; have := HL0.out; omega
  go_wp2_with fail
  refine (Try.markIntM _ _ _ _ (1 + 3 * ((z0).length : Int)) (by omega) (by omega) ((Nat.le_trans (by have := WA1.out.1; have := HL1.out; omega) (show 1048576 ≤ 1000000000 by decide))) o24_r5).mono ?_
  rintro e wM25 ⟨rfl, cM25, dM25⟩
  have s25 := dM25.size
  have o25_r3 := OwnI.grown o24_r3 dM25 (own_ne' Fr3 Fr5 (by omega))
  have o25_r4 := OwnE.grown cM24 dM25 (own_ne' Fr4 Fr5 (by omega))
  have o25_r6 := OwnT.grown o24_r6 dM25 (own_ne Fr6 Fr5 (by omega))
  have f25_0 := cell_gb dM25 f24_0 (fun e => by have := (World.ownsRow.lt Fr5 _ e.symm).1; omega)
  have f25_1 := cell_gb dM25 f24_1 (fun e => by have := (World.ownsRow.lt Fr5 _ e.symm).1; omega)
  have f25_2 := cell_gb dM25 f24_2 (fun e => by have := (World.ownsRow.lt Fr5 _ e.symm).1; omega)
  clear f24_0 f24_1 f24_2
  have b25 := Below.grown (Below.refl w.heap.size _) dM25 (by omega) (fun j hj => by have := (World.ownsRow.lt Fr5 j hj).1; omega)
  have D25 := D24.trans b25
  have lz1 : ((z1).length : Int) ≤ 1048576 := by have := WA1.out.1; have := HL1.out; omega
  go_wp2_with fail
  refine (Try.eqIntT _ _ _ _ _ _ o25_r6 o25_r3).mono ?_
  rintro e wE26 ⟨rfl, dE26⟩
  have f27_0 := cell_k2 (dE26.below) f25_0
  have f27_1 := cell_k2 (dE26.below) f25_1
  have f27_2 := cell_k2 (dE26.below) f25_2
  clear f25_0 f25_1 f25_2
  have o27_r3 := OwnI.below o25_r3 (dE26.below) (Nat.le_refl _)
  have o27_r4 := OwnE.below o25_r4 (dE26.below) (Nat.le_refl _)
  have o27_r5 := OwnI.below cM25 (dE26.below) (Nat.le_refl _)
  have o27_r6 := OwnT.below o25_r6 (dE26.below) (Nat.le_refl _)
  have D27 := D25.trans ((dE26.below).mono D25.size)
  have s27 := (dE26.below).size
  go_wp2_with fail
  refine (Try.markIntT _ _ _ _ (1) (by omega) (by omega) (hlen0) o27_r6).mono ?_
  rintro e wM28 ⟨rfl, cM28, dM28⟩
  have s28 := dM28.size
  have o28_r3 := OwnI.grown o27_r3 dM28 (own_ne' Fr3 Fr6 (by omega))
  have o28_r4 := OwnE.grown o27_r4 dM28 (own_ne' Fr4 Fr6 (by omega))
  have o28_r5 := OwnI.grown o27_r5 dM28 (own_ne' Fr5 Fr6 (by omega))
  have f28_0 := cell_gb dM28 f27_0 (fun e => by have := (World.ownsRow.lt Fr6 _ e.symm).1; omega)
  have f28_1 := cell_gb dM28 f27_1 (fun e => by have := (World.ownsRow.lt Fr6 _ e.symm).1; omega)
  have f28_2 := cell_gb dM28 f27_2 (fun e => by have := (World.ownsRow.lt Fr6 _ e.symm).1; omega)
  clear f27_0 f27_1 f27_2
  have b28 := Below.grown (Below.refl w.heap.size _) dM28 (by omega) (fun j hj => by have := (World.ownsRow.lt Fr6 j hj).1; omega)
  have D28 := D27.trans b28
  go_wp2_with fail
  refine (Try.heldIntT _ _ _ _ (1) (by omega) (by omega) (hlen0) cM28).mono ?_
  rintro e wH29 ⟨rfl, rfl⟩
  go_wp2_with fail
  refine (Try.toCity _ _ _ _ _ _ _ HL0.out (ArgE.below WA0.out D28)).mono ?_
  rintro e wv30 ⟨v30, rfl, c30, d30⟩
  obtain ⟨A30, u30, rfl, c30⟩ := OwnE.eta c30
  have f31_0 := cell_k2 (d30) f28_0
  have f31_1 := cell_k2 (d30) f28_1
  have f31_2 := cell_k2 (d30) f28_2
  clear f28_0 f28_1 f28_2
  have o31_r3 := OwnI.below o28_r3 (d30) (Nat.le_refl _)
  have o31_r6 := OwnT.below cM28 (d30) (Nat.le_refl _)
  have D31 := D28.trans ((d30).mono D28.size)
  have s31 := (d30).size
  have Fr8 := c30
  go_wp2_with fail
  refine (Try.toIntS _ _ _ _ _ HL1.out (ArgI.below WA1.out D31)).mono ?_
  rintro e wv32 ⟨v32, rfl, c32, d32⟩
  have f33_0 := cell_k2 (d32) f31_0
  have f33_1 := cell_k2 (d32) f31_1
  have f33_2 := cell_k2 (d32) f31_2
  clear f31_0 f31_1 f31_2
  have o33_r3 := OwnI.below o31_r3 (d32) (Nat.le_refl _)
  have o33_r6 := OwnT.below o31_r6 (d32) (Nat.le_refl _)
  have o33_r8 := OwnE.below c30 (d32) (Nat.le_refl _)
  have D33 := D31.trans ((d32).mono D31.size)
  have s33 := (d32).size
  have Fr9 := c32
  go_wp2_with fail
  refine (HI.out _ _ _ o33_r8 _ _ c32).mono ?_
  rintro e wC34 ⟨vC34_0, rfl, cC34_0, dC34⟩
  have f35_0 := cell_k2 (dC34) f33_0
  have f35_1 := cell_k2 (dC34) f33_1
  have f35_2 := cell_k2 (dC34) f33_2
  clear f33_0 f33_1 f33_2
  have o35_r3 := OwnI.below o33_r3 (dC34) (Nat.le_refl _)
  have o35_r6 := OwnT.below o33_r6 (dC34) (Nat.le_refl _)
  have o35_r8 := OwnE.below o33_r8 (dC34) (Nat.le_refl _)
  have o35_r9 := OwnI.below c32 (dC34) (Nat.le_refl _)
  have D35 := D33.trans ((dC34).mono D33.size)
  have s35 := (dC34).size
  have Fr10 := cC34_0
  go_wp2_with fail
  refine (Try.eqIntT _ _ _ _ _ _ cC34_0 o35_r3).mono ?_
  rintro e wE36 ⟨rfl, dE36⟩
  have f37_0 := cell_k2 (dE36.below) f35_0
  have f37_1 := cell_k2 (dE36.below) f35_1
  have f37_2 := cell_k2 (dE36.below) f35_2
  clear f35_0 f35_1 f35_2
  have o37_r3 := OwnI.below o35_r3 (dE36.below) (Nat.le_refl _)
  have o37_r6 := OwnT.below o35_r6 (dE36.below) (Nat.le_refl _)
  have o37_r8 := OwnE.below o35_r8 (dE36.below) (Nat.le_refl _)
  have o37_r9 := OwnI.below o35_r9 (dE36.below) (Nat.le_refl _)
  have o37_r10 := OwnT.below cC34_0 (dE36.below) (Nat.le_refl _)
  have D37 := D35.trans ((dE36.below).mono D35.size)
  have s37 := (dE36.below).size
  go_wp2_with fail
  refine (Try.heldIntT _ _ _ _ (1) (by omega) (by omega) (hlen0) o37_r6).mono ?_
  rintro e wH38 ⟨rfl, rfl⟩
  go_wp2_with fail
  go_ret
  exact ⟨rfl, D37⟩

set_option maxRecDepth 100000 in
theorem lifted (os : Os) (started : os.Started) (H : Type) (enc : TypeId × Value → H) :
    ReturnsInHanded {} Try.checked os 9 .any (Rows.fnExactFarthestCornerSpec.pre6 enc Try.prog Try.f9 Rows.fnExactFarthestCornerRow.domain false) (Rows.fnExactFarthestCornerSpec.post enc Try.prog Try.f9 false true false false) := by
  refine returnsInHanded_of_change (C := Try.checked) own started (by kernel_rfl) Try.func9
    (ChangeSpec.witness6 (enc := enc) (C := Try.checked) false ⟨#[], #[.agg #[.int .i64 0, .int .i64 0, .slice none 0 0], .slice none 0 0], []⟩ 8 (by kernel_rfl) (by kernel_rfl) (by kernel_rfl) (by kernel_rfl)) ?_
  intro W base args ds gs before hval0 hW hcnd _
  have hval : ∀ (j : Nat) t v, Try.f9.params[j]? = some t → args[j]? = some v → Value.okWide Try.prog W .any base t v := hval0
  have hW' := hW
  obtain ⟨p, q, hA0, hV, rfl, hfz, hnd⟩ := hW
  have hA : DataW.TrodAll enc Try.prog W 0 (fun _ => true) true Try.f9.params.toList args.toList ds p := hA0
  rw [Try.params9] at hA hval
  obtain ⟨v0, vs0, d0, ds0, p0, q0, hargs, rfl, rfl, h0, r0⟩ := trodAll_cons hA
  obtain ⟨v1, vs1, d1, ds1, p1, q1, rfl, rfl, rfl, h1, r1⟩ := trodAll_cons r0
  obtain ⟨rfl, rfl, rfl⟩ := trodAll_nil r1
  obtain rfl : args = #[v0, v1] := by cases args; simp_all
  obtain ⟨rfl, rfl⟩ := trodVars_none hV
  have k0 := h0
  have lt0 : ∀ x ∈ p0, x.block < W.heap.size := by obtain ⟨m, hm⟩ := k0; exact DataW.trod_lt m _ _ _ hm
  obtain ⟨c0x, c0y, c0z, y0x, y0y, y0z, m0, rfl, rfl, rfl, hy0x, hy0y, hy0z⟩ := open_agg3 Try.underlying36 (by kernel_rfl) (show Try.prog.cellsOf 36 = 3 by kernel_rfl) (hval 0 36 v0 rfl rfl) h0
  obtain ⟨a0x, e0x, rfl, _⟩ := DataW.trod_int Try.underlying3 hy0x
  obtain ⟨a0y, e0y, rfl, _⟩ := DataW.trod_int Try.underlying3 hy0y
  obtain ⟨a0, len0, cap0, e0z⟩ := slice_form Try.underlying34 hy0z
  simp at e0x e0y e0z
  subst e0x e0y e0z
  obtain ⟨z0, w0⟩ := ArgE.of_trod Av.b0 (by decide) bcs_len Try.underlying34 (by kernel_rfl) (fun n cs x h => block_of_trod Try.underlying38 (by kernel_rfl) rfl rfl rfl (by kernel_rfl) (by kernel_rfl) (by kernel_rfl) Try.underlying3 Try.underlying3 Try.underlying4 n cs x h) hy0z
  obtain ⟨a1, len1, cap1, rfl⟩ := okWide_slice Try.underlying22 (hval 1 22 v1 rfl rfl)
  have k1 := h1
  have lt1 : ∀ x ∈ p1, x.block < W.heap.size := by obtain ⟨m, hm⟩ := k1; exact DataW.trod_lt m _ _ _ hm
  obtain ⟨z1, w1⟩ : ∃ zs, ArgI W a1 len1 cap1 zs := by
    obtain ⟨fuel, hf⟩ := h1
    rcases open_ints Try.underlying22 Try.underlying3 (by kernel_rfl) hf with ⟨hcs, _⟩ | ⟨x, l, c, zs, hcs, _, hl, hm, hz, _, hcell, hwz⟩
    · simp [Value.cells] at hcs
      obtain ⟨rfl, rfl, rfl⟩ := hcs
      exact ⟨[], rfl, Nat.le_refl _, Nat.zero_le _, fun n hn => by simp at hn, .inl rfl⟩
    · simp [Value.cells] at hcs
      obtain ⟨rfl, rfl, rfl⟩ := hcs
      exact ArgI.of_open hl hm (by simpa using hz) hcell hwz
  clear hA0 hval0
  simp only [List.append_nil] at hW'
  refine (walk a0x a0y a0 len0 cap0 z0 a1 len1 cap1 z1 W w0 w1).mono fun e W' ⟨he, bel⟩ => ?_
  subst he
  exact ⟨_, rfl, _, _, _, [], _, [], hW', trodAll_mk1 (shut_bool Try.underlying4 _), (trodAll_cons_mk (Below.trod laidOut (by kernel_rfl) (of_decide_eq_true (by kernel_rfl)) k0 bel lt0) (trodAll_cons_mk (Below.trod laidOut (by kernel_rfl) (of_decide_eq_true (by kernel_rfl)) k1 bel lt1) trodAll_mk0)), rfl, bel.frame _, fun h => by cases h⟩

theorem over : Rows.fnExactFarthestCornerRow.holds Try.pinned (OpenSpec.ofChange Rows.fnExactFarthestCornerSpec) :=
  OpenClaim.holds_of_wide 9 Try.f9 rfl rfl rfl rfl rfl rfl rfl ⟨rfl, rfl, rfl, rfl, rfl⟩ rfl rfl rfl rfl rfl (by kernel_rfl) Try.func9 (by kernel_rfl)
    (of_decide_eq_true (by kernel_rfl)) (by unfold Func.isWrapper; first | (rw [if_pos (by decide +kernel)]; kernel_rfl) | (rw [if_neg (by decide +kernel)]; exact ⟨rfl, rfl⟩))
    (fun os started H enc _ => lifted os started H enc)

/-- The statement. -/
theorem proved : Rows.FnExactFarthestCornerSaid :=
  over
#print axioms proved
end Go.Proofs.Ytkhjjafeoijaaaa.fnExactFarthestCorner
