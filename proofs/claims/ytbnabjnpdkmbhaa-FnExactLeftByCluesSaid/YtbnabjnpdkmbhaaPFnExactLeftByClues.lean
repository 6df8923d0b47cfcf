/-
  'FnExactLeftByClues' answers true at every argument and leaves its arguments as they were: the function of the program and its model give the same results.
-/
import Derived.Test.YtbnabjnpdkmbhaaRows
import Derived.WalkKit
import Derived.ProofKit
import Derived.OpenShut
import Derived.Lib.SmallJoins
import Derived.Carry
import Derived.Test.YtbnabjnpdkmbhaaFr
import Derived.Test.YtbnabjnpdkmbhaaPzQ
import Derived.Test.YtbnabjnpdkmbhaaPzL
import Derived.Test.YtbnabjnpdkmbhaaArgsZ
namespace Go.Proofs.Ytbnabjnpdkmbhaa.fnExactLeftByClues
open Go.ChangeShapes Go.WideShapes Go.ChangeAt Go.RowKit Go.Joins
open Go.WideMaps Go.WideElems
open Go.ChangeMaps (setBlock shut_map_nil open_string shut_string keptBut_setBlock frozen?_setBlock heap_setBlock_same)
set_option linter.unusedVariables false
set_option linter.unusedSimpArgs false

theorem own : ownKnob Try.prog.godebug = none := by kernel_rfl
theorem laidOut : laidOutB Try.prog = true := by kernel_rfl

set_option maxRecDepth 100000 in
set_option maxHeartbeats 1000000 in
theorem walk (a0x a0y : Int) (a0 : Option Addr) (len0 cap0 : Nat) (z0 : List Clu) (w : World) (w0 : ArgC w a0 len0 cap0 z0) :
    Calls Try.prog 14 #[.agg #[.int .i64 a0x, .int .i64 a0y, .slice a0 len0 cap0]] w fun e w' => e = .returned (.bool true) ∧ Below w.heap.size w w' := by
  have wl0 : len0 ≤ maxLen := Nat.le_trans w0.2.1 w0.2.2.1
  by_cases hsum : len0 ≤ 1048576
  case neg =>
    have SZ := Lib.hid (fun (w : World) => Try.szPuzzle w a0x a0y a0 len0 cap0 wl0)
    rw [if_pos (by omega)] at SZ
    clear w0
    go_enter Try.func14, Try.ntmps14
    go_wp2_with (first | (go_at_call 22; refine (SZ.out _).mono ?_; rintro e w1 ⟨rfl, hbW⟩; have hcW := (bcell hbW.below).1; have hfW := (bcell hbW.below).2; (try have hzW : w.heap.size < w1.heap.size := by have hq := hbW.below.size; (try simp at hq); omega); (try have hyW : w.heap.size + 1 < w1.heap.size := by have hq := hbW.below.size; (try simp at hq); omega); (try have hxW : w.heap.size + 2 < w1.heap.size := by have hq := hbW.below.size; (try simp at hq); omega)))
    go_ret
    exact ⟨rfl, Gr.below (by repeat (first | exact Gr.refl _ | refine Gr.alloc ?_ _ | refine Gr.trans ?_ (by assumption) | refine Gr.drew ?_ | refine Gr.drewN ?_ _ | refine Gr.grow ?_ _ | refine Gr.setCell ?_ (by (try simp); (try omega)) _))⟩
  have zl0 : z0.length ≤ 1048576 := by have := w0.1; omega
  have HS := Lib.hid (fun (w : World) B v h => Try.sLeftByClues w a0x a0y B v z0 (pgood a0x a0y z0) rfl zl0 h)
  have HI := Lib.hid (fun (w : World) B v h => Try.iLeftByClues w a0x a0y B v z0 (pgood a0x a0y z0) rfl zl0 h)
  have hlen0 : (lef a0x a0y z0).length ≤ 1000000000 := by have := lef_len a0x a0y z0; omega
  generalize lef a0x a0y z0 = xs at *
  generalize pgood a0x a0y z0 = b at *
  have SZ := Lib.hid (fun (w : World) => Try.szPuzzle w a0x a0y a0 len0 cap0 wl0)
  rw [if_neg (by omega)] at SZ
  have zz : ¬ (1048576 : Int) - (len0 : Int) < 0 := by omega
  have WA0 := Lib.hid w0
  have HL0 := Lib.hid hsum
  clear w0
  go_enter Try.func14, Try.ntmps14
  go_wp2_with (first | (go_at_call 22; refine (SZ.out _).mono ?_; rintro e w1 ⟨rfl, g1⟩; have B1 : Below w.heap.size w w1 := (show Gr w w1 from (by repeat (first | exact Gr.refl _ | refine Gr.alloc ?_ _ | refine Gr.trans ?_ (by assumption) | refine Gr.drew ?_ | refine Gr.drewN ?_ _ | refine Gr.grow ?_ _ | refine Gr.setCell ?_ (by (try simp); (try omega)) _))).below; have g2 : Gr (w.alloc (.cells #[.int .i64 a0x, .int .i64 a0y, .slice a0 len0 cap0] 34)) w1 := (by repeat (first | exact Gr.refl _ | refine Gr.alloc ?_ _ | refine Gr.trans ?_ (by assumption) | refine Gr.drew ?_ | refine Gr.drewN ?_ _ | refine Gr.grow ?_ _ | refine Gr.setCell ?_ (by (try simp); (try omega)) _)); have e0 : w1.cell? ⟨w.heap.size, 0, none⟩ = some (.int .i64 a0x) := g2.keep0 (by simp [go_sem]); have e1 : w1.cell? ⟨w.heap.size, 1, none⟩ = some (.int .i64 a0y) := g2.keep0 (by simp [go_sem]); have e2 : w1.cell? ⟨w.heap.size, 2, none⟩ = some (.slice a0 len0 cap0) := g2.keep0 (by simp [go_sem])))
  have sB1 := B1.size
  have sB2 : w.heap.size < w1.heap.size := World.block_lt_of_cell? _ _ e0
  refine (Try.toPuzzle _ _ _ _ _ _ _ HL0.out (ArgE.below WA0.out B1)).mono ?_
  rintro e wv1 ⟨v1, rfl, c1, d1⟩
  obtain ⟨A1, u1, rfl, c1⟩ := OwnE.eta c1
  have f2_0 := cell_k2 (d1) e0
  have f2_1 := cell_k2 (d1) e1
  have f2_2 := cell_k2 (d1) e2
  clear e0 e1 e2
  have D2 := B1.trans ((d1).mono B1.size)
  have s2 := (d1).size
  have Fr1 := c1
  go_wp2_with fail
  refine (HS.out _ _ _ c1).mono ?_
  rintro e wC3 ⟨vC3_0, rfl, cC3_0, dC3⟩
  have f4_0 := cell_k2 (dC3) f2_0
  have f4_1 := cell_k2 (dC3) f2_1
  have f4_2 := cell_k2 (dC3) f2_2
  clear f2_0 f2_1 f2_2
  have o4_r1 := OwnE.below c1 (dC3) (Nat.le_refl _)
  have D4 := D2.trans ((dC3).mono D2.size)
  have s4 := (dC3).size
  have Fr2 := cC3_0
  go_wp2_with fail
  refine (Try.toPuzzle _ _ _ _ _ _ _ HL0.out (ArgE.below WA0.out D4)).mono ?_
  rintro e wv5 ⟨v5, rfl, c5, d5⟩
  obtain ⟨A5, u5, rfl, c5⟩ := OwnE.eta c5
  have f6_0 := cell_k2 (d5) f4_0
  have f6_1 := cell_k2 (d5) f4_1
  have f6_2 := cell_k2 (d5) f4_2
  clear f4_0 f4_1 f4_2
  have o6_r2 := OwnI.below cC3_0 (d5) (Nat.le_refl _)
  have D6 := D4.trans ((d5).mono D4.size)
  have s6 := (d5).size
  have Fr3 := c5
  have g7 := Gr.alloc (Gr.refl wv5) (.cells #[.int .i64 a0x, .int .i64 a0y, .slice A5 z0.length u5] 39)
  have f8_0 := cell_k2 (g7.below) f6_0
  have f8_1 := cell_k2 (g7.below) f6_1
  have f8_2 := cell_k2 (g7.below) f6_2
  clear f6_0 f6_1 f6_2
  have o8_r2 := OwnI.below o6_r2 (g7.below) (Nat.le_refl _)
  have o8_r3 := OwnE.below c5 (g7.below) (Nat.le_refl _)
  have D8 := D6.trans ((g7.below).mono D6.size)
  have s8 := (g7.below).size
  have h7_0 : (wv5.alloc (.cells #[.int .i64 a0x, .int .i64 a0y, .slice A5 z0.length u5] 39)).cell? ⟨wv5.heap.size, 0, none⟩ = some (.int .i64 a0x) := by simp [go_sem]
  have h7_1 : (wv5.alloc (.cells #[.int .i64 a0x, .int .i64 a0y, .slice A5 z0.length u5] 39)).cell? ⟨wv5.heap.size, 1, none⟩ = some (.int .i64 a0y) := by simp [go_sem]
  have h7_2 : (wv5.alloc (.cells #[.int .i64 a0x, .int .i64 a0y, .slice A5 z0.length u5] 39)).cell? ⟨wv5.heap.size, 2, none⟩ = some (.slice A5 z0.length u5) := by simp [go_sem]
  go_wp2_with fail
  refine (HI.out _ _ _ o8_r3).mono ?_
  rintro e wC9 ⟨vC9_0, rfl, cC9_0, dC9⟩
  have f10_0 := cell_k2 (dC9) f8_0
  have f10_1 := cell_k2 (dC9) f8_1
  have f10_2 := cell_k2 (dC9) f8_2
  have f10_3 := cell_k2 (dC9) h7_0
  have f10_4 := cell_k2 (dC9) h7_1
  have f10_5 := cell_k2 (dC9) h7_2
  clear f8_0 f8_1 f8_2 h7_0 h7_1 h7_2
  have o10_r2 := OwnI.below o8_r2 (dC9) (Nat.le_refl _)
  have o10_r3 := OwnE.below o8_r3 (dC9) (Nat.le_refl _)
  have D10 := D8.trans ((dC9).mono D8.size)
  have s10 := (dC9).size
  have Fr4 := cC9_0
  go_wp2_with fail
  refine (Try.eqIntS _ _ _ _ _ _ cC9_0 o10_r2).mono ?_
  rintro e wE11 ⟨rfl, dE11⟩
  have f12_0 := cell_k2 (dE11.below) f10_0
  have f12_1 := cell_k2 (dE11.below) f10_1
  have f12_2 := cell_k2 (dE11.below) f10_2
  have f12_3 := cell_k2 (dE11.below) f10_3
  have f12_4 := cell_k2 (dE11.below) f10_4
  have f12_5 := cell_k2 (dE11.below) f10_5
  clear f10_0 f10_1 f10_2 f10_3 f10_4 f10_5
  have o12_r2 := OwnI.below o10_r2 (dE11.below) (Nat.le_refl _)
  have o12_r3 := OwnE.below o10_r3 (dE11.below) (Nat.le_refl _)
  have o12_r4 := OwnI.below cC9_0 (dE11.below) (Nat.le_refl _)
  have D12 := D10.trans ((dE11.below).mono D10.size)
  have s12 := (dE11.below).size
  go_upto_region 10 with fail
  go_region_held3 (fun W' => W'.cell? ⟨w.heap.size, 0, none⟩ = some (.int .i64 a0x) ∧ W'.cell? ⟨w.heap.size, 1, none⟩ = some (.int .i64 a0y) ∧ W'.cell? ⟨w.heap.size, 2, none⟩ = some (.slice a0 len0 cap0) ∧ W'.cell? ⟨wv5.heap.size, 0, none⟩ = some (.int .i64 a0x) ∧ W'.cell? ⟨wv5.heap.size, 1, none⟩ = some (.int .i64 a0y) ∧ W'.cell? ⟨wv5.heap.size, 2, none⟩ = some (.slice A5 z0.length u5))
    (first | exact ⟨f12_0, f12_1, f12_2, f12_3, f12_4, f12_5⟩ | exact ⟨cell_k2 (Below.drew (Below.refl _ _)) f12_0, cell_k2 (Below.drew (Below.refl _ _)) f12_1, cell_k2 (Below.drew (Below.refl _ _)) f12_2, cell_k2 (Below.drew (Below.refl _ _)) f12_3, cell_k2 (Below.drew (Below.refl _ _)) f12_4, cell_k2 (Below.drew (Below.refl _ _)) f12_5⟩ | exact keep6 dA13 (by assumption) | exact keep6 dE13.below (by assumption))
    ((first | (go_at_call 24; refine (Try.toPuzzle _ _ _ _ _ _ _ HL0.out (ArgE.below WA0.out (by first | exact D12 | exact Below.drew D12))).mono ?_; rintro e wA13 ⟨vA13, rfl, cA13, dA13⟩) | (go_at_call 26; refine (Try.eqPuzzle _ _ _ _ _ _ _ _ (OwnE.below (by first | exact o12_r3 | exact OwnE.below o12_r3 (Below.drew (Below.refl _ _)) (Nat.le_refl _)) dA13 (Nat.le_refl _)) cA13).mono ?_; rintro e wE13 ⟨rfl, dE13⟩)))
  have f14_0 := cell_k2 ((show Below wE11.heap.size wE11 _ by first | exact dA13 | exact Below.trans (Below.drew (Below.refl _ _)) dA13)) f12_0
  have f14_1 := cell_k2 ((show Below wE11.heap.size wE11 _ by first | exact dA13 | exact Below.trans (Below.drew (Below.refl _ _)) dA13)) f12_1
  have f14_2 := cell_k2 ((show Below wE11.heap.size wE11 _ by first | exact dA13 | exact Below.trans (Below.drew (Below.refl _ _)) dA13)) f12_2
  have f14_3 := cell_k2 ((show Below wE11.heap.size wE11 _ by first | exact dA13 | exact Below.trans (Below.drew (Below.refl _ _)) dA13)) f12_3
  have f14_4 := cell_k2 ((show Below wE11.heap.size wE11 _ by first | exact dA13 | exact Below.trans (Below.drew (Below.refl _ _)) dA13)) f12_4
  have f14_5 := cell_k2 ((show Below wE11.heap.size wE11 _ by first | exact dA13 | exact Below.trans (Below.drew (Below.refl _ _)) dA13)) f12_5
  clear f12_0 f12_1 f12_2 f12_3 f12_4 f12_5
  have o14_r2 := OwnI.below o12_r2 ((show Below wE11.heap.size wE11 _ by first | exact dA13 | exact Below.trans (Below.drew (Below.refl _ _)) dA13)) (Nat.le_refl _)
  have o14_r3 := OwnE.below o12_r3 ((show Below wE11.heap.size wE11 _ by first | exact dA13 | exact Below.trans (Below.drew (Below.refl _ _)) dA13)) (Nat.le_refl _)
  have o14_r4 := OwnI.below o12_r4 ((show Below wE11.heap.size wE11 _ by first | exact dA13 | exact Below.trans (Below.drew (Below.refl _ _)) dA13)) (Nat.le_refl _)
  have D14 := D12.trans (((show Below wE11.heap.size wE11 _ by first | exact dA13 | exact Below.trans (Below.drew (Below.refl _ _)) dA13)).mono D12.size)
  have s14 := ((show Below wE11.heap.size wE11 _ by first | exact dA13 | exact Below.trans (Below.drew (Below.refl _ _)) dA13)).size
  have f15_0 := cell_k2 (dE13.below) f14_0
  have f15_1 := cell_k2 (dE13.below) f14_1
  have f15_2 := cell_k2 (dE13.below) f14_2
  have f15_3 := cell_k2 (dE13.below) f14_3
  have f15_4 := cell_k2 (dE13.below) f14_4
  have f15_5 := cell_k2 (dE13.below) f14_5
  clear f14_0 f14_1 f14_2 f14_3 f14_4 f14_5
  have o15_r2 := OwnI.below o14_r2 (dE13.below) (Nat.le_refl _)
  have o15_r3 := OwnE.below o14_r3 (dE13.below) (Nat.le_refl _)
  have o15_r4 := OwnI.below o14_r4 (dE13.below) (Nat.le_refl _)
  have D15 := D14.trans ((dE13.below).mono D14.size)
  have s15 := (dE13.below).size
  go_wp2_with fail
  refine (Try.markPuzzle _ _ _ _ _ _ ((Nat.le_trans (by have := WA0.out.1; have := HL0.out; omega) (show 1048576 ≤ 1000000000 by decide))) o15_r3).mono ?_
  rintro e wM16 ⟨rfl, cM16, dM16⟩
  have s16 := dM16.size
  have o16_r2 := OwnI.grown o15_r2 dM16 (own_ne' Fr2 Fr3 (by omega))
  have o16_r4 := OwnI.grown o15_r4 dM16 (own_ne Fr4 Fr3 (by omega))
  have f16_0 := cell_gbZ dM16 f15_0 (fun e => by have := (World.ownsRow.lt Fr3 _ e.symm).1; omega)
  have f16_1 := cell_gbZ dM16 f15_1 (fun e => by have := (World.ownsRow.lt Fr3 _ e.symm).1; omega)
  have f16_2 := cell_gbZ dM16 f15_2 (fun e => by have := (World.ownsRow.lt Fr3 _ e.symm).1; omega)
  clear f15_0 f15_1 f15_2
  have b16 := Below.grown (Below.refl w.heap.size _) dM16 (by omega) (fun j hj => by have := (World.ownsRow.lt Fr3 j hj).1; omega)
  have D16 := D15.trans b16
  clear f15_3 f15_4 f15_5
  have lz0 : ((z0).length : Int) ≤ 1048576 := by have := WA0.out.1; have := HL0.out; omega
  go_wp2_with fail
  refine (Try.eqIntS _ _ _ _ _ _ o16_r4 o16_r2).mono ?_
  rintro e wE17 ⟨rfl, dE17⟩
  have f18_0 := cell_k2 (dE17.below) f16_0
  have f18_1 := cell_k2 (dE17.below) f16_1
  have f18_2 := cell_k2 (dE17.below) f16_2
  clear f16_0 f16_1 f16_2
  have o18_r2 := OwnI.below o16_r2 (dE17.below) (Nat.le_refl _)
  have o18_r3 := OwnE.below cM16 (dE17.below) (Nat.le_refl _)
  have o18_r4 := OwnI.below o16_r4 (dE17.below) (Nat.le_refl _)
  have D18 := D16.trans ((dE17.below).mono D16.size)
  have s18 := (dE17.below).size
  go_wp2_with fail
  refine (Try.markIntM _ _ _ _ (1) (by omega) (by omega) (hlen0) o18_r4).mono ?_
  rintro e wM19 ⟨rfl, cM19, dM19⟩
  have s19 := dM19.size
  have o19_r2 := OwnI.grown o18_r2 dM19 (own_ne' Fr2 Fr4 (by omega))
  have o19_r3 := OwnE.grown o18_r3 dM19 (own_ne' Fr3 Fr4 (by omega))
  have f19_0 := cell_gbZ dM19 f18_0 (fun e => by have := (World.ownsRow.lt Fr4 _ e.symm).1; omega)
  have f19_1 := cell_gbZ dM19 f18_1 (fun e => by have := (World.ownsRow.lt Fr4 _ e.symm).1; omega)
  have f19_2 := cell_gbZ dM19 f18_2 (fun e => by have := (World.ownsRow.lt Fr4 _ e.symm).1; omega)
  clear f18_0 f18_1 f18_2
  have b19 := Below.grown (Below.refl w.heap.size _) dM19 (by omega) (fun j hj => by have := (World.ownsRow.lt Fr4 j hj).1; omega)
  have D19 := D18.trans b19
  go_wp2_with fail
  refine (Try.heldIntM _ _ _ _ (1) (by omega) (by omega) (hlen0) cM19).mono ?_
  rintro e wH20 ⟨rfl, rfl⟩
  go_wp2_with fail
  refine (Try.toPuzzle _ _ _ _ _ _ _ HL0.out (ArgE.below WA0.out D19)).mono ?_
  rintro e wv21 ⟨v21, rfl, c21, d21⟩
  obtain ⟨A21, u21, rfl, c21⟩ := OwnE.eta c21
  have f22_0 := cell_k2 (d21) f19_0
  have f22_1 := cell_k2 (d21) f19_1
  have f22_2 := cell_k2 (d21) f19_2
  clear f19_0 f19_1 f19_2
  have o22_r2 := OwnI.below o19_r2 (d21) (Nat.le_refl _)
  have o22_r4 := OwnI.below cM19 (d21) (Nat.le_refl _)
  have D22 := D19.trans ((d21).mono D19.size)
  have s22 := (d21).size
  have Fr5 := c21
  go_wp2_with fail
  refine (HI.out _ _ _ c21).mono ?_
  rintro e wC23 ⟨vC23_0, rfl, cC23_0, dC23⟩
  have f24_0 := cell_k2 (dC23) f22_0
  have f24_1 := cell_k2 (dC23) f22_1
  have f24_2 := cell_k2 (dC23) f22_2
  clear f22_0 f22_1 f22_2
  have o24_r2 := OwnI.below o22_r2 (dC23) (Nat.le_refl _)
  have o24_r4 := OwnI.below o22_r4 (dC23) (Nat.le_refl _)
  have o24_r5 := OwnE.below c21 (dC23) (Nat.le_refl _)
  have D24 := D22.trans ((dC23).mono D22.size)
  have s24 := (dC23).size
  have Fr6 := cC23_0
  go_wp2_with fail
  refine (Try.eqIntS _ _ _ _ _ _ cC23_0 o24_r2).mono ?_
  rintro e wE25 ⟨rfl, dE25⟩
  have f26_0 := cell_k2 (dE25.below) f24_0
  have f26_1 := cell_k2 (dE25.below) f24_1
  have f26_2 := cell_k2 (dE25.below) f24_2
  clear f24_0 f24_1 f24_2
  have o26_r2 := OwnI.below o24_r2 (dE25.below) (Nat.le_refl _)
  have o26_r4 := OwnI.below o24_r4 (dE25.below) (Nat.le_refl _)
  have o26_r5 := OwnE.below o24_r5 (dE25.below) (Nat.le_refl _)
  have o26_r6 := OwnI.below cC23_0 (dE25.below) (Nat.le_refl _)
  have D26 := D24.trans ((dE25.below).mono D24.size)
  have s26 := (dE25.below).size
  go_wp2_with fail
  refine (Try.heldIntM _ _ _ _ (1) (by omega) (by omega) (hlen0) o26_r4).mono ?_
  rintro e wH27 ⟨rfl, rfl⟩
  go_wp2_with fail
  go_ret
  exact ⟨rfl, D26⟩

set_option maxRecDepth 100000 in
theorem lifted (os : Os) (started : os.Started) (H : Type) (enc : TypeId × Value → H) :
    ReturnsInHanded {} Try.checked os 14 .any (Rows.fnExactLeftByCluesSpec.pre6 enc Try.prog Try.f14 Rows.fnExactLeftByCluesRow.domain false) (Rows.fnExactLeftByCluesSpec.post enc Try.prog Try.f14 false true false false) := by
  refine returnsInHanded_of_change (C := Try.checked) own started (by kernel_rfl) Try.func14
    (ChangeSpec.witness6 (enc := enc) (C := Try.checked) false ⟨#[], #[.agg #[.int .i64 0, .int .i64 0, .slice none 0 0]], []⟩ 8 (by kernel_rfl) (by kernel_rfl) (by kernel_rfl) (by kernel_rfl)) ?_
  intro W base args ds gs before hval0 hW hcnd _
  have hval : ∀ (j : Nat) t v, Try.f14.params[j]? = some t → args[j]? = some v → Value.okWide Try.prog W .any base t v := hval0
  have hW' := hW
  obtain ⟨p, q, hA0, hV, rfl, hfz, hnd⟩ := hW
  have hA : DataW.TrodAll enc Try.prog W 0 (fun _ => true) true Try.f14.params.toList args.toList ds p := hA0
  rw [Try.params14] at hA hval
  obtain ⟨v0, vs0, d0, ds0, p0, q0, hargs, rfl, rfl, h0, r0⟩ := trodAll_cons hA
  obtain ⟨rfl, rfl, rfl⟩ := trodAll_nil r0
  obtain rfl : args = #[v0] := by cases args; simp_all
  obtain ⟨rfl, rfl⟩ := trodVars_none hV
  have k0 := h0
  have lt0 : ∀ x ∈ p0, x.block < W.heap.size := by obtain ⟨m, hm⟩ := k0; exact DataW.trod_lt m _ _ _ hm
  obtain ⟨a0x, a0y, a0, len0, cap0, z0, rfl, w0⟩ := puzzle_of_trod Try.underlying34 (show Try.prog.cellsOf 34 = 3 by kernel_rfl) rfl rfl (by kernel_rfl) (by kernel_rfl) Try.underlying23 rfl rfl (by kernel_rfl) (by kernel_rfl) Try.underlying3 Try.underlying3 Try.underlying32 (by kernel_rfl)
    (fun n cs x h => clue_of_trod Try.underlying25 (by kernel_rfl) rfl rfl rfl (by kernel_rfl) (by kernel_rfl) (by kernel_rfl) Try.underlying3 Try.underlying3 Try.underlying3 n cs x h) (hval 0 34 v0 rfl rfl) h0
  clear hA0 hval0
  simp only [List.append_nil] at hW'
  refine (walk a0x a0y a0 len0 cap0 z0 W w0).mono fun e W' ⟨he, bel⟩ => ?_
  subst he
  exact ⟨_, rfl, _, _, _, [], _, [], hW', trodAll_mk1 (shut_bool Try.underlying4 _), (trodAll_cons_mk (Below.trod laidOut (by kernel_rfl) (of_decide_eq_true (by kernel_rfl)) k0 bel lt0) trodAll_mk0), rfl, bel.frame _, fun h => by cases h⟩

theorem over : Rows.fnExactLeftByCluesRow.holds Try.pinned (OpenSpec.ofChange Rows.fnExactLeftByCluesSpec) :=
  OpenClaim.holds_of_wide 14 Try.f14 rfl rfl rfl rfl rfl rfl rfl ⟨rfl, rfl, rfl, rfl, rfl⟩ rfl rfl rfl rfl rfl (by kernel_rfl) Try.func14 (show joinedFacts Try.prog 14 Try.f14 Rows.fnExactLeftByCluesSpec Rows.fnExactLeftByCluesRow = true by unfold joinedFacts; rw [Try.frMake, Try.frEnter, Try.frLifts]; kernel_rfl)
    (of_decide_eq_true (by kernel_rfl)) (by unfold Func.isWrapper; first | (rw [if_pos (by decide +kernel)]; kernel_rfl) | (rw [if_neg (by decide +kernel)]; exact ⟨rfl, rfl⟩))
    (fun os started H enc _ => lifted os started H enc)

/-- The statement. -/
theorem proved : Rows.FnExactLeftByCluesSaid :=
  over
#print axioms proved
end Go.Proofs.Ytbnabjnpdkmbhaa.fnExactLeftByClues
