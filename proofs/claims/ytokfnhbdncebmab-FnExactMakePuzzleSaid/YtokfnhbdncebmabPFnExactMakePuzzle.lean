/-
  'FnExactMakePuzzle' answers true at every argument and leaves its arguments as they were: the function of the program and its model give the same results.
-/
import Derived.Test.YtokfnhbdncebmabRows
import Derived.WalkKit
import Derived.ProofKit
import Derived.OpenShut
import Derived.Lib.SmallJoins
import Derived.Carry
import Derived.Test.YtokfnhbdncebmabFr
import Derived.Test.YtokfnhbdncebmabPzVi
import Derived.Test.YtokfnhbdncebmabPzL
import Derived.Test.YtokfnhbdncebmabArgsZ
namespace Go.Proofs.Ytokfnhbdncebmab.fnExactMakePuzzle
open Go.ChangeShapes Go.WideShapes Go.ChangeAt Go.RowKit Go.Joins
open Go.WideMaps Go.WideElems
open Go.ChangeMaps (setBlock shut_map_nil open_string shut_string keptBut_setBlock frozen?_setBlock heap_setBlock_same)
set_option linter.unusedVariables false
set_option linter.unusedSimpArgs false

theorem own : ownKnob Try.prog.godebug = none := by kernel_rfl

set_option maxRecDepth 100000 in
set_option maxHeartbeats 1000000 in
theorem walk (a0x : Int) (wa0x : (Lit.int .i64 a0x).wf = true) (a0y : Int) (wa0y : (Lit.int .i64 a0y).wf = true) (a1 : Int) (w1 : (Lit.int .i64 a1).wf = true) (a2 : Int) (w2 : (Lit.int .i64 a2).wf = true) (a3 : Int) (w3 : (Lit.int .i64 a3).wf = true) (w : World) :
    Calls Try.prog 3 #[.agg #[.int .i64 a0x, .int .i64 a0y], .int .i64 a1, .int .i64 a2, .int .i64 a3] w fun e w' => e = .returned (.bool true) ∧ Below w.heap.size w w' := by
  have HS := Lib.hid (fun (w : World) => Try.sMakePuzzle w a0x a0y a1 a2 a3)
  have HI := Lib.hid (fun (w : World) => Try.iMakePuzzle w a0x a0y a1 a2 a3)
  have hlen0 : (mkL a0x a0y a1 a2 a3).length ≤ 1000000000 := by have := mkL_len a0x a0y a1 a2 a3; omega
  generalize ifZ (mkB a0x a0y a1 a2 a3) a0x = K at *
  generalize ifZ (mkB a0x a0y a1 a2 a3) a0y = P at *
  generalize mkL a0x a0y a1 a2 a3 = xs at *
  generalize mkB a0x a0y a1 a2 a3 = b at *
  go_enter Try.func3, Try.ntmps3
  go_wp2_with (first | (go_at_call 6; refine (Try.toStreet _ _ _).mono ?_; rintro e w1 ⟨rfl, g1⟩; have B1 : Below w.heap.size w w1 := (show Gr w w1 from (by repeat (first | exact Gr.refl _ | refine Gr.alloc ?_ _ | refine Gr.trans ?_ (by assumption) | refine Gr.drew ?_ | refine Gr.drewN ?_ _ | refine Gr.grow ?_ _ | refine Gr.setCell ?_ (by (try simp); (try omega)) _))).below; have g2 : Gr (w.alloc (.cells #[.int .i64 a0x, .int .i64 a0y] 23)) w1 := (by repeat (first | exact Gr.refl _ | refine Gr.alloc ?_ _ | refine Gr.trans ?_ (by assumption) | refine Gr.drew ?_ | refine Gr.drewN ?_ _ | refine Gr.grow ?_ _ | refine Gr.setCell ?_ (by (try simp); (try omega)) _)); have e0 : w1.cell? ⟨w.heap.size, 0, none⟩ = some (.int .i64 a0x) := g2.keep0 (by simp [go_sem]); have e1 : w1.cell? ⟨w.heap.size, 1, none⟩ = some (.int .i64 a0y) := g2.keep0 (by simp [go_sem])))
  have sB1 := B1.size
  have sB2 : w.heap.size < w1.heap.size := World.block_lt_of_cell? _ _ e0
  refine (HS.out _ ).mono ?_
  rintro e wC1 ⟨vC1_0, rfl, cC1_0, dC1⟩
  have f2_0 := cell_k2 (dC1) e0
  have f2_1 := cell_k2 (dC1) e1
  clear e0 e1
  have D2 := B1.trans ((dC1).mono B1.size)
  have s2 := (dC1).size
  obtain ⟨AC1_0, uC1_0, rfl, cC1_0⟩ := OwnE.eta cC1_0
  have Fr1 := cC1_0
  have g3 := Gr.alloc (Gr.refl wC1) (.cells #[.int .i64 K, .int .i64 P, .slice AC1_0 (xs).length uC1_0] 27)
  have f4_0 := cell_k2 (g3.below) f2_0
  have f4_1 := cell_k2 (g3.below) f2_1
  clear f2_0 f2_1
  have o4_r1 := OwnE.below cC1_0 (g3.below) (Nat.le_refl _)
  have D4 := D2.trans ((g3.below).mono D2.size)
  have s4 := (g3.below).size
  have h3_0 : (wC1.alloc (.cells #[.int .i64 K, .int .i64 P, .slice AC1_0 (xs).length uC1_0] 27)).cell? ⟨wC1.heap.size, 0, none⟩ = some (.int .i64 K) := by simp [go_sem]
  have h3_1 : (wC1.alloc (.cells #[.int .i64 K, .int .i64 P, .slice AC1_0 (xs).length uC1_0] 27)).cell? ⟨wC1.heap.size, 1, none⟩ = some (.int .i64 P) := by simp [go_sem]
  have h3_2 : (wC1.alloc (.cells #[.int .i64 K, .int .i64 P, .slice AC1_0 (xs).length uC1_0] 27)).cell? ⟨wC1.heap.size, 2, none⟩ = some (.slice AC1_0 (xs).length uC1_0) := by simp [go_sem]
  go_wp2_with fail
  refine (Try.toStreet _ _ _).mono ?_
  rintro e wS5 ⟨rfl, dS5⟩
  have f6_0 := cell_k2 (dS5.below) f4_0
  have f6_1 := cell_k2 (dS5.below) f4_1
  have f6_2 := cell_k2 (dS5.below) h3_0
  have f6_3 := cell_k2 (dS5.below) h3_1
  have f6_4 := cell_k2 (dS5.below) h3_2
  clear f4_0 f4_1 h3_0 h3_1 h3_2
  have o6_r1 := OwnE.below o4_r1 (dS5.below) (Nat.le_refl _)
  have D6 := D4.trans ((dS5.below).mono D4.size)
  have s6 := (dS5.below).size
  go_wp2_with fail
  refine (HI.out _ ).mono ?_
  rintro e wC7 ⟨vC7_0, rfl, cC7_0, dC7⟩
  have f8_0 := cell_k2 (dC7) f6_0
  have f8_1 := cell_k2 (dC7) f6_1
  have f8_2 := cell_k2 (dC7) f6_2
  have f8_3 := cell_k2 (dC7) f6_3
  have f8_4 := cell_k2 (dC7) f6_4
  clear f6_0 f6_1 f6_2 f6_3 f6_4
  have o8_r1 := OwnE.below o6_r1 (dC7) (Nat.le_refl _)
  have D8 := D6.trans ((dC7).mono D6.size)
  have s8 := (dC7).size
  obtain ⟨AC7_0, uC7_0, rfl, cC7_0⟩ := OwnE.eta cC7_0
  have Fr2 := cC7_0
  have g9 := Gr.alloc (Gr.refl wC7) (.cells #[.int .i64 K, .int .i64 P, .slice AC7_0 (xs).length uC7_0] 27)
  have f10_0 := cell_k2 (g9.below) f8_0
  have f10_1 := cell_k2 (g9.below) f8_1
  have f10_2 := cell_k2 (g9.below) f8_2
  have f10_3 := cell_k2 (g9.below) f8_3
  have f10_4 := cell_k2 (g9.below) f8_4
  clear f8_0 f8_1 f8_2 f8_3 f8_4
  have o10_r1 := OwnE.below o8_r1 (g9.below) (Nat.le_refl _)
  have o10_r2 := OwnE.below cC7_0 (g9.below) (Nat.le_refl _)
  have D10 := D8.trans ((g9.below).mono D8.size)
  have s10 := (g9.below).size
  have h9_0 : (wC7.alloc (.cells #[.int .i64 K, .int .i64 P, .slice AC7_0 (xs).length uC7_0] 27)).cell? ⟨wC7.heap.size, 0, none⟩ = some (.int .i64 K) := by simp [go_sem]
  have h9_1 : (wC7.alloc (.cells #[.int .i64 K, .int .i64 P, .slice AC7_0 (xs).length uC7_0] 27)).cell? ⟨wC7.heap.size, 1, none⟩ = some (.int .i64 P) := by simp [go_sem]
  have h9_2 : (wC7.alloc (.cells #[.int .i64 K, .int .i64 P, .slice AC7_0 (xs).length uC7_0] 27)).cell? ⟨wC7.heap.size, 2, none⟩ = some (.slice AC7_0 (xs).length uC7_0) := by simp [go_sem]
  go_wp2_with fail
  refine (Try.eqPuzzle _ _ _ _ _ _ _ _ o10_r2 o10_r1).mono ?_
  rintro e wE11 ⟨rfl, dE11⟩
  have f12_0 := cell_k2 (dE11.below) f10_0
  have f12_1 := cell_k2 (dE11.below) f10_1
  have f12_2 := cell_k2 (dE11.below) f10_2
  have f12_3 := cell_k2 (dE11.below) f10_3
  have f12_4 := cell_k2 (dE11.below) f10_4
  have f12_5 := cell_k2 (dE11.below) h9_0
  have f12_6 := cell_k2 (dE11.below) h9_1
  have f12_7 := cell_k2 (dE11.below) h9_2
  clear f10_0 f10_1 f10_2 f10_3 f10_4 h9_0 h9_1 h9_2
  have o12_r1 := OwnE.below o10_r1 (dE11.below) (Nat.le_refl _)
  have o12_r2 := OwnE.below o10_r2 (dE11.below) (Nat.le_refl _)
  have D12 := D10.trans ((dE11.below).mono D10.size)
  have s12 := (dE11.below).size
  go_wp2_with fail
  refine (Try.markPuzzle _ _ _ _ _ _ (hlen0) o12_r2).mono ?_
  rintro e wM13 ⟨rfl, cM13, dM13⟩
  have s13 := dM13.size
  have o13_r1 := OwnE.grown o12_r1 dM13 (own_ne' Fr1 Fr2 (by omega))
  have f13_0 := cell_gbZ dM13 f12_0 (fun e => by have := (World.ownsRow.lt Fr2 _ e.symm); (try simp only [World.size_alloc] at *); omega)
  have f13_1 := cell_gbZ dM13 f12_1 (fun e => by have := (World.ownsRow.lt Fr2 _ e.symm); (try simp only [World.size_alloc] at *); omega)
  have f13_2 := cell_gbZ dM13 f12_2 (fun e => by have := (World.ownsRow.lt Fr2 _ e.symm); (try simp only [World.size_alloc] at *); omega)
  have f13_3 := cell_gbZ dM13 f12_3 (fun e => by have := (World.ownsRow.lt Fr2 _ e.symm); (try simp only [World.size_alloc] at *); omega)
  have f13_4 := cell_gbZ dM13 f12_4 (fun e => by have := (World.ownsRow.lt Fr2 _ e.symm); (try simp only [World.size_alloc] at *); omega)
  have f13_5 := cell_gbZ dM13 f12_5 (fun e => by have := (World.ownsRow.lt Fr2 _ e.symm); (try simp only [World.size_alloc] at *); omega)
  have f13_6 := cell_gbZ dM13 f12_6 (fun e => by have := (World.ownsRow.lt Fr2 _ e.symm); (try simp only [World.size_alloc] at *); omega)
  have f13_7 := cell_gbZ dM13 f12_7 (fun e => by have := (World.ownsRow.lt Fr2 _ e.symm); (try simp only [World.size_alloc] at *); omega)
  clear f12_0 f12_1 f12_2 f12_3 f12_4 f12_5 f12_6 f12_7
  have b13 := Below.grown (Below.refl w.heap.size _) dM13 (by omega) (fun j hj => by have := (World.ownsRow.lt Fr2 j hj).1; omega)
  have D13 := D12.trans b13
  go_wp2_with fail
  refine (Try.heldPuzzle _ _ _ _ _ _ (hlen0) cM13).mono ?_
  rintro e wH14 ⟨rfl, dH14⟩
  have f15_0 := cell_k2 (dH14.below) f13_0
  have f15_1 := cell_k2 (dH14.below) f13_1
  have f15_2 := cell_k2 (dH14.below) f13_2
  have f15_3 := cell_k2 (dH14.below) f13_3
  have f15_4 := cell_k2 (dH14.below) f13_4
  have f15_5 := cell_k2 (dH14.below) f13_5
  have f15_6 := cell_k2 (dH14.below) f13_6
  have f15_7 := cell_k2 (dH14.below) f13_7
  clear f13_0 f13_1 f13_2 f13_3 f13_4 f13_5 f13_6 f13_7
  have o15_r1 := OwnE.below o13_r1 (dH14.below) (Nat.le_refl _)
  have o15_r2 := OwnE.below cM13 (dH14.below) (Nat.le_refl _)
  have D15 := D13.trans ((dH14.below).mono D13.size)
  have s15 := (dH14.below).size
  go_wp2_with fail
  refine (Try.toStreet _ _ _).mono ?_
  rintro e wS16 ⟨rfl, dS16⟩
  have f17_0 := cell_k2 (dS16.below) f15_0
  have f17_1 := cell_k2 (dS16.below) f15_1
  have f17_2 := cell_k2 (dS16.below) f15_2
  have f17_3 := cell_k2 (dS16.below) f15_3
  have f17_4 := cell_k2 (dS16.below) f15_4
  have f17_5 := cell_k2 (dS16.below) f15_5
  have f17_6 := cell_k2 (dS16.below) f15_6
  have f17_7 := cell_k2 (dS16.below) f15_7
  clear f15_0 f15_1 f15_2 f15_3 f15_4 f15_5 f15_6 f15_7
  have o17_r1 := OwnE.below o15_r1 (dS16.below) (Nat.le_refl _)
  have o17_r2 := OwnE.below o15_r2 (dS16.below) (Nat.le_refl _)
  have D17 := D15.trans ((dS16.below).mono D15.size)
  have s17 := (dS16.below).size
  go_wp2_with fail
  refine (HI.out _ ).mono ?_
  rintro e wC18 ⟨vC18_0, rfl, cC18_0, dC18⟩
  have f19_0 := cell_k2 (dC18) f17_0
  have f19_1 := cell_k2 (dC18) f17_1
  have f19_2 := cell_k2 (dC18) f17_2
  have f19_3 := cell_k2 (dC18) f17_3
  have f19_4 := cell_k2 (dC18) f17_4
  have f19_5 := cell_k2 (dC18) f17_5
  have f19_6 := cell_k2 (dC18) f17_6
  have f19_7 := cell_k2 (dC18) f17_7
  clear f17_0 f17_1 f17_2 f17_3 f17_4 f17_5 f17_6 f17_7
  have o19_r1 := OwnE.below o17_r1 (dC18) (Nat.le_refl _)
  have o19_r2 := OwnE.below o17_r2 (dC18) (Nat.le_refl _)
  have D19 := D17.trans ((dC18).mono D17.size)
  have s19 := (dC18).size
  obtain ⟨AC18_0, uC18_0, rfl, cC18_0⟩ := OwnE.eta cC18_0
  have Fr3 := cC18_0
  have g20 := Gr.alloc (Gr.refl wC18) (.cells #[.int .i64 K, .int .i64 P, .slice AC18_0 (xs).length uC18_0] 27)
  have f21_0 := cell_k2 (g20.below) f19_0
  have f21_1 := cell_k2 (g20.below) f19_1
  have f21_2 := cell_k2 (g20.below) f19_2
  have f21_3 := cell_k2 (g20.below) f19_3
  have f21_4 := cell_k2 (g20.below) f19_4
  have f21_5 := cell_k2 (g20.below) f19_5
  have f21_6 := cell_k2 (g20.below) f19_6
  have f21_7 := cell_k2 (g20.below) f19_7
  clear f19_0 f19_1 f19_2 f19_3 f19_4 f19_5 f19_6 f19_7
  have o21_r1 := OwnE.below o19_r1 (g20.below) (Nat.le_refl _)
  have o21_r2 := OwnE.below o19_r2 (g20.below) (Nat.le_refl _)
  have o21_r3 := OwnE.below cC18_0 (g20.below) (Nat.le_refl _)
  have D21 := D19.trans ((g20.below).mono D19.size)
  have s21 := (g20.below).size
  have h20_0 : (wC18.alloc (.cells #[.int .i64 K, .int .i64 P, .slice AC18_0 (xs).length uC18_0] 27)).cell? ⟨wC18.heap.size, 0, none⟩ = some (.int .i64 K) := by simp [go_sem]
  have h20_1 : (wC18.alloc (.cells #[.int .i64 K, .int .i64 P, .slice AC18_0 (xs).length uC18_0] 27)).cell? ⟨wC18.heap.size, 1, none⟩ = some (.int .i64 P) := by simp [go_sem]
  have h20_2 : (wC18.alloc (.cells #[.int .i64 K, .int .i64 P, .slice AC18_0 (xs).length uC18_0] 27)).cell? ⟨wC18.heap.size, 2, none⟩ = some (.slice AC18_0 (xs).length uC18_0) := by simp [go_sem]
  go_wp2_with fail
  refine (Try.eqPuzzle _ _ _ _ _ _ _ _ o21_r3 o21_r1).mono ?_
  rintro e wE22 ⟨rfl, dE22⟩
  have f23_0 := cell_k2 (dE22.below) f21_0
  have f23_1 := cell_k2 (dE22.below) f21_1
  have f23_2 := cell_k2 (dE22.below) f21_2
  have f23_3 := cell_k2 (dE22.below) f21_3
  have f23_4 := cell_k2 (dE22.below) f21_4
  have f23_5 := cell_k2 (dE22.below) f21_5
  have f23_6 := cell_k2 (dE22.below) f21_6
  have f23_7 := cell_k2 (dE22.below) f21_7
  have f23_8 := cell_k2 (dE22.below) h20_0
  have f23_9 := cell_k2 (dE22.below) h20_1
  have f23_10 := cell_k2 (dE22.below) h20_2
  clear f21_0 f21_1 f21_2 f21_3 f21_4 f21_5 f21_6 f21_7 h20_0 h20_1 h20_2
  have o23_r1 := OwnE.below o21_r1 (dE22.below) (Nat.le_refl _)
  have o23_r2 := OwnE.below o21_r2 (dE22.below) (Nat.le_refl _)
  have o23_r3 := OwnE.below o21_r3 (dE22.below) (Nat.le_refl _)
  have D23 := D21.trans ((dE22.below).mono D21.size)
  have s23 := (dE22.below).size
  go_wp2_with fail
  refine (Try.heldPuzzle _ _ _ _ _ _ (hlen0) o23_r2).mono ?_
  rintro e wH24 ⟨rfl, dH24⟩
  have f25_0 := cell_k2 (dH24.below) f23_0
  have f25_1 := cell_k2 (dH24.below) f23_1
  have f25_2 := cell_k2 (dH24.below) f23_2
  have f25_3 := cell_k2 (dH24.below) f23_3
  have f25_4 := cell_k2 (dH24.below) f23_4
  have f25_5 := cell_k2 (dH24.below) f23_5
  have f25_6 := cell_k2 (dH24.below) f23_6
  have f25_7 := cell_k2 (dH24.below) f23_7
  have f25_8 := cell_k2 (dH24.below) f23_8
  have f25_9 := cell_k2 (dH24.below) f23_9
  have f25_10 := cell_k2 (dH24.below) f23_10
  clear f23_0 f23_1 f23_2 f23_3 f23_4 f23_5 f23_6 f23_7 f23_8 f23_9 f23_10
  have o25_r1 := OwnE.below o23_r1 (dH24.below) (Nat.le_refl _)
  have o25_r2 := OwnE.below o23_r2 (dH24.below) (Nat.le_refl _)
  have o25_r3 := OwnE.below o23_r3 (dH24.below) (Nat.le_refl _)
  have D25 := D23.trans ((dH24.below).mono D23.size)
  have s25 := (dH24.below).size
  go_wp2_with fail
  go_ret
  exact ⟨rfl, D25⟩

set_option maxRecDepth 100000 in
theorem lifted (os : Os) (started : os.Started) (H : Type) (enc : TypeId × Value → H) :
    ReturnsInHanded {} Try.checked os 3 .any (Rows.fnExactMakePuzzleSpec.pre6 enc Try.prog Try.f3 Rows.fnExactMakePuzzleRow.domain false) (Rows.fnExactMakePuzzleSpec.post enc Try.prog Try.f3 false true false false) := by
  refine returnsInHanded_of_change (C := Try.checked) own started (by kernel_rfl) Try.func3
    (ChangeSpec.witness6 (enc := enc) (C := Try.checked) false ⟨#[], #[.agg #[.int .i64 0, .int .i64 0], .int .i64 0, .int .i64 0, .int .i64 0], []⟩ 8 (by kernel_rfl) (by kernel_rfl) (by kernel_rfl) (by kernel_rfl)) ?_
  intro W base args ds gs before hval0 hW hcnd _
  have hval : ∀ (j : Nat) t v, Try.f3.params[j]? = some t → args[j]? = some v → Value.okWide Try.prog W .any base t v := hval0
  have hW' := hW
  obtain ⟨p, q, hA0, hV, rfl, hfz, hnd⟩ := hW
  have hA : DataW.TrodAll enc Try.prog W 0 (fun _ => true) true Try.f3.params.toList args.toList ds p := hA0
  rw [Try.params3] at hA hval
  obtain ⟨v0, vs0, d0, ds0, p0, q0, hargs, rfl, rfl, h0, r0⟩ := trodAll_cons hA
  obtain ⟨v1, vs1, d1, ds1, p1, q1, rfl, rfl, rfl, h1, r1⟩ := trodAll_cons r0
  obtain ⟨v2, vs2, d2, ds2, p2, q2, rfl, rfl, rfl, h2, r2⟩ := trodAll_cons r1
  obtain ⟨v3, vs3, d3, ds3, p3, q3, rfl, rfl, rfl, h3, r3⟩ := trodAll_cons r2
  obtain ⟨rfl, rfl, rfl⟩ := trodAll_nil r3
  obtain rfl : args = #[v0, v1, v2, v3] := by cases args; simp_all
  obtain ⟨rfl, rfl⟩ := trodVars_none hV
  obtain ⟨c0x, c0y, y0x, y0y, m0, rfl, rfl, rfl, hy0x, hy0y⟩ := open_agg2 Try.underlying23 (by kernel_rfl) (show Try.prog.cellsOf 23 = 2 by kernel_rfl) (hval 0 23 v0 rfl rfl) h0
  obtain ⟨a0x, e0x, rfl, wa0x⟩ := DataW.trod_int Try.underlying3 hy0x
  obtain ⟨a0y, e0y, rfl, wa0y⟩ := DataW.trod_int Try.underlying3 hy0y
  simp at e0x e0y
  subst e0x e0y
  have sr0 : ∀ (W' : World) (sp : Nat → Bool), DataW.Trod enc Try.prog W' 0 sp true 23 (.agg #[.int .i64 a0x, .int .i64 a0y]) (.agg [.lit (.int .i64 a0x), .lit (.int .i64 a0y)]) [] := fun W' sp =>
    shut_agg2 (y0 := (.lit (.int .i64 a0x), [])) (y1 := (.lit (.int .i64 a0y), [])) Try.underlying23 (by kernel_rfl) (show Try.prog.cellsOf 23 = 2 by kernel_rfl) ⟨1, by simp [DataW.trod, Try.underlying3, wa0x]⟩ ⟨1, by simp [DataW.trod, Try.underlying3, wa0y]⟩
  obtain ⟨a1, rfl, rfl, rfl, w1⟩ := open_int Try.underlying3 (hval 1 3 v1 rfl rfl) h1
  obtain ⟨a2, rfl, rfl, rfl, w2⟩ := open_int Try.underlying3 (hval 2 3 v2 rfl rfl) h2
  obtain ⟨a3, rfl, rfl, rfl, w3⟩ := open_int Try.underlying3 (hval 3 3 v3 rfl rfl) h3
  clear hA0 hval0
  simp only [List.append_nil] at hW'
  refine (walk a0x wa0x a0y wa0y a1 w1 a2 w2 a3 w3 W).mono fun e W' ⟨he, bel⟩ => ?_
  subst he
  exact ⟨_, rfl, _, _, _, [], [], [], hW', trodAll_mk1 (shut_bool Try.underlying4 _), (trodAll_cons_mk (sr0 _ _) (trodAll_cons_mk (shut_int Try.underlying3 w1) (trodAll_cons_mk (shut_int Try.underlying3 w2) (trodAll_cons_mk (shut_int Try.underlying3 w3) trodAll_mk0)))), rfl, bel.frame _, fun h => by cases h⟩

theorem over : Rows.fnExactMakePuzzleRow.holds Try.pinned (OpenSpec.ofChange Rows.fnExactMakePuzzleSpec) :=
  OpenClaim.holds_of_wide 3 Try.f3 rfl rfl rfl rfl rfl rfl rfl ⟨rfl, rfl, rfl, rfl, rfl⟩ rfl rfl rfl rfl rfl (by kernel_rfl) Try.func3 (show joinedFacts Try.prog 3 Try.f3 Rows.fnExactMakePuzzleSpec Rows.fnExactMakePuzzleRow = true by unfold joinedFacts; rw [Try.frMake, Try.frEnter, Try.frLifts]; kernel_rfl)
    (of_decide_eq_true (by kernel_rfl)) (by unfold Func.isWrapper; first | (rw [if_pos (by decide +kernel)]; kernel_rfl) | (rw [if_neg (by decide +kernel)]; exact ⟨rfl, rfl⟩))
    (fun os started H enc _ => lifted os started H enc)

/-- The statement. -/
theorem proved : Rows.FnExactMakePuzzleSaid :=
  over
#print axioms proved
end Go.Proofs.Ytokfnhbdncebmab.fnExactMakePuzzle
