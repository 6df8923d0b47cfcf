/-
  'FnExactFirstDesk' answers true at every argument and leaves its arguments as they were: the function of the program and its model give the same results.
-/
import Derived.Test.YtmdfjcfmceehiaaRows
import Derived.WalkKit
import Derived.ProofKit
import Derived.OpenShut
import Derived.Lib.SmallJoins
import Derived.Carry
import Derived.Test.YtmdfjcfmceehiaaFr
import Derived.Test.YtmdfjcfmceehiaaFdA
namespace Go.Proofs.Ytmdfjcfmceehiaa.fnExactFirstDesk
open Go.ChangeShapes Go.WideShapes Go.ChangeAt Go.RowKit Go.Joins
open Go.WideMaps Go.WideElems
open Go.ChangeMaps (setBlock shut_map_nil open_string shut_string keptBut_setBlock frozen?_setBlock heap_setBlock_same)
set_option linter.unusedVariables false
set_option linter.unusedSimpArgs false

theorem own : ownKnob Try.prog.godebug = none := by kernel_rfl

set_option maxRecDepth 100000 in
set_option maxHeartbeats 1000000 in
theorem walk (w : World) :
    Calls Try.prog 3 #[] w fun e w' => e = .returned (.bool true) ∧ Below w.heap.size w w' := by
  go_enter Try.func3, Try.ntmps3
  go_wp2_with fail
  refine (Try.sFirstDesk _).mono ?_
  rintro e wC1 ⟨v1, rfl, c1, d1⟩
  have D1 := d1
  have s1 := (d1).size
  obtain ⟨A1, u1, rfl, c1⟩ := OwnI.eta c1
  have Fr1 := c1
  unfold dkV
  have g1 := Gr.alloc (Gr.refl wC1) (.cells #[.int .i64 1, .int .i64 5, .string fdS, .slice A1 fdL.length u1] 26)
  have o2_1 := OwnI.below c1 (g1.below) (Nat.le_refl _)
  have D2 := D1.trans ((g1.below).mono D1.size)
  have s2 := (g1.below).size
  have h1_0 : (wC1.alloc (.cells #[.int .i64 1, .int .i64 5, .string fdS, .slice A1 fdL.length u1] 26)).cell? ⟨wC1.heap.size, 0, none⟩ = some (.int .i64 1) := by simp [go_sem]
  have h1_1 : (wC1.alloc (.cells #[.int .i64 1, .int .i64 5, .string fdS, .slice A1 fdL.length u1] 26)).cell? ⟨wC1.heap.size, 1, none⟩ = some (.int .i64 5) := by simp [go_sem]
  have h1_2 : (wC1.alloc (.cells #[.int .i64 1, .int .i64 5, .string fdS, .slice A1 fdL.length u1] 26)).cell? ⟨wC1.heap.size, 2, none⟩ = some (.string fdS) := by simp [go_sem]
  have h1_3 : (wC1.alloc (.cells #[.int .i64 1, .int .i64 5, .string fdS, .slice A1 fdL.length u1] 26)).cell? ⟨wC1.heap.size, 3, none⟩ = some (.slice A1 fdL.length u1) := by simp [go_sem]
  go_wp2_with fail
  refine (Try.iFirstDesk _).mono ?_
  rintro e wC2 ⟨v2, rfl, c2, d2⟩
  have f3_0 := cell_k2 (d2) h1_0
  have f3_1 := cell_k2 (d2) h1_1
  have f3_2 := cell_k2 (d2) h1_2
  have f3_3 := cell_k2 (d2) h1_3
  clear h1_0 h1_1 h1_2 h1_3
  have o3_1 := OwnI.below o2_1 (d2) (Nat.le_refl _)
  have D3 := D2.trans ((d2).mono D2.size)
  have s3 := (d2).size
  obtain ⟨A2, u2, rfl, c2⟩ := OwnI.eta c2
  have Fr2 := c2
  unfold dkV
  have g2 := Gr.alloc (Gr.refl wC2) (.cells #[.int .i64 1, .int .i64 5, .string fdS, .slice A2 fdL.length u2] 26)
  have f4_0 := cell_k2 (g2.below) f3_0
  have f4_1 := cell_k2 (g2.below) f3_1
  have f4_2 := cell_k2 (g2.below) f3_2
  have f4_3 := cell_k2 (g2.below) f3_3
  clear f3_0 f3_1 f3_2 f3_3
  have o4_1 := OwnI.below o3_1 (g2.below) (Nat.le_refl _)
  have o4_2 := OwnI.below c2 (g2.below) (Nat.le_refl _)
  have D4 := D3.trans ((g2.below).mono D3.size)
  have s4 := (g2.below).size
  have h2_0 : (wC2.alloc (.cells #[.int .i64 1, .int .i64 5, .string fdS, .slice A2 fdL.length u2] 26)).cell? ⟨wC2.heap.size, 0, none⟩ = some (.int .i64 1) := by simp [go_sem]
  have h2_1 : (wC2.alloc (.cells #[.int .i64 1, .int .i64 5, .string fdS, .slice A2 fdL.length u2] 26)).cell? ⟨wC2.heap.size, 1, none⟩ = some (.int .i64 5) := by simp [go_sem]
  have h2_2 : (wC2.alloc (.cells #[.int .i64 1, .int .i64 5, .string fdS, .slice A2 fdL.length u2] 26)).cell? ⟨wC2.heap.size, 2, none⟩ = some (.string fdS) := by simp [go_sem]
  have h2_3 : (wC2.alloc (.cells #[.int .i64 1, .int .i64 5, .string fdS, .slice A2 fdL.length u2] 26)).cell? ⟨wC2.heap.size, 3, none⟩ = some (.slice A2 fdL.length u2) := by simp [go_sem]
  go_wp2_with fail
  refine (Try.eqDesk _ _ _ _ _ _ _ _ _ o4_2 o4_1).mono ?_
  rintro e wE1 ⟨rfl, dE1⟩
  have f5_0 := cell_k2 (dE1.below) f4_0
  have f5_1 := cell_k2 (dE1.below) f4_1
  have f5_2 := cell_k2 (dE1.below) f4_2
  have f5_3 := cell_k2 (dE1.below) f4_3
  have f5_4 := cell_k2 (dE1.below) h2_0
  have f5_5 := cell_k2 (dE1.below) h2_1
  have f5_6 := cell_k2 (dE1.below) h2_2
  have f5_7 := cell_k2 (dE1.below) h2_3
  clear f4_0 f4_1 f4_2 f4_3 h2_0 h2_1 h2_2 h2_3
  have o5_1 := OwnI.below o4_1 (dE1.below) (Nat.le_refl _)
  have o5_2 := OwnI.below o4_2 (dE1.below) (Nat.le_refl _)
  have D5 := D4.trans ((dE1.below).mono D4.size)
  have s5 := (dE1.below).size
  go_wp2_with fail
  refine (Try.markDesk _ _ _ _ _ _ _ (by decide) o5_2).mono ?_
  rintro e wM1 ⟨rfl, cM1, dM1⟩
  have s6 := dM1.size
  have o6_1 := OwnI.grown o5_1 dM1 (own_ne' Fr1 Fr2 (by omega))
  have f6_0 := cell_gbZ dM1 f5_0 (fun e => by have := (World.ownsRow.lt Fr2 _ e.symm); (try simp only [World.size_alloc] at *); omega)
  have f6_1 := cell_gbZ dM1 f5_1 (fun e => by have := (World.ownsRow.lt Fr2 _ e.symm); (try simp only [World.size_alloc] at *); omega)
  have f6_2 := cell_gbZ dM1 f5_2 (fun e => by have := (World.ownsRow.lt Fr2 _ e.symm); (try simp only [World.size_alloc] at *); omega)
  have f6_3 := cell_gbZ dM1 f5_3 (fun e => by have := (World.ownsRow.lt Fr2 _ e.symm); (try simp only [World.size_alloc] at *); omega)
  have f6_4 := cell_gbZ dM1 f5_4 (fun e => by have := (World.ownsRow.lt Fr2 _ e.symm); (try simp only [World.size_alloc] at *); omega)
  have f6_5 := cell_gbZ dM1 f5_5 (fun e => by have := (World.ownsRow.lt Fr2 _ e.symm); (try simp only [World.size_alloc] at *); omega)
  have f6_6 := cell_gbZ dM1 f5_6 (fun e => by have := (World.ownsRow.lt Fr2 _ e.symm); (try simp only [World.size_alloc] at *); omega)
  have f6_7 := cell_gbZ dM1 f5_7 (fun e => by have := (World.ownsRow.lt Fr2 _ e.symm); (try simp only [World.size_alloc] at *); omega)
  clear f5_0 f5_1 f5_2 f5_3 f5_4 f5_5 f5_6 f5_7
  have b6 := Below.grown (Below.refl w.heap.size _) dM1 (by omega) (fun j hj => by have := (World.ownsRow.lt Fr2 j hj).1; omega)
  have D6 := D5.trans b6
  go_wp2_with fail
  refine (Try.heldDesk _ _ _ _ _ _ _ (by decide) cM1).mono ?_
  rintro e wH1 ⟨rfl, dH1⟩
  have f7_0 := cell_k2 (dH1.below) f6_0
  have f7_1 := cell_k2 (dH1.below) f6_1
  have f7_2 := cell_k2 (dH1.below) f6_2
  have f7_3 := cell_k2 (dH1.below) f6_3
  have f7_4 := cell_k2 (dH1.below) f6_4
  have f7_5 := cell_k2 (dH1.below) f6_5
  have f7_6 := cell_k2 (dH1.below) f6_6
  have f7_7 := cell_k2 (dH1.below) f6_7
  clear f6_0 f6_1 f6_2 f6_3 f6_4 f6_5 f6_6 f6_7
  have o7_1 := OwnI.below o6_1 (dH1.below) (Nat.le_refl _)
  have o7_2 := OwnI.below cM1 (dH1.below) (Nat.le_refl _)
  have D7 := D6.trans ((dH1.below).mono D6.size)
  have s7 := (dH1.below).size
  go_wp2_with fail
  refine (Try.iFirstDesk _).mono ?_
  rintro e wC3 ⟨v3, rfl, c3, d3⟩
  have f8_0 := cell_k2 (d3) f7_0
  have f8_1 := cell_k2 (d3) f7_1
  have f8_2 := cell_k2 (d3) f7_2
  have f8_3 := cell_k2 (d3) f7_3
  have f8_4 := cell_k2 (d3) f7_4
  have f8_5 := cell_k2 (d3) f7_5
  have f8_6 := cell_k2 (d3) f7_6
  have f8_7 := cell_k2 (d3) f7_7
  clear f7_0 f7_1 f7_2 f7_3 f7_4 f7_5 f7_6 f7_7
  have o8_1 := OwnI.below o7_1 (d3) (Nat.le_refl _)
  have o8_2 := OwnI.below o7_2 (d3) (Nat.le_refl _)
  have D8 := D7.trans ((d3).mono D7.size)
  have s8 := (d3).size
  obtain ⟨A3, u3, rfl, c3⟩ := OwnI.eta c3
  have Fr3 := c3
  unfold dkV
  have g3 := Gr.alloc (Gr.refl wC3) (.cells #[.int .i64 1, .int .i64 5, .string fdS, .slice A3 fdL.length u3] 26)
  have f9_0 := cell_k2 (g3.below) f8_0
  have f9_1 := cell_k2 (g3.below) f8_1
  have f9_2 := cell_k2 (g3.below) f8_2
  have f9_3 := cell_k2 (g3.below) f8_3
  have f9_4 := cell_k2 (g3.below) f8_4
  have f9_5 := cell_k2 (g3.below) f8_5
  have f9_6 := cell_k2 (g3.below) f8_6
  have f9_7 := cell_k2 (g3.below) f8_7
  clear f8_0 f8_1 f8_2 f8_3 f8_4 f8_5 f8_6 f8_7
  have o9_1 := OwnI.below o8_1 (g3.below) (Nat.le_refl _)
  have o9_2 := OwnI.below o8_2 (g3.below) (Nat.le_refl _)
  have o9_3 := OwnI.below c3 (g3.below) (Nat.le_refl _)
  have D9 := D8.trans ((g3.below).mono D8.size)
  have s9 := (g3.below).size
  have h3_0 : (wC3.alloc (.cells #[.int .i64 1, .int .i64 5, .string fdS, .slice A3 fdL.length u3] 26)).cell? ⟨wC3.heap.size, 0, none⟩ = some (.int .i64 1) := by simp [go_sem]
  have h3_1 : (wC3.alloc (.cells #[.int .i64 1, .int .i64 5, .string fdS, .slice A3 fdL.length u3] 26)).cell? ⟨wC3.heap.size, 1, none⟩ = some (.int .i64 5) := by simp [go_sem]
  have h3_2 : (wC3.alloc (.cells #[.int .i64 1, .int .i64 5, .string fdS, .slice A3 fdL.length u3] 26)).cell? ⟨wC3.heap.size, 2, none⟩ = some (.string fdS) := by simp [go_sem]
  have h3_3 : (wC3.alloc (.cells #[.int .i64 1, .int .i64 5, .string fdS, .slice A3 fdL.length u3] 26)).cell? ⟨wC3.heap.size, 3, none⟩ = some (.slice A3 fdL.length u3) := by simp [go_sem]
  go_wp2_with fail
  refine (Try.eqDesk _ _ _ _ _ _ _ _ _ o9_3 o9_1).mono ?_
  rintro e wE2 ⟨rfl, dE2⟩
  have f10_0 := cell_k2 (dE2.below) f9_0
  have f10_1 := cell_k2 (dE2.below) f9_1
  have f10_2 := cell_k2 (dE2.below) f9_2
  have f10_3 := cell_k2 (dE2.below) f9_3
  have f10_4 := cell_k2 (dE2.below) f9_4
  have f10_5 := cell_k2 (dE2.below) f9_5
  have f10_6 := cell_k2 (dE2.below) f9_6
  have f10_7 := cell_k2 (dE2.below) f9_7
  have f10_8 := cell_k2 (dE2.below) h3_0
  have f10_9 := cell_k2 (dE2.below) h3_1
  have f10_10 := cell_k2 (dE2.below) h3_2
  have f10_11 := cell_k2 (dE2.below) h3_3
  clear f9_0 f9_1 f9_2 f9_3 f9_4 f9_5 f9_6 f9_7 h3_0 h3_1 h3_2 h3_3
  have o10_1 := OwnI.below o9_1 (dE2.below) (Nat.le_refl _)
  have o10_2 := OwnI.below o9_2 (dE2.below) (Nat.le_refl _)
  have o10_3 := OwnI.below o9_3 (dE2.below) (Nat.le_refl _)
  have D10 := D9.trans ((dE2.below).mono D9.size)
  have s10 := (dE2.below).size
  go_wp2_with fail
  refine (Try.heldDesk _ _ _ _ _ _ _ (by decide) o10_2).mono ?_
  rintro e wH2 ⟨rfl, dH2⟩
  have f11_0 := cell_k2 (dH2.below) f10_0
  have f11_1 := cell_k2 (dH2.below) f10_1
  have f11_2 := cell_k2 (dH2.below) f10_2
  have f11_3 := cell_k2 (dH2.below) f10_3
  have f11_4 := cell_k2 (dH2.below) f10_4
  have f11_5 := cell_k2 (dH2.below) f10_5
  have f11_6 := cell_k2 (dH2.below) f10_6
  have f11_7 := cell_k2 (dH2.below) f10_7
  have f11_8 := cell_k2 (dH2.below) f10_8
  have f11_9 := cell_k2 (dH2.below) f10_9
  have f11_10 := cell_k2 (dH2.below) f10_10
  have f11_11 := cell_k2 (dH2.below) f10_11
  clear f10_0 f10_1 f10_2 f10_3 f10_4 f10_5 f10_6 f10_7 f10_8 f10_9 f10_10 f10_11
  have o11_1 := OwnI.below o10_1 (dH2.below) (Nat.le_refl _)
  have o11_2 := OwnI.below o10_2 (dH2.below) (Nat.le_refl _)
  have o11_3 := OwnI.below o10_3 (dH2.below) (Nat.le_refl _)
  have D11 := D10.trans ((dH2.below).mono D10.size)
  have s11 := (dH2.below).size
  go_wp2_with fail
  go_ret
  exact ⟨rfl, D11⟩

set_option maxRecDepth 100000 in
theorem lifted (os : Os) (started : os.Started) (H : Type) (enc : TypeId × Value → H) :
    ReturnsInHanded {} Try.checked os 3 .any (Rows.fnExactFirstDeskSpec.pre6 enc Try.prog Try.f3 Rows.fnExactFirstDeskRow.domain false) (Rows.fnExactFirstDeskSpec.post enc Try.prog Try.f3 false true false false) := by
  refine returnsInHanded_of_change (C := Try.checked) own started (by kernel_rfl) Try.func3
    (ChangeSpec.witness6 (enc := enc) (C := Try.checked) false ⟨#[], #[], []⟩ 8 (by kernel_rfl) (by kernel_rfl) (by kernel_rfl) (by kernel_rfl)) ?_
  intro W base args ds gs before hval0 hW hcnd _
  have hval : ∀ (j : Nat) t v, Try.f3.params[j]? = some t → args[j]? = some v → Value.okWide Try.prog W .any base t v := hval0
  have hW' := hW
  obtain ⟨p, q, hA0, hV, rfl, hfz, hnd⟩ := hW
  have hA : DataW.TrodAll enc Try.prog W 0 (fun _ => true) true Try.f3.params.toList args.toList ds p := hA0
  rw [Try.params3] at hA hval

  obtain ⟨hargs, rfl, rfl⟩ := trodAll_nil hA
  obtain rfl : args = #[] := by cases args; simp_all
  obtain ⟨rfl, rfl⟩ := trodVars_none hV

  clear hA0 hval0
  simp only [List.append_nil] at hW'
  refine (walk  W).mono fun e W' ⟨he, bel⟩ => ?_
  subst he
  exact ⟨_, rfl, _, _, _, [], [], [], hW', trodAll_mk1 (shut_bool Try.underlying4 _), trodAll_mk0, rfl, bel.frame _, fun h => by cases h⟩

theorem over : Rows.fnExactFirstDeskRow.holds Try.pinned (OpenSpec.ofChange Rows.fnExactFirstDeskSpec) :=
  OpenClaim.holds_of_wide 3 Try.f3 rfl rfl rfl rfl rfl rfl rfl ⟨rfl, rfl, rfl, rfl, rfl⟩ rfl rfl rfl rfl rfl (by kernel_rfl) Try.func3 (show joinedFacts Try.prog 3 Try.f3 Rows.fnExactFirstDeskSpec Rows.fnExactFirstDeskRow = true by unfold joinedFacts; rw [Try.frMake, Try.frEnter, Try.frLifts]; kernel_rfl)
    (of_decide_eq_true (by kernel_rfl)) (by unfold Func.isWrapper; first | (rw [if_pos (by decide +kernel)]; kernel_rfl) | (rw [if_neg (by decide +kernel)]; exact ⟨rfl, rfl⟩))
    (fun os started H enc _ => lifted os started H enc)

/-- The statement. -/
theorem proved : Rows.FnExactFirstDeskSaid :=
  over
#print axioms proved
end Go.Proofs.Ytmdfjcfmceehiaa.fnExactFirstDesk
