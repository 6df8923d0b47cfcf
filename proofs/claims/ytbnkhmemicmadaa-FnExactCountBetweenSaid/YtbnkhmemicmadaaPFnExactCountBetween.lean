/-
  'FnExactCountBetween' answers true at every argument and leaves its arguments as they were: the function of the program and its model give the same results.
-/
import Derived.Test.YtbnkhmemicmadaaRows
import Derived.WalkKit
import Derived.ProofKit
import Derived.OpenShut
import Derived.Lib.SmallJoins
import Derived.Carry
import Derived.Test.YtbnkhmemicmadaaPlM
namespace Go.Proofs.Ytbnkhmemicmadaa.fnExactCountBetween
open Go.ChangeShapes Go.WideShapes Go.ChangeAt Go.RowKit Go.Joins
open Go.WideMaps Go.WideElems
open Go.ChangeMaps (setBlock shut_map_nil open_string shut_string keptBut_setBlock frozen?_setBlock heap_setBlock_same)
set_option linter.unusedVariables false
set_option linter.unusedSimpArgs false

theorem own : ownKnob Try.prog.godebug = none := by kernel_rfl

set_option maxRecDepth 100000 in
set_option maxHeartbeats 1000000 in
theorem walk (a0x : Int) (wa0x : (Lit.int .i64 a0x).wf = true) (a0y : Int) (wa0y : (Lit.int .i64 a0y).wf = true) (a1x : Int) (wa1x : (Lit.int .i64 a1x).wf = true) (a1y : Int) (wa1y : (Lit.int .i64 a1y).wf = true) (w : World) :
    Calls Try.prog 10 #[.agg #[.int .i64 a0x, .int .i64 a0y], .agg #[.int .i64 a1x, .int .i64 a1y]] w fun e w' => e = .returned (.bool true) ∧ Below w.heap.size w w' := by
  have mixed : Try.prog.follows .mixedOrders = true := by kernel_rfl
  obtain ⟨b0, b1, b2, b3⟩ := boxes w (.int .i64 a0x) (.int .i64 a0y) (.int .i64 a1x) (.int .i64 a1y) 43 43
  go_enter Try.func10, Try.ntmps10
  go_wp2
  (refine wp_region_quiet_grown mixed (by kernel_rfl) ?_; (repeat (first | go_big_quiet_step ((first | (go_at_call 32; exact Calls.grown_of (Try.toPlate _ _ _)) | (go_at_call 39; exact Calls.grown_of (Try.sCountBetween _ _ _ _ _)))) | quiet_step ((first | (go_at_call 32; exact Calls.grown_of (Try.toPlate _ _ _)) | (go_at_call 39; exact Calls.grown_of (Try.sCountBetween _ _ _ _ _)))))); refine wpQuiet_nil ?_; intro _ hw'; obtain ⟨⟨nq, osq⟩, hw''⟩ := hw'; subst hw'')
  go_wp2
  obtain ⟨b4, b5, b6, b7⟩ := boxesG (w := w) (W := Go.Sort.grow (((w.alloc (.cells #[.int .i64 a0x, .int .i64 a0y] 43)).alloc (.cells #[.int .i64 a1x, .int .i64 a1y] 43)).drewN nq) osq) (a := .int .i64 a0x) (b := .int .i64 a0y) (c := .int .i64 a1x) (d := .int .i64 a1y) (t := 43) (t2 := 43) (by repeat (first | exact Gr.refl _ | refine Gr.alloc ?_ _ | refine Gr.trans ?_ (by assumption) | refine Gr.drew ?_ | refine Gr.drewN ?_ _ | refine Gr.grow ?_ _ | refine Gr.setCell ?_ (by (try simp); (try omega)) _))
  (refine wp_region_quiet_grown mixed (by kernel_rfl) ?_; (repeat (first | go_big_quiet_step ((first | (go_at_call 32; exact Calls.grown_of (Try.toPlate _ _ _)) | (go_at_call 40; exact Calls.grown_of (Try.iCountBetween _ _ _ _ _)))) | quiet_step ((first | (go_at_call 32; exact Calls.grown_of (Try.toPlate _ _ _)) | (go_at_call 40; exact Calls.grown_of (Try.iCountBetween _ _ _ _ _)))))); refine wpQuiet_nil ?_; intro _ hw'; obtain ⟨⟨nq, osq⟩, hw''⟩ := hw'; subst hw'')
  go_wp2
  go_ret
  exact ⟨rfl, Gr.below (by repeat (first | exact Gr.refl _ | refine Gr.alloc ?_ _ | refine Gr.trans ?_ (by assumption) | refine Gr.drew ?_ | refine Gr.drewN ?_ _ | refine Gr.grow ?_ _ | refine Gr.setCell ?_ (by (try simp); (try omega)) _))⟩

set_option maxRecDepth 100000 in
theorem lifted (os : Os) (started : os.Started) (H : Type) (enc : TypeId × Value → H) :
    ReturnsInHanded {} Try.checked os 10 .any (Rows.fnExactCountBetweenSpec.pre6 enc Try.prog Try.f10 Rows.fnExactCountBetweenRow.domain false) (Rows.fnExactCountBetweenSpec.post enc Try.prog Try.f10 false true false false) := by
  refine returnsInHanded_of_change (C := Try.checked) own started (by kernel_rfl) Try.func10
    (ChangeSpec.witness6 (enc := enc) (C := Try.checked) false ⟨#[], #[.agg #[.int .i64 0, .int .i64 0], .agg #[.int .i64 0, .int .i64 0]], []⟩ 8 (by kernel_rfl) (by kernel_rfl) (by kernel_rfl) (by kernel_rfl)) ?_
  intro W base args ds gs before hval0 hW hcnd _
  have hval : ∀ (j : Nat) t v, Try.f10.params[j]? = some t → args[j]? = some v → Value.okWide Try.prog W .any base t v := hval0
  have hW' := hW
  obtain ⟨p, q, hA0, hV, rfl, hfz, hnd⟩ := hW
  have hA : DataW.TrodAll enc Try.prog W 0 (fun _ => true) true Try.f10.params.toList args.toList ds p := hA0
  rw [Try.params10] at hA hval
  obtain ⟨v0, vs0, d0, ds0, p0, q0, hargs, rfl, rfl, h0, r0⟩ := trodAll_cons hA
  obtain ⟨v1, vs1, d1, ds1, p1, q1, rfl, rfl, rfl, h1, r1⟩ := trodAll_cons r0
  obtain ⟨rfl, rfl, rfl⟩ := trodAll_nil r1
  obtain rfl : args = #[v0, v1] := by cases args; simp_all
  obtain ⟨rfl, rfl⟩ := trodVars_none hV
  obtain ⟨c0x, c0y, y0x, y0y, m0, rfl, rfl, rfl, hy0x, hy0y⟩ := open_agg2 Try.underlying43 (by kernel_rfl) (show Try.prog.cellsOf 43 = 2 by kernel_rfl) (hval 0 43 v0 rfl rfl) h0
  obtain ⟨a0x, e0x, rfl, wa0x⟩ := DataW.trod_int Try.underlying3 hy0x
  obtain ⟨a0y, e0y, rfl, wa0y⟩ := DataW.trod_int Try.underlying3 hy0y
  simp at e0x e0y
  subst e0x e0y
  have sr0 : ∀ (W' : World) (sp : Nat → Bool), DataW.Trod enc Try.prog W' 0 sp true 43 (.agg #[.int .i64 a0x, .int .i64 a0y]) (.agg [.lit (.int .i64 a0x), .lit (.int .i64 a0y)]) [] := fun W' sp =>
    shut_agg2 (y0 := (.lit (.int .i64 a0x), [])) (y1 := (.lit (.int .i64 a0y), [])) Try.underlying43 (by kernel_rfl) (show Try.prog.cellsOf 43 = 2 by kernel_rfl) ⟨1, by simp [DataW.trod, Try.underlying3, wa0x]⟩ ⟨1, by simp [DataW.trod, Try.underlying3, wa0y]⟩
  obtain ⟨c1x, c1y, y1x, y1y, m1, rfl, rfl, rfl, hy1x, hy1y⟩ := open_agg2 Try.underlying43 (by kernel_rfl) (show Try.prog.cellsOf 43 = 2 by kernel_rfl) (hval 1 43 v1 rfl rfl) h1
  obtain ⟨a1x, e1x, rfl, wa1x⟩ := DataW.trod_int Try.underlying3 hy1x
  obtain ⟨a1y, e1y, rfl, wa1y⟩ := DataW.trod_int Try.underlying3 hy1y
  simp at e1x e1y
  subst e1x e1y
  have sr1 : ∀ (W' : World) (sp : Nat → Bool), DataW.Trod enc Try.prog W' 0 sp true 43 (.agg #[.int .i64 a1x, .int .i64 a1y]) (.agg [.lit (.int .i64 a1x), .lit (.int .i64 a1y)]) [] := fun W' sp =>
    shut_agg2 (y0 := (.lit (.int .i64 a1x), [])) (y1 := (.lit (.int .i64 a1y), [])) Try.underlying43 (by kernel_rfl) (show Try.prog.cellsOf 43 = 2 by kernel_rfl) ⟨1, by simp [DataW.trod, Try.underlying3, wa1x]⟩ ⟨1, by simp [DataW.trod, Try.underlying3, wa1y]⟩
  clear hA0 hval0
  simp only [List.append_nil] at hW'
  refine (walk a0x wa0x a0y wa0y a1x wa1x a1y wa1y W).mono fun e W' ⟨he, bel⟩ => ?_
  subst he
  exact ⟨_, rfl, _, _, _, [], [], [], hW', trodAll_mk1 (shut_bool Try.underlying4 _), (trodAll_cons_mk (sr0 _ _) (trodAll_cons_mk (sr1 _ _) trodAll_mk0)), rfl, bel.frame _, fun h => by cases h⟩

theorem over : Rows.fnExactCountBetweenRow.holds Try.pinned (OpenSpec.ofChange Rows.fnExactCountBetweenSpec) :=
  OpenClaim.holds_of_wide 10 Try.f10 rfl rfl rfl rfl rfl rfl rfl ⟨rfl, rfl, rfl, rfl, rfl⟩ rfl rfl rfl rfl rfl (by kernel_rfl) Try.func10 (by kernel_rfl)
    (of_decide_eq_true (by kernel_rfl)) (by unfold Func.isWrapper; first | (rw [if_pos (by decide +kernel)]; kernel_rfl) | (rw [if_neg (by decide +kernel)]; exact ⟨rfl, rfl⟩))
    (fun os started H enc _ => lifted os started H enc)

/-- The statement. -/
theorem proved : Rows.FnExactCountBetweenSaid :=
  over
#print axioms proved
end Go.Proofs.Ytbnkhmemicmadaa.fnExactCountBetween
