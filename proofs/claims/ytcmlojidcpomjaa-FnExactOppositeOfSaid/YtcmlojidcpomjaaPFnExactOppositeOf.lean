/-
  'FnExactOppositeOf' answers true at every argument and leaves its arguments as they were: the function of the program and its model give the same results.
-/
import Derived.Test.YtcmlojidcpomjaaRows
import Derived.WalkKit
import Derived.ProofKit
import Derived.OpenShut
import Derived.Lib.SmallJoins
import Derived.Test.YtcmlojidcpomjaaNuC
namespace Go.Proofs.Ytcmlojidcpomjaa.fnExactOppositeOf
open Go.ChangeShapes Go.WideShapes Go.ChangeAt Go.RowKit Go.Joins
open Go.WideMaps Go.WideElems
open Go.ChangeMaps (setBlock shut_map_nil open_string shut_string keptBut_setBlock frozen?_setBlock heap_setBlock_same)
set_option linter.unusedVariables false
set_option linter.unusedSimpArgs false

theorem own : ownKnob Try.prog.godebug = none := by kernel_rfl

set_option maxRecDepth 100000 in
set_option maxHeartbeats 1000000 in
theorem walk (a0x : Int) (wa0x : (Lit.int .i64 a0x).wf = true) (a0y : Int) (wa0y : (Lit.int .i64 a0y).wf = true) (a1 : Int) (w1 : (Lit.int .i64 a1).wf = true) (w : World) :
    Calls Try.prog 5 #[.agg #[.int .i64 a0x, .int .i64 a0y], .int .i64 a1] w fun e w' => e = .returned (.bool true) ∧ Below w.heap.size w w' := by
  go_enter Try.func5, Try.ntmps5
  go_wp2_with (first | (go_at_call 12; refine (Try.toStreet _ _ _).mono ?_; rintro e w1 ⟨rfl, hbW⟩; have hcW := (bcell hbW.below).1; have hfW := (bcell hbW.below).2; (try have hzW : w.heap.size < w1.heap.size := by have hq := hbW.below.size; (try simp at hq); omega); (try have hyW : w.heap.size + 1 < w1.heap.size := by have hq := hbW.below.size; (try simp at hq); omega); (try have hxW : w.heap.size + 2 < w1.heap.size := by have hq := hbW.below.size; (try simp at hq); omega)) | (go_at_call 20; refine (Try.sOppositeOf _ _ _ _).mono ?_; rintro e w1 ⟨rfl, hbW⟩; have hcW := (bcell hbW.below).1; have hfW := (bcell hbW.below).2; (try have hzW : w.heap.size < w1.heap.size := by have hq := hbW.below.size; (try simp at hq); omega); (try have hyW : w.heap.size + 1 < w1.heap.size := by have hq := hbW.below.size; (try simp at hq); omega); (try have hxW : w.heap.size + 2 < w1.heap.size := by have hq := hbW.below.size; (try simp at hq); omega)) | (go_at_call 21; refine (Try.iOppositeOf _ _ _ _).mono ?_; rintro e w1 ⟨rfl, hbW⟩; have hcW := (bcell hbW.below).1; have hfW := (bcell hbW.below).2; (try have hzW : w.heap.size < w1.heap.size := by have hq := hbW.below.size; (try simp at hq); omega); (try have hyW : w.heap.size + 1 < w1.heap.size := by have hq := hbW.below.size; (try simp at hq); omega); (try have hxW : w.heap.size + 2 < w1.heap.size := by have hq := hbW.below.size; (try simp at hq); omega)))
  go_ret
  exact ⟨rfl, Gr.below (by repeat (first | exact Gr.refl _ | refine Gr.alloc ?_ _ | refine Gr.trans ?_ (by assumption) | refine Gr.drew ?_ | refine Gr.drewN ?_ _ | refine Gr.grow ?_ _ | refine Gr.setCell ?_ (by (try simp); (try omega)) _))⟩

set_option maxRecDepth 100000 in
theorem lifted (os : Os) (started : os.Started) (H : Type) (enc : TypeId × Value → H) :
    ReturnsInHanded {} Try.checked os 5 .any (Rows.fnExactOppositeOfSpec.pre6 enc Try.prog Try.f5 Rows.fnExactOppositeOfRow.domain false) (Rows.fnExactOppositeOfSpec.post enc Try.prog Try.f5 false true false false) := by
  refine returnsInHanded_of_change (C := Try.checked) own started (by kernel_rfl) Try.func5
    (ChangeSpec.witness6 (enc := enc) (C := Try.checked) false ⟨#[], #[.agg #[.int .i64 0, .int .i64 0], .int .i64 0], []⟩ 8 (by kernel_rfl) (by kernel_rfl) (by kernel_rfl) (by kernel_rfl)) ?_
  intro W base args ds gs before hval0 hW hcnd _
  have hval : ∀ (j : Nat) t v, Try.f5.params[j]? = some t → args[j]? = some v → Value.okWide Try.prog W .any base t v := hval0
  have hW' := hW
  obtain ⟨p, q, hA0, hV, rfl, hfz, hnd⟩ := hW
  have hA : DataW.TrodAll enc Try.prog W 0 (fun _ => true) true Try.f5.params.toList args.toList ds p := hA0
  rw [Try.params5] at hA hval
  obtain ⟨v0, vs0, d0, ds0, p0, q0, hargs, rfl, rfl, h0, r0⟩ := trodAll_cons hA
  obtain ⟨v1, vs1, d1, ds1, p1, q1, rfl, rfl, rfl, h1, r1⟩ := trodAll_cons r0
  obtain ⟨rfl, rfl, rfl⟩ := trodAll_nil r1
  obtain rfl : args = #[v0, v1] := by cases args; simp_all
  obtain ⟨rfl, rfl⟩ := trodVars_none hV
  obtain ⟨c0x, c0y, y0x, y0y, m0, rfl, rfl, rfl, hy0x, hy0y⟩ := open_agg2 Try.underlying23 (by kernel_rfl) (show Try.prog.cellsOf 23 = 2 by kernel_rfl) (hval 0 23 v0 rfl rfl) h0
  obtain ⟨a0x, e0x, rfl, wa0x⟩ := DataW.trod_int Try.underlying3 hy0x
  obtain ⟨a0y, e0y, rfl, wa0y⟩ := DataW.trod_int Try.underlying3 hy0y
  simp at e0x e0y
  subst e0x e0y
  have sr0 : ∀ (W' : World) (sp : Nat → Bool), DataW.Trod enc Try.prog W' 0 sp true 23 (.agg #[.int .i64 a0x, .int .i64 a0y]) (.agg [.lit (.int .i64 a0x), .lit (.int .i64 a0y)]) [] := fun W' sp =>
    shut_agg2 (y0 := (.lit (.int .i64 a0x), [])) (y1 := (.lit (.int .i64 a0y), [])) Try.underlying23 (by kernel_rfl) (show Try.prog.cellsOf 23 = 2 by kernel_rfl) ⟨1, by simp [DataW.trod, Try.underlying3, wa0x]⟩ ⟨1, by simp [DataW.trod, Try.underlying3, wa0y]⟩
  obtain ⟨a1, rfl, rfl, rfl, w1⟩ := open_int Try.underlying3 (hval 1 3 v1 rfl rfl) h1
  clear hA0 hval0
  simp only [List.append_nil] at hW'
  refine (walk a0x wa0x a0y wa0y a1 w1 W).mono fun e W' ⟨he, bel⟩ => ?_
  subst he
  exact ⟨_, rfl, _, _, _, [], [], [], hW', trodAll_mk1 (shut_bool Try.underlying4 _), (trodAll_cons_mk (sr0 _ _) (trodAll_cons_mk (shut_int Try.underlying3 w1) trodAll_mk0)), rfl, bel.frame _, fun h => by cases h⟩

theorem over : Rows.fnExactOppositeOfRow.holds Try.pinned (OpenSpec.ofChange Rows.fnExactOppositeOfSpec) :=
  OpenClaim.holds_of_wide 5 Try.f5 rfl rfl rfl rfl rfl rfl rfl ⟨rfl, rfl, rfl, rfl, rfl⟩ rfl rfl rfl rfl rfl (by kernel_rfl) Try.func5 (by kernel_rfl)
    (of_decide_eq_true (by kernel_rfl)) (by unfold Func.isWrapper; first | (rw [if_pos (by decide +kernel)]; kernel_rfl) | (rw [if_neg (by decide +kernel)]; exact ⟨rfl, rfl⟩))
    (fun os started H enc _ => lifted os started H enc)

/-- The statement. -/
theorem proved : Rows.FnExactOppositeOfSaid :=
  over
#print axioms proved
end Go.Proofs.Ytcmlojidcpomjaa.fnExactOppositeOf
