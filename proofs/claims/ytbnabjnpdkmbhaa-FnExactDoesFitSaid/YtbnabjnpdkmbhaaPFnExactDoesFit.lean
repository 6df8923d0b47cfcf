/-
  'FnExactDoesFit' answers true at every argument and leaves its arguments as they were: the function of the program and its model give the same results.
-/
import Derived.Test.YtbnabjnpdkmbhaaRows
import Derived.WalkKit
import Derived.ProofKit
import Derived.OpenShut
import Derived.Lib.SmallJoins
import Derived.Carry
import Derived.Test.YtbnabjnpdkmbhaaFr
import Derived.Test.YtbnabjnpdkmbhaaPzK
import Derived.Test.YtbnabjnpdkmbhaaPzL
namespace Go.Proofs.Ytbnabjnpdkmbhaa.fnExactDoesFit
open Go.ChangeShapes Go.WideShapes Go.ChangeAt Go.RowKit Go.Joins
open Go.WideMaps Go.WideElems
open Go.ChangeMaps (setBlock shut_map_nil open_string shut_string keptBut_setBlock frozen?_setBlock heap_setBlock_same)
set_option linter.unusedVariables false
set_option linter.unusedSimpArgs false

theorem own : ownKnob Try.prog.godebug = none := by kernel_rfl

set_option maxRecDepth 100000 in
set_option maxHeartbeats 1000000 in
theorem walk (a0x : Int) (wa0x : (Lit.int .i64 a0x).wf = true) (a0y : Int) (wa0y : (Lit.int .i64 a0y).wf = true) (a1x : Int) (wa1x : (Lit.int .i64 a1x).wf = true) (a1y : Int) (wa1y : (Lit.int .i64 a1y).wf = true) (a1z : Int) (wa1z : (Lit.int .i64 a1z).wf = true) (a2 : Int) (w2 : (Lit.int .i64 a2).wf = true) (w : World) :
    Calls Try.prog 5 #[.agg #[.int .i64 a0x, .int .i64 a0y], .agg #[.int .i64 a1x, .int .i64 a1y, .int .i64 a1z], .int .i64 a2] w fun e w' => e = .returned (.bool true) ∧ Below w.heap.size w w' := by
  have mixed : Try.prog.follows .mixedOrders = true := by kernel_rfl
  have SS := Lib.hid (fun (w : World) => Try.sDoesFit a0x a0y a1x a1y a1z a2 w)
  have SI := Lib.hid (fun (w : World) => Try.iDoesFit a0x a0y a1x a1y a1z a2 w)
  generalize dfV a0x a0y a1x a1y a1z a2 = v at *
  generalize dfB a0x a0y a1x a1y a1z a2 = b at *
  go_enter Try.func5, Try.ntmps5
  go_wp2
  have h0 : ((w.alloc (.cells #[.int .i64 a0x, .int .i64 a0y] 23)).alloc (.cells #[.int .i64 a1x, .int .i64 a1y, .int .i64 a1z] 25)).cell? ⟨w.heap.size, 0, none⟩ = some (.int .i64 a0x) := by simp [go_sem]
  have h1 : ((w.alloc (.cells #[.int .i64 a0x, .int .i64 a0y] 23)).alloc (.cells #[.int .i64 a1x, .int .i64 a1y, .int .i64 a1z] 25)).cell? ⟨w.heap.size, 1, none⟩ = some (.int .i64 a0y) := by simp [go_sem]
  have h2 : ((w.alloc (.cells #[.int .i64 a0x, .int .i64 a0y] 23)).alloc (.cells #[.int .i64 a1x, .int .i64 a1y, .int .i64 a1z] 25)).cell? ⟨w.heap.size + 1, 0, none⟩ = some (.int .i64 a1x) := by simp [go_sem]
  have h3 : ((w.alloc (.cells #[.int .i64 a0x, .int .i64 a0y] 23)).alloc (.cells #[.int .i64 a1x, .int .i64 a1y, .int .i64 a1z] 25)).cell? ⟨w.heap.size + 1, 1, none⟩ = some (.int .i64 a1y) := by simp [go_sem]
  have h4 : ((w.alloc (.cells #[.int .i64 a0x, .int .i64 a0y] 23)).alloc (.cells #[.int .i64 a1x, .int .i64 a1y, .int .i64 a1z] 25)).cell? ⟨w.heap.size + 1, 2, none⟩ = some (.int .i64 a1z) := by simp [go_sem]
  have hG : Gr w ((w.alloc (.cells #[.int .i64 a0x, .int .i64 a0y] 23)).alloc (.cells #[.int .i64 a1x, .int .i64 a1y, .int .i64 a1z] 25)) := (by repeat (first | exact Gr.refl _ | refine Gr.alloc ?_ _ | refine Gr.trans ?_ (by assumption) | refine Gr.drew ?_ | refine Gr.drewN ?_ _ | refine Gr.grow ?_ _ | refine Gr.setCell ?_ (by (try simp); (try omega)) _))
  generalize ((w.alloc (.cells #[.int .i64 a0x, .int .i64 a0y] 23)).alloc (.cells #[.int .i64 a1x, .int .i64 a1y, .int .i64 a1z] 25)) = W0 at *
  have b0 := gr_all (Gr.refl W0) h0
  have b1 := gr_all (Gr.refl W0) h1
  have b2 := gr_all (Gr.refl W0) h2
  have b3 := gr_all (Gr.refl W0) h3
  have b4 := gr_all (Gr.refl W0) h4
  (refine wp_region_quiet_grown mixed (by kernel_rfl) ?_; (repeat (first | go_big_quiet_step ((first | (go_at_call 19; exact Calls.grown_of (Try.toStreet _ _ _)) | (go_at_call 20; exact Calls.grown_of (Try.toClue _ _ _ _)) | (go_at_call 27; exact Calls.grown_of (SS.out _)))) | quiet_step ((first | (go_at_call 19; exact Calls.grown_of (Try.toStreet _ _ _)) | (go_at_call 20; exact Calls.grown_of (Try.toClue _ _ _ _)) | (go_at_call 27; exact Calls.grown_of (SS.out _)))))); refine wpQuiet_nil ?_; intro _ hw'; obtain ⟨⟨nq, osq⟩, hw''⟩ := hw'; subst hw'')
  have g1 : Gr W0 (Go.Sort.grow (W0.drewN nq) osq) := Gr.grow (Gr.drewN (Gr.refl W0) _) _
  clear b0 b1 b2 b3 b4
  have b0 := gr_all g1 h0
  have b1 := gr_all g1 h1
  have b2 := gr_all g1 h2
  have b3 := gr_all g1 h3
  have b4 := gr_all g1 h4
  generalize Go.Sort.grow (W0.drewN nq) osq = W1 at *
  go_wp2
  (refine wp_region_quiet_grown mixed (by kernel_rfl) ?_; (repeat (first | go_big_quiet_step ((first | (go_at_call 19; exact Calls.grown_of (Try.toStreet _ _ _)) | (go_at_call 20; exact Calls.grown_of (Try.toClue _ _ _ _)) | (go_at_call 28; exact Calls.grown_of (SI.out _)))) | quiet_step ((first | (go_at_call 19; exact Calls.grown_of (Try.toStreet _ _ _)) | (go_at_call 20; exact Calls.grown_of (Try.toClue _ _ _ _)) | (go_at_call 28; exact Calls.grown_of (SI.out _)))))); refine wpQuiet_nil ?_; intro _ hw'; obtain ⟨⟨nq, osq⟩, hw''⟩ := hw'; subst hw'')
  go_wp2
  go_ret
  exact ⟨rfl, Gr.below (hG.trans (g1.trans (Gr.grow (Gr.drewN (Gr.refl W1) _) _)))⟩

set_option maxRecDepth 100000 in
theorem lifted (os : Os) (started : os.Started) (H : Type) (enc : TypeId × Value → H) :
    ReturnsInHanded {} Try.checked os 5 .any (Rows.fnExactDoesFitSpec.pre6 enc Try.prog Try.f5 Rows.fnExactDoesFitRow.domain false) (Rows.fnExactDoesFitSpec.post enc Try.prog Try.f5 false true false false) := by
  refine returnsInHanded_of_change (C := Try.checked) own started (by kernel_rfl) Try.func5
    (ChangeSpec.witness6 (enc := enc) (C := Try.checked) false ⟨#[], #[.agg #[.int .i64 0, .int .i64 0], .agg #[.int .i64 0, .int .i64 0, .int .i64 0], .int .i64 0], []⟩ 8 (by kernel_rfl) (by kernel_rfl) (by kernel_rfl) (by kernel_rfl)) ?_
  intro W base args ds gs before hval0 hW hcnd _
  have hval : ∀ (j : Nat) t v, Try.f5.params[j]? = some t → args[j]? = some v → Value.okWide Try.prog W .any base t v := hval0
  have hW' := hW
  obtain ⟨p, q, hA0, hV, rfl, hfz, hnd⟩ := hW
  have hA : DataW.TrodAll enc Try.prog W 0 (fun _ => true) true Try.f5.params.toList args.toList ds p := hA0
  rw [Try.params5] at hA hval
  obtain ⟨v0, vs0, d0, ds0, p0, q0, hargs, rfl, rfl, h0, r0⟩ := trodAll_cons hA
  obtain ⟨v1, vs1, d1, ds1, p1, q1, rfl, rfl, rfl, h1, r1⟩ := trodAll_cons r0
  obtain ⟨v2, vs2, d2, ds2, p2, q2, rfl, rfl, rfl, h2, r2⟩ := trodAll_cons r1
  obtain ⟨rfl, rfl, rfl⟩ := trodAll_nil r2
  obtain rfl : args = #[v0, v1, v2] := by cases args; simp_all
  obtain ⟨rfl, rfl⟩ := trodVars_none hV
  obtain ⟨c0x, c0y, y0x, y0y, m0, rfl, rfl, rfl, hy0x, hy0y⟩ := open_agg2 Try.underlying23 (by kernel_rfl) (show Try.prog.cellsOf 23 = 2 by kernel_rfl) (hval 0 23 v0 rfl rfl) h0
  obtain ⟨a0x, e0x, rfl, wa0x⟩ := DataW.trod_int Try.underlying3 hy0x
  obtain ⟨a0y, e0y, rfl, wa0y⟩ := DataW.trod_int Try.underlying3 hy0y
  simp at e0x e0y
  subst e0x e0y
  have sr0 : ∀ (W' : World) (sp : Nat → Bool), DataW.Trod enc Try.prog W' 0 sp true 23 (.agg #[.int .i64 a0x, .int .i64 a0y]) (.agg [.lit (.int .i64 a0x), .lit (.int .i64 a0y)]) [] := fun W' sp =>
    shut_agg2 (y0 := (.lit (.int .i64 a0x), [])) (y1 := (.lit (.int .i64 a0y), [])) Try.underlying23 (by kernel_rfl) (show Try.prog.cellsOf 23 = 2 by kernel_rfl) ⟨1, by simp [DataW.trod, Try.underlying3, wa0x]⟩ ⟨1, by simp [DataW.trod, Try.underlying3, wa0y]⟩
  obtain ⟨c1x, c1y, c1z, y1x, y1y, y1z, m1, rfl, rfl, rfl, hy1x, hy1y, hy1z⟩ := open_agg3 Try.underlying25 (by kernel_rfl) (show Try.prog.cellsOf 25 = 3 by kernel_rfl) (hval 1 25 v1 rfl rfl) h1
  obtain ⟨a1x, e1x, rfl, wa1x⟩ := DataW.trod_int Try.underlying3 hy1x
  obtain ⟨a1y, e1y, rfl, wa1y⟩ := DataW.trod_int Try.underlying3 hy1y
  obtain ⟨a1z, e1z, rfl, wa1z⟩ := DataW.trod_int Try.underlying3 hy1z
  simp at e1x e1y e1z
  subst e1x e1y e1z
  have sr1 : ∀ (W' : World) (sp : Nat → Bool), DataW.Trod enc Try.prog W' 0 sp true 25 (.agg #[.int .i64 a1x, .int .i64 a1y, .int .i64 a1z]) (.agg [.lit (.int .i64 a1x), .lit (.int .i64 a1y), .lit (.int .i64 a1z)]) [] := fun W' sp =>
    shut_agg3 (y0 := (.lit (.int .i64 a1x), [])) (y1 := (.lit (.int .i64 a1y), [])) (y2 := (.lit (.int .i64 a1z), [])) Try.underlying25 (by kernel_rfl) (show Try.prog.cellsOf 25 = 3 by kernel_rfl) ⟨1, by simp [DataW.trod, Try.underlying3, wa1x]⟩ ⟨1, by simp [DataW.trod, Try.underlying3, wa1y]⟩ ⟨1, by simp [DataW.trod, Try.underlying3, wa1z]⟩
  obtain ⟨a2, rfl, rfl, rfl, w2⟩ := open_int Try.underlying3 (hval 2 3 v2 rfl rfl) h2
  clear hA0 hval0
  simp only [List.append_nil] at hW'
  refine (walk a0x wa0x a0y wa0y a1x wa1x a1y wa1y a1z wa1z a2 w2 W).mono fun e W' ⟨he, bel⟩ => ?_
  subst he
  exact ⟨_, rfl, _, _, _, [], [], [], hW', trodAll_mk1 (shut_bool Try.underlying4 _), (trodAll_cons_mk (sr0 _ _) (trodAll_cons_mk (sr1 _ _) (trodAll_cons_mk (shut_int Try.underlying3 w2) trodAll_mk0))), rfl, bel.frame _, fun h => by cases h⟩

theorem over : Rows.fnExactDoesFitRow.holds Try.pinned (OpenSpec.ofChange Rows.fnExactDoesFitSpec) :=
  OpenClaim.holds_of_wide 5 Try.f5 rfl rfl rfl rfl rfl rfl rfl ⟨rfl, rfl, rfl, rfl, rfl⟩ rfl rfl rfl rfl rfl (by kernel_rfl) Try.func5 (show joinedFacts Try.prog 5 Try.f5 Rows.fnExactDoesFitSpec Rows.fnExactDoesFitRow = true by unfold joinedFacts; rw [Try.frMake, Try.frEnter, Try.frLifts]; kernel_rfl)
    (of_decide_eq_true (by kernel_rfl)) (by unfold Func.isWrapper; first | (rw [if_pos (by decide +kernel)]; kernel_rfl) | (rw [if_neg (by decide +kernel)]; exact ⟨rfl, rfl⟩))
    (fun os started H enc _ => lifted os started H enc)

/-- The statement. -/
theorem proved : Rows.FnExactDoesFitSaid :=
  over
#print axioms proved
end Go.Proofs.Ytbnabjnpdkmbhaa.fnExactDoesFit
