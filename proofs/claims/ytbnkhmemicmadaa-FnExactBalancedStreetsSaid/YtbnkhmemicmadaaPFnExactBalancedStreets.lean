/-
  'FnExactBalancedStreets' answers true at every argument and leaves its arguments as they were: the function of the program and its model give the same results.
-/
import Derived.Test.YtbnkhmemicmadaaRows
import Derived.WalkKit
import Derived.ProofKit
import Derived.OpenShut
import Derived.Lib.SmallJoins
import Derived.Carry
import Derived.Test.YtbnkhmemicmadaaNuR
namespace Go.Proofs.Ytbnkhmemicmadaa.fnExactBalancedStreets
open Go.ChangeShapes Go.WideShapes Go.ChangeAt Go.RowKit Go.Joins
open Go.WideMaps Go.WideElems
open Go.ChangeMaps (setBlock shut_map_nil open_string shut_string keptBut_setBlock frozen?_setBlock heap_setBlock_same)
set_option linter.unusedVariables false
set_option linter.unusedSimpArgs false

theorem own : ownKnob Try.prog.godebug = none := by kernel_rfl

set_option maxRecDepth 100000 in
set_option maxHeartbeats 1000000 in
theorem walk (a0 : Int) (w0 : (Lit.int .i64 a0).wf = true) (w : World) :
    Calls Try.prog 5 #[.int .i64 a0] w fun e w' => e = .returned (.bool true) ∧ Below w.heap.size w w' := by
  obtain ⟨h, hh⟩ := houses_ex
  have HS := Lib.hid (fun (w : World) => Try.sBalanced h hh a0 w)
  have HI := Lib.hid (fun (w : World) => Try.iBalanced h hh a0 w)
  have hlen : (blW h a0).length ≤ 100000000 := by have := blW_len h a0; omega
  generalize blW h a0 = xs at HS HI hlen
  clear hh
  generalize blB a0 = b at HS HI
  go_enter Try.func5, Try.ntmps5
  go_wp2_with fail
  refine (HS.out _).mono ?_
  rintro e wS ⟨vS, rfl, hoS, hbS⟩
  go_wp2_with fail
  refine (HI.out _).mono ?_
  rintro e w4 ⟨v1, rfl, ho1, hb1⟩
  go_wp2_with fail
  refine (Try.eqIntSS _ _ _ _ _ _ ho1 (hoS.below hb1 (Nat.le_refl _))).mono ?_
  rintro e w5 ⟨rfl, g5⟩
  go_wp2_with fail
  refine (Try.markIntSS _ _ _ _ 1 (by omega) (by omega) hlen (ho1.gr g5)).mono ?_
  rintro e w6 ⟨rfl, ho6, hb6⟩
  go_wp2_with fail
  refine (Try.heldIntSS _ _ _ _ 1 (by omega) (by omega) hlen ho6).mono ?_
  rintro e w7 ⟨rfl, rfl⟩
  have b16 := (hb1.trans (g5.below.mono hb1.size)).trans hb6
  go_wp2_with fail
  refine (HI.out _).mono ?_
  rintro e w8 ⟨v2, rfl, ho8, hb8⟩
  have b18 := b16.trans (hb8.mono b16.size)
  go_wp2_with fail
  refine (Try.eqIntSS _ _ _ _ _ _ ho8 (hoS.below b18 (Nat.le_refl _))).mono ?_
  rintro e w9 ⟨rfl, g9⟩
  go_wp2_with fail
  refine (Try.heldIntSS _ _ _ _ 1 (by omega) (by omega) hlen ((ho6.below hb8 (Nat.le_refl _)).gr g9)).mono ?_
  rintro e w10 ⟨rfl, rfl⟩
  go_wp2
  go_ret
  have b19 := b18.trans (g9.below.mono b18.size)
  exact ⟨rfl, hbS.trans (b19.mono hbS.size)⟩

set_option maxRecDepth 100000 in
theorem lifted (os : Os) (started : os.Started) (H : Type) (enc : TypeId × Value → H) :
    ReturnsInHanded {} Try.checked os 5 .any (Rows.fnExactBalancedStreetsSpec.pre6 enc Try.prog Try.f5 Rows.fnExactBalancedStreetsRow.domain false) (Rows.fnExactBalancedStreetsSpec.post enc Try.prog Try.f5 false true false false) := by
  refine returnsInHanded_of_change (C := Try.checked) own started (by kernel_rfl) Try.func5
    (ChangeSpec.witness6 (enc := enc) (C := Try.checked) false ⟨#[], #[.int .i64 0], []⟩ 8 (by kernel_rfl) (by kernel_rfl) (by kernel_rfl) (by kernel_rfl)) ?_
  intro W base args ds gs before hval0 hW hcnd _
  have hval : ∀ (j : Nat) t v, Try.f5.params[j]? = some t → args[j]? = some v → Value.okWide Try.prog W .any base t v := hval0
  have hW' := hW
  obtain ⟨p, q, hA0, hV, rfl, hfz, hnd⟩ := hW
  have hA : DataW.TrodAll enc Try.prog W 0 (fun _ => true) true Try.f5.params.toList args.toList ds p := hA0
  rw [Try.params5] at hA hval
  obtain ⟨v0, vs0, d0, ds0, p0, q0, hargs, rfl, rfl, h0, r0⟩ := trodAll_cons hA
  obtain ⟨rfl, rfl, rfl⟩ := trodAll_nil r0
  obtain rfl : args = #[v0] := by cases args; simp_all
  obtain ⟨rfl, rfl⟩ := trodVars_none hV
  obtain ⟨a0, rfl, rfl, rfl, w0⟩ := open_int Try.underlying3 (hval 0 3 v0 rfl rfl) h0
  clear hA0 hval0
  simp only [List.append_nil] at hW'
  refine (walk a0 w0 W).mono fun e W' ⟨he, bel⟩ => ?_
  subst he
  exact ⟨_, rfl, _, _, _, [], [], [], hW', trodAll_mk1 (shut_bool Try.underlying4 _), (trodAll_cons_mk (shut_int Try.underlying3 w0) trodAll_mk0), rfl, bel.frame _, fun h => by cases h⟩

theorem over : Rows.fnExactBalancedStreetsRow.holds Try.pinned (OpenSpec.ofChange Rows.fnExactBalancedStreetsSpec) :=
  OpenClaim.holds_of_wide 5 Try.f5 rfl rfl rfl rfl rfl rfl rfl ⟨rfl, rfl, rfl, rfl, rfl⟩ rfl rfl rfl rfl rfl (by kernel_rfl) Try.func5 (by kernel_rfl)
    (of_decide_eq_true (by kernel_rfl)) (by unfold Func.isWrapper; first | (rw [if_pos (by decide +kernel)]; kernel_rfl) | (rw [if_neg (by decide +kernel)]; exact ⟨rfl, rfl⟩))
    (fun os started H enc _ => lifted os started H enc)

/-- The statement. -/
theorem proved : Rows.FnExactBalancedStreetsSaid :=
  over
#print axioms proved
end Go.Proofs.Ytbnkhmemicmadaa.fnExactBalancedStreets
