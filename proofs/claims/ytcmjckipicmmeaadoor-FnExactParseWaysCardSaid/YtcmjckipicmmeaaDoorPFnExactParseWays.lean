/-
  'FnExactParseWays' answers true at every argument and leaves its arguments as they were: the function of the program and its model give the same results. What the library's own tables hold is tied to the program's text.
-/
import Derived.Test.YtcmjckipicmmeaaDoorCards
import Derived.Test.YtcmjckipicmmeaaDoorTie
import Derived.WalkKit
import Derived.ProofKit
import Derived.LaidMore
import Derived.OpenShut
import Derived.Stop.Joined
import Derived.SevenTiedAt
import Derived.Lib.SmallJoins
import Derived.Carry
import Derived.Lay
import Derived.Test.YtcmjckipicmmeaaDoorPsW
namespace Go.Proofs.YtcmjckipicmmeaaDoor.fnExactParseWays
open Go.ChangeShapes Go.WideShapes Go.ChangeAt Go.RowKit Go.Joins
open Go.WideMaps Go.WideElems
open Go.ChangeMaps (setBlock shut_map_nil open_string shut_string keptBut_setBlock frozen?_setBlock heap_setBlock_same)
set_option linter.unusedVariables false
set_option linter.unusedSimpArgs false

theorem own : ownKnob Tryd.prog.godebug = none := by kernel_rfl
def laidL : List (String × DataW Unit) := [("unicode/utf8.acceptRanges", Rows.laid_unicode_utf8_acceptRanges), ("unicode/utf8.first", Rows.laid_unicode_utf8_first)]
/-- A heap that holds the listed variables meets the condition. -/
theorem door_met (os : Os) (args : Array Value) : laidMetH Tryd.prog laidL ((World.laidAll Tryd.prog os laidL).forCall (fun _ _ => 0) ⟨#[], args, []⟩).memory := by
  rw [MakeChecks.laidMetH_plain _ _ _ (by kernel_rfl)]
  exact laidMet_laidAll _ (by kernel_rfl) (by kernel_rfl)

set_option maxRecDepth 100000 in
set_option maxHeartbeats 1000000 in
theorem walk (a0 : ByteArray) (w0 : a0.size ≤ maxLen) (w : World) :
    Calls Tryd.prog 12 #[.string a0] w fun e w' => e = .returned (.bool true) ∧ Below w.heap.size w w' := by
  by_cases hl0 : a0.size ≤ 1048576
  case neg =>
    have hz0 : (1048576 : Int) < (a0.size : Int) := by omega
    have hzm := w0
    unfold maxLen at hzm
    go_enter Tryd.func12, Tryd.ntmps12
    go_wp2
    go_ret
    exact ⟨rfl, Gr.below (by repeat (first | exact Gr.refl _ | refine Gr.alloc ?_ _ | refine Gr.trans ?_ (by assumption) | refine Gr.drew ?_ | refine Gr.drewN ?_ _ | refine Gr.grow ?_ _ | refine Gr.setCell ?_ (by (try simp); (try omega)) _))⟩
  have hz0 : ¬ (1048576 : Int) < (a0.size : Int) := by omega
  have hml : a0.size ≤ maxLen := by unfold maxLen; omega
  have HS := Lib.hid (fun (w : World) => Tryd.sParseWays w a0 hl0)
  have HI := Lib.hid (fun (w : World) => Tryd.iParseWays w a0 hml)
  generalize pv1 a0 = v1 at *
  generalize pv2 a0 = v2 at *
  generalize pwB a0 = b at *
  go_enter Tryd.func12, Tryd.ntmps12
  go_wp2_with fail
  refine (HS.out _).mono ?_
  rintro e wv1 ⟨rfl, b1⟩
  have h1 : (wv1.alloc (.cells #[.string v1, .string v2] 26)).cell? ⟨wv1.heap.size, 0, none⟩ = some (.string v1) := by simp [go_sem]
  have h2 : (wv1.alloc (.cells #[.string v1, .string v2] 26)).cell? ⟨wv1.heap.size, 1, none⟩ = some (.string v2) := by simp [go_sem]
  have B1 : Below w.heap.size w (wv1.alloc (.cells #[.string v1, .string v2] 26)) := Below.alloc b1 b1.size _
  go_wp2_with fail
  refine (HI.out _).mono ?_
  rintro e wv2 ⟨rfl, g2⟩
  have f1 := (Gr.alloc g2 (.cells #[.string v1, .string v2] 26)).keep0 h1
  have f2 := (Gr.alloc g2 (.cells #[.string v1, .string v2] 26)).keep0 h2
  clear h1 h2
  have B2 : Below w.heap.size w (wv2.alloc (.cells #[.string v1, .string v2] 26)) := B1.trans ((Gr.alloc g2 (.cells #[.string v1, .string v2] 26)).below.mono B1.size)
  have f3 : (wv2.alloc (.cells #[.string v1, .string v2] 26)).cell? ⟨wv2.heap.size, 0, none⟩ = some (.string v1) := by simp [go_sem]
  have f4 : (wv2.alloc (.cells #[.string v1, .string v2] 26)).cell? ⟨wv2.heap.size, 1, none⟩ = some (.string v2) := by simp [go_sem]
  go_wp2_with fail
  refine (Tryd.eqWays _ _ _).mono ?_
  rintro e wv3 ⟨rfl, g3⟩
  go_wp2
  go_ret
  exact ⟨rfl, B2.trans (g3.below.mono B2.size)⟩

set_option maxRecDepth 100000 in
theorem lifted (os : Os) (started : os.Started) (H : Type) (enc : TypeId × Value → H) :
    ReturnsInHanded {} Tryd.checked os 12 .any (fun w args => (Rows.fnExactParseWaysSpec.pre enc Tryd.prog Tryd.f12 [] false w args ∧ laidMetH Tryd.prog laidL w) ∧ sizedMet enc Tryd.prog Tryd.f12 (OpenSpec.ofChange Rows.fnExactParseWaysSpec) false w args)
      (Rows.fnExactParseWaysSpec.post enc Tryd.prog Tryd.f12 false true false false) := by
  refine returnsInHanded_of_change_and (C := Tryd.checked) (X := fun w _ => laidMetH Tryd.prog laidL w) (fun _ _ _ hh h => h.of_heap hh) own started (by kernel_rfl) Tryd.func12
    (ChangeSpec.witness_shaped (enc := enc) (C := Tryd.checked) (os := os) (X := fun w _ => laidMetH Tryd.prog laidL w) false (World.laidAll Tryd.prog os laidL) #[.string ⟨#[]⟩] 8 (World.laidAll_os _ _ _) (World.shaped_of_ZipB (by kernel_rfl) (by kernel_rfl)) (by kernel_rfl) (by kernel_rfl) (by kernel_rfl) (door_met os _)) ?_
  intro W base args ds gs before hval0 hW _ _ hL _
  have hval : ∀ (j : Nat) t v, Tryd.f12.params[j]? = some t → args[j]? = some v → Value.okWide Tryd.prog W .any base t v := hval0
  have hW' := hW
  obtain ⟨p, q, hA0, hV, rfl, hfz, hnd⟩ := hW
  have hA : DataW.TrodAll enc Tryd.prog W 0 (fun _ => true) true Tryd.f12.params.toList args.toList ds p := hA0
  rw [Tryd.params12] at hA hval
  obtain ⟨v0, vs0, d0, ds0, p0, q0, hargs, rfl, rfl, h0, r0⟩ := trodAll_cons hA
  obtain ⟨rfl, rfl, rfl⟩ := trodAll_nil r0
  obtain rfl : args = #[v0] := by cases args; simp_all
  obtain ⟨rfl, rfl⟩ := trodVars_none hV
  obtain ⟨a0, rfl, rfl, rfl, w0⟩ := open_string Tryd.underlying9 (hval 0 9 v0 rfl rfl) h0
  clear hA0 hval0
  simp only [List.append_nil] at hW'
  refine (walk a0 w0 W).mono fun e W' ⟨he, bel⟩ => ?_
  subst he
  exact ⟨_, rfl, _, _, _, [], [], [], hW', trodAll_mk1 (shut_bool Tryd.underlying4 _), (trodAll_cons_mk (shut_string Tryd.underlying9 w0) trodAll_mk0), rfl, bel.frame _, fun h => by cases h⟩

theorem over : Rows.FnExactParseWaysSaid :=
  OpenClaim.holds_of_wide 12 Tryd.f12 rfl rfl rfl rfl rfl rfl rfl ⟨rfl, rfl, rfl, rfl, rfl⟩ rfl rfl rfl rfl rfl (by kernel_rfl) Tryd.func12 (by kernel_rfl)
    (of_decide_eq_true (by kernel_rfl)) (by unfold Func.isWrapper; first | (rw [if_pos (by decide +kernel)]; kernel_rfl) | (rw [if_neg (by decide +kernel)]; exact ⟨rfl, rfl⟩))
    (fun os started H enc _ => lifted os started H enc)

/-- The statement: the tied card. -/
theorem proved : Rows.FnExactParseWaysCardSaid :=
  Claim7.holds_tied_plain_at .later [] [.data, .pinned] true (true, "b45b3f090f36726a08afb2c99e12935b1983a52e6bb89ba9b433d4936a2bc797") false
    over (fun _ h => by cases h) (by kernel_rfl) (fun _ h => by cases h) fnExactParseWays_row_tie rfl ⟨rfl, rfl⟩ (by kernel_rfl) rfl
    (fun f fn hf hfn => by
      obtain rfl : f = 12 := Option.some.inj ((show Tryd.prog.funcNamed "loop.example/g01336/laws.FnExactParseWays" = some 12 by kernel_rfl).symm.trans hf) |>.symm
      obtain rfl : fn = Tryd.f12 := (Option.some.inj (Tryd.func12.symm.trans hfn)).symm
      exact ⟨by kernel_rfl, fun j t ht => by
        rw [Tryd.params12] at ht
        have hm : t ∈ [9] := by simpa using Array.mem_of_getElem? ht
        have hall : ([9].all fun u => !Tryd.prog.wantsStandIn u) = true := by kernel_rfl
        exact (show Tryd.prog.wantsStandIn t = false by simpa using List.all_eq_true.1 hall t hm)⟩)
    (by kernel_rfl)
#print axioms proved
end Go.Proofs.YtcmjckipicmmeaaDoor.fnExactParseWays
