/-
  'FnExactPlatesFrom' answers true at every argument and leaves its arguments as they were: the function of the program and its model give the same results.
-/
import Derived.Test.YtcmlojidcpomjaaRows
import Derived.WalkKit
import Derived.ProofKit
import Derived.OpenShut
import Derived.Lib.SmallJoins
import Derived.Carry
import Derived.Test.YtcmlojidcpomjaaNuG
namespace Go.Proofs.Ytcmlojidcpomjaa.fnExactPlatesFrom
open Go.ChangeShapes Go.WideShapes Go.ChangeAt Go.RowKit Go.Joins
open Go.WideMaps Go.WideElems
open Go.ChangeMaps (setBlock shut_map_nil open_string shut_string keptBut_setBlock frozen?_setBlock heap_setBlock_same)
set_option linter.unusedVariables false
set_option linter.unusedSimpArgs false

theorem own : ownKnob Try.prog.godebug = none := by kernel_rfl
theorem laidOut : laidOutB Try.prog = true := by kernel_rfl

set_option maxRecDepth 100000 in
set_option maxHeartbeats 1000000 in
theorem walk (a0 : Option Addr) (len0 cap0 : Nat) (z0 : List Int) (w : World) (w0 : ArgI w a0 len0 cap0 z0) :
    Calls Try.prog 4 #[.slice a0 len0 cap0] w fun e w' => e = .returned (.bool true) ∧ Below w.heap.size w w' := by
  by_cases hsum : len0 ≤ 1048576
  case neg =>
    have z : (1048576 : Int) < (len0 : Int) := by omega
    clear w0
    go_enter Try.func4, Try.ntmps4
    go_wp2
    go_ret
    exact ⟨rfl, Gr.below (by repeat (first | exact Gr.refl _ | refine Gr.alloc ?_ _ | refine Gr.trans ?_ (by assumption) | refine Gr.drew ?_ | refine Gr.drewN ?_ _ | refine Gr.grow ?_ _ | refine Gr.setCell ?_ (by (try simp); (try omega)) _))⟩
  have zl0 : z0.length ≤ 1048576 := by have := w0.1; omega
  have z : ¬ (1048576 : Int) < (len0 : Int) := by omega
  obtain ⟨n, b, HS, HI⟩ : ∃ (n : Int) (b : Bool), Hid (∀ (w : World) B v, OwnI w B v z0 → Calls Try.prog 17 #[v] w fun e w' => e = .returned (.tuple #[.int .i64 n, .bool b]) ∧ Below w.heap.size w w') ∧ Hid (∀ (w : World) B v, OwnI w B v z0 → Calls Try.prog 19 #[v] w fun e w' => e = .returned (.tuple #[.int .i64 n, .bool b]) ∧ Below w.heap.size w w') := by
    by_cases ha : AllDig z0
    · obtain ⟨l, hl⟩ := Nu.lastp_ex z0 ha.2
      exact ⟨l, true, Lib.hid (fun w B v h => Try.sPlates w B v z0 l ha hl h), Lib.hid (fun w B v h => (Try.iPlates w B v z0 l ha hl h).mono fun e w' q => ⟨q.1, q.2.below⟩)⟩
    · exact ⟨0, false, Lib.hid (fun w B v h => Try.sPlatesNo w B v z0 zl0 ha h), Lib.hid (fun w B v h => (Try.iPlatesNo w B v z0 zl0 ha h).mono fun e w' q => ⟨q.1, q.2.below⟩)⟩
  have WA := Lib.hid w0
  have HL := Lib.hid hsum
  clear w0
  go_enter Try.func4, Try.ntmps4
  go_wp2_with fail
  refine (Try.toIntS _ _ _ _ _ HL.out WA.out).mono ?_
  rintro e w3 ⟨v3, rfl, o3, b3⟩
  go_wp2_with fail
  refine (HS.out _ _ _ o3).mono ?_
  rintro e w4 ⟨rfl, b4⟩
  have B4 := b3.trans (b4.mono b3.size)
  go_wp2_with fail
  refine (Try.toIntS _ _ _ _ _ HL.out (WA.out.below B4)).mono ?_
  rintro e w5 ⟨v5, rfl, o5, b5⟩
  have B5 := B4.trans (b5.mono B4.size)
  go_wp2_with fail
  refine (HI.out _ _ _ o5).mono ?_
  rintro e w7 ⟨rfl, b7⟩
  have o7 := o5.below b7 (Nat.le_refl _)
  have B7 := B5.trans (b7.mono B5.size)
  go_wp2_with fail
  refine (Try.toIntS _ _ _ _ _ HL.out (WA.out.below B7)).mono ?_
  rintro e w8 ⟨v8, rfl, o8, b8⟩
  have o9 := o7.below b8 (Nat.le_refl _)
  have B8 := B7.trans (b8.mono B7.size)
  go_wp2_with fail
  refine (Try.eqIntS _ _ _ _ _ _ o9 o8).mono ?_
  rintro e w9 ⟨rfl, g9⟩
  go_wp2
  go_ret
  exact ⟨rfl, B8.trans (g9.below.mono B8.size)⟩

set_option maxRecDepth 100000 in
theorem lifted (os : Os) (started : os.Started) (H : Type) (enc : TypeId × Value → H) :
    ReturnsInHanded {} Try.checked os 4 .any (Rows.fnExactPlatesFromSpec.pre6 enc Try.prog Try.f4 Rows.fnExactPlatesFromRow.domain false) (Rows.fnExactPlatesFromSpec.post enc Try.prog Try.f4 false true false false) := by
  refine returnsInHanded_of_change (C := Try.checked) own started (by kernel_rfl) Try.func4
    (ChangeSpec.witness6 (enc := enc) (C := Try.checked) false ⟨#[], #[.slice none 0 0], []⟩ 8 (by kernel_rfl) (by kernel_rfl) (by kernel_rfl) (by kernel_rfl)) ?_
  intro W base args ds gs before hval0 hW hcnd _
  have hval : ∀ (j : Nat) t v, Try.f4.params[j]? = some t → args[j]? = some v → Value.okWide Try.prog W .any base t v := hval0
  have hW' := hW
  obtain ⟨p, q, hA0, hV, rfl, hfz, hnd⟩ := hW
  have hA : DataW.TrodAll enc Try.prog W 0 (fun _ => true) true Try.f4.params.toList args.toList ds p := hA0
  rw [Try.params4] at hA hval
  obtain ⟨v0, vs0, d0, ds0, p0, q0, hargs, rfl, rfl, h0, r0⟩ := trodAll_cons hA
  obtain ⟨rfl, rfl, rfl⟩ := trodAll_nil r0
  obtain rfl : args = #[v0] := by cases args; simp_all
  obtain ⟨rfl, rfl⟩ := trodVars_none hV
  obtain ⟨a0, len0, cap0, rfl⟩ := okWide_slice Try.underlying24 (hval 0 24 v0 rfl rfl)
  have k0 := h0
  have lt0 : ∀ x ∈ p0, x.block < W.heap.size := by obtain ⟨m, hm⟩ := k0; exact DataW.trod_lt m _ _ _ hm
  obtain ⟨z0, w0⟩ : ∃ zs, ArgI W a0 len0 cap0 zs := by
    obtain ⟨fuel, hf⟩ := h0
    rcases open_ints Try.underlying24 Try.underlying3 (by kernel_rfl) hf with ⟨hcs, _⟩ | ⟨x, l, c, zs, hcs, _, hl, hm, hz, _, hcell, hwz⟩
    · simp [Value.cells] at hcs
      obtain ⟨rfl, rfl, rfl⟩ := hcs
      exact ⟨[], rfl, Nat.le_refl _, Nat.zero_le _, fun n hn => by simp at hn, .inl rfl⟩
    · simp [Value.cells] at hcs
      obtain ⟨rfl, rfl, rfl⟩ := hcs
      exact ArgI.of_open hl hm (by simpa using hz) hcell hwz
  clear hA0 hval0
  simp only [List.append_nil] at hW'
  refine (walk a0 len0 cap0 z0 W w0).mono fun e W' ⟨he, bel⟩ => ?_
  subst he
  exact ⟨_, rfl, _, _, _, [], _, [], hW', trodAll_mk1 (shut_bool Try.underlying4 _), (trodAll_cons_mk (Below.trod laidOut (by kernel_rfl) (of_decide_eq_true (by kernel_rfl)) k0 bel lt0) trodAll_mk0), rfl, bel.frame _, fun h => by cases h⟩

theorem over : Rows.fnExactPlatesFromRow.holds Try.pinned (OpenSpec.ofChange Rows.fnExactPlatesFromSpec) :=
  OpenClaim.holds_of_wide 4 Try.f4 rfl rfl rfl rfl rfl rfl rfl ⟨rfl, rfl, rfl, rfl, rfl⟩ rfl rfl rfl rfl rfl (by kernel_rfl) Try.func4 (by kernel_rfl)
    (of_decide_eq_true (by kernel_rfl)) (by unfold Func.isWrapper; first | (rw [if_pos (by decide +kernel)]; kernel_rfl) | (rw [if_neg (by decide +kernel)]; exact ⟨rfl, rfl⟩))
    (fun os started H enc _ => lifted os started H enc)

/-- The statement. -/
theorem proved : Rows.FnExactPlatesFromSaid :=
  over
#print axioms proved
end Go.Proofs.Ytcmlojidcpomjaa.fnExactPlatesFrom
