/-
  'FnExactBestLoot' answers true at every argument and leaves its arguments as they were: the function of the program and its model give the same results.
-/
import Derived.Test.YtjhpebihflcanaaRows
import Derived.WalkKit
import Derived.ProofKit
import Derived.OpenShut
import Derived.Lib.SmallJoins
import Derived.Carry
import Derived.Test.YtjhpebihflcanaaFr
import Derived.Test.YtjhpebihflcanaaArgs
import Derived.Test.YtjhpebihflcanaaInts2
import Derived.Test.YtjhpebihflcanaaRsS
namespace Go.Proofs.Ytjhpebihflcanaa.fnExactBestLoot
open Go.ChangeShapes Go.WideShapes Go.ChangeAt Go.RowKit Go.Joins
open Go.WideMaps Go.WideElems
open Go.ChangeMaps (setBlock shut_map_nil open_string shut_string keptBut_setBlock frozen?_setBlock heap_setBlock_same)
set_option linter.unusedVariables false
set_option linter.unusedSimpArgs false

theorem own : ownKnob Try.prog.godebug = none := by kernel_rfl
theorem laidOut : laidOutB Try.prog = true := by kernel_rfl

set_option maxRecDepth 100000 in
set_option maxHeartbeats 1000000 in
theorem walk (a0 : Option Addr) (len0 cap0 : Nat) (z0 : List Int) (a1 : Bool) (w : World) (w0 : ArgI w a0 len0 cap0 z0) :
    Calls Try.prog 7 #[.slice a0 len0 cap0, .bool a1] w fun e w' => e = .returned (.bool true) ∧ Below w.heap.size w w' := by
  by_cases hl0 : len0 ≤ 1048576
  case neg =>
    have hz0 : (1048576 : Int) < (len0 : Int) := by omega
    clear w0
    go_enter Try.func7, Try.ntmps7
    go_wp2
    go_ret
    exact ⟨rfl, Gr.below (by repeat (first | exact Gr.refl _ | refine Gr.alloc ?_ _ | refine Gr.trans ?_ (by assumption) | refine Gr.drew ?_ | refine Gr.drewN ?_ _ | refine Gr.grow ?_ _ | refine Gr.setCell ?_ (by (try simp); (try omega)) _))⟩
  have hz0 : ¬ (1048576 : Int) < (len0 : Int) := by omega
  have zl0 : (z0).length ≤ 1048576 := by have := w0.1; omega
  obtain ⟨b, hb⟩ := exbR (UpP z0 20 1000)
  have HS := Lib.hid (fun (w : World) B0 v0 h0 => Try.sBestLoot w B0 v0 z0 a1 b hb zl0 h0)
  have HI := Lib.hid (fun (w : World) B0 v0 h0 => Try.iBestLoot w B0 v0 z0 a1 b hb zl0 h0)
  generalize blV z0 a1 b = r0 at *
  have WA0 := Lib.hid w0
  have HL0 := Lib.hid hl0
  have wl0 : len0 ≤ maxLen := Nat.le_trans (WA0.out.2.1) (WA0.out.2.2.1)
  clear w0 hl0
  go_enter Try.func7, Try.ntmps7
  go_wp2_with fail
  refine (Try.toIntS _ _ _ _ _ HL0.out WA0.out).mono ?_
  rintro e wv1 ⟨v1, rfl, c1, d1⟩
  have b1 := d1
  have s1 := b1.size
  have B1 := b1
  have F1 := c1
  go_wp2_with fail
  refine (HS.out _ _ _ c1).mono ?_
  rintro e wv2 ⟨rfl, d2⟩
  have b2 := d2
  have s2 := b2.size
  have o2_1 := c1.below b2 (Nat.le_refl _)
  have B2 := B1.trans (b2.mono B1.size)
  go_wp2_with fail
  refine (Try.toIntS _ _ _ _ _ HL0.out (WA0.out.below B2)).mono ?_
  rintro e wv3 ⟨v3, rfl, c3, d3⟩
  have b3 := d3
  have s3 := b3.size
  have o3_1 := o2_1.below b3 (Nat.le_refl _)
  have B3 := B2.trans (b3.mono B2.size)
  have F2 := c3
  go_wp2_with fail
  refine (HI.out _ _ _ c3).mono ?_
  rintro e wv4 ⟨rfl, d4⟩
  have b4 := d4
  have s4 := b4.size
  have o4_1 := o3_1.below b4 (Nat.le_refl _)
  have o4_2 := c3.below b4 (Nat.le_refl _)
  have B4 := B3.trans (b4.mono B3.size)
  go_wp2_with fail
  refine (Try.toIntS _ _ _ _ _ HL0.out (WA0.out.below B4)).mono ?_
  rintro e wv5 ⟨v5, rfl, c5, d5⟩
  have b5 := d5
  have s5 := b5.size
  have o5_1 := o4_1.below b5 (Nat.le_refl _)
  have o5_2 := o4_2.below b5 (Nat.le_refl _)
  have B5 := B4.trans (b5.mono B4.size)
  go_wp2_with fail
  refine (Try.eqIntS _ _ _ _ _ _ o5_2 c5).mono ?_
  rintro e wv6 ⟨rfl, d6⟩
  have b6 := d6.below
  have s6 := b6.size
  have o6_1 := o5_1.below b6 (Nat.le_refl _)
  have o6_2 := o5_2.below b6 (Nat.le_refl _)
  have o6_3 := c5.below b6 (Nat.le_refl _)
  have B6 := B5.trans (b6.mono B5.size)
  go_wp2_with fail
  go_ret
  exact ⟨rfl, B6⟩

set_option maxRecDepth 100000 in
theorem lifted (os : Os) (started : os.Started) (H : Type) (enc : TypeId × Value → H) :
    ReturnsInHanded {} Try.checked os 7 .any (Rows.fnExactBestLootSpec.pre6 enc Try.prog Try.f7 Rows.fnExactBestLootRow.domain false) (Rows.fnExactBestLootSpec.post enc Try.prog Try.f7 false true false false) := by
  refine returnsInHanded_of_change (C := Try.checked) own started (by kernel_rfl) Try.func7
    (ChangeSpec.witness6 (enc := enc) (C := Try.checked) false ⟨#[], #[.slice none 0 0, .bool false], []⟩ 8 (by kernel_rfl) (by kernel_rfl) (by kernel_rfl) (by kernel_rfl)) ?_
  intro W base args ds gs before hval0 hW hcnd _
  have hval : ∀ (j : Nat) t v, Try.f7.params[j]? = some t → args[j]? = some v → Value.okWide Try.prog W .any base t v := hval0
  have hW' := hW
  obtain ⟨p, q, hA0, hV, rfl, hfz, hnd⟩ := hW
  have hA : DataW.TrodAll enc Try.prog W 0 (fun _ => true) true Try.f7.params.toList args.toList ds p := hA0
  rw [Try.params7] at hA hval
  obtain ⟨v0, vs0, d0, ds0, p0, q0, hargs, rfl, rfl, h0, r0⟩ := trodAll_cons hA
  obtain ⟨v1, vs1, d1, ds1, p1, q1, rfl, rfl, rfl, h1, r1⟩ := trodAll_cons r0
  obtain ⟨rfl, rfl, rfl⟩ := trodAll_nil r1
  obtain rfl : args = #[v0, v1] := by cases args; simp_all
  obtain ⟨rfl, rfl⟩ := trodVars_none hV
  obtain ⟨a0, len0, cap0, rfl⟩ := okWide_slice Try.underlying29 (hval 0 29 v0 rfl rfl)
  have k0 := h0
  have lt0 : ∀ x ∈ p0, x.block < W.heap.size := by obtain ⟨m, hm⟩ := k0; exact DataW.trod_lt m _ _ _ hm
  obtain ⟨z0, w0⟩ : ∃ zs, ArgI W a0 len0 cap0 zs := by
    obtain ⟨fuel, hf⟩ := h0
    rcases open_ints Try.underlying29 Try.underlying3 (by kernel_rfl) hf with ⟨hcs, _⟩ | ⟨x, l, c, zs, hcs, _, hl, hm, hz, _, hcell, hwz⟩
    · simp [Value.cells] at hcs
      obtain ⟨rfl, rfl, rfl⟩ := hcs
      exact ⟨[], rfl, Nat.le_refl _, Nat.zero_le _, fun n hn => by simp at hn, .inl rfl⟩
    · simp [Value.cells] at hcs
      obtain ⟨rfl, rfl, rfl⟩ := hcs
      exact ArgI.of_open hl hm (by simpa using hz) hcell hwz
  obtain ⟨a1, rfl, rfl, rfl⟩ := open_bool Try.underlying4 (hval 1 4 v1 rfl rfl) h1
  clear hA0 hval0
  simp only [List.append_nil] at hW'
  refine (walk a0 len0 cap0 z0 a1 W w0).mono fun e W' ⟨he, bel⟩ => ?_
  subst he
  exact ⟨_, rfl, _, _, _, [], _, [], hW', trodAll_mk1 (shut_bool Try.underlying4 _), (trodAll_cons_mk (Below.trod laidOut (by kernel_rfl) (of_decide_eq_true (by kernel_rfl)) k0 bel lt0) (trodAll_cons_mk (shut_bool Try.underlying4 _) trodAll_mk0)), rfl, bel.frame _, fun h => by cases h⟩

theorem over : Rows.fnExactBestLootRow.holds Try.pinned (OpenSpec.ofChange Rows.fnExactBestLootSpec) :=
  OpenClaim.holds_of_wide 7 Try.f7 rfl rfl rfl rfl rfl rfl rfl ⟨rfl, rfl, rfl, rfl, rfl⟩ rfl rfl rfl rfl rfl (by kernel_rfl) Try.func7 (show joinedFacts Try.prog 7 Try.f7 Rows.fnExactBestLootSpec Rows.fnExactBestLootRow = true by unfold joinedFacts; rw [Try.frMake, Try.frEnter, Try.frLifts]; kernel_rfl)
    (of_decide_eq_true (by kernel_rfl)) (by unfold Func.isWrapper; first | (rw [if_pos (by decide +kernel)]; kernel_rfl) | (rw [if_neg (by decide +kernel)]; exact ⟨rfl, rfl⟩))
    (fun os started H enc _ => lifted os started H enc)

/-- The statement. -/
theorem proved : Rows.FnExactBestLootSaid :=
  over
#print axioms proved
end Go.Proofs.Ytjhpebihflcanaa.fnExactBestLoot
