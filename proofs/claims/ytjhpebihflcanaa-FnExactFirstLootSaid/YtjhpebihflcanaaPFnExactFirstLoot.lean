/-
  'FnExactFirstLoot' answers true at every argument and leaves its arguments as they were: the function of the program and its model give the same results.
-/
import Derived.Test.YtjhpebihflcanaaRows
import Derived.WalkKit
import Derived.ProofKit
import Derived.OpenShut
import Derived.Lib.SmallJoins
import Derived.Carry
import Derived.Test.YtjhpebihflcanaaFr
import Derived.Test.YtjhpebihflcanaaArgs
import Derived.Test.YtjhpebihflcanaaInts2
import Derived.Test.YtjhpebihflcanaaRsS
namespace Go.Proofs.Ytjhpebihflcanaa.fnExactFirstLoot
open Go.ChangeShapes Go.WideShapes Go.ChangeAt Go.RowKit Go.Joins
open Go.WideMaps Go.WideElems
open Go.ChangeMaps (setBlock shut_map_nil open_string shut_string keptBut_setBlock frozen?_setBlock heap_setBlock_same)
set_option linter.unusedVariables false
set_option linter.unusedSimpArgs false

theorem own : ownKnob Try.prog.godebug = none := by kernel_rfl
theorem laidOut : laidOutB Try.prog = true := by kernel_rfl

set_option maxRecDepth 100000 in
set_option maxHeartbeats 1000000 in
theorem walk (a0 : Option Addr) (len0 cap0 : Nat) (z0 : List Int) (a1 : Bool) (w : World) (w0 : ArgI w a0 len0 cap0 z0) :
    Calls Try.prog 8 #[.slice a0 len0 cap0, .bool a1] w fun e w' => e = .returned (.bool true) ∧ Below w.heap.size w w' := by
  by_cases hl0 : len0 ≤ 1048576
  case neg =>
    have hz0 : (1048576 : Int) < (len0 : Int) := by omega
    clear w0
    go_enter Try.func8, Try.ntmps8
    go_wp2
    go_ret
    exact ⟨rfl, Gr.below (by repeat (first | exact Gr.refl _ | refine Gr.alloc ?_ _ | refine Gr.trans ?_ (by assumption) | refine Gr.drew ?_ | refine Gr.drewN ?_ _ | refine Gr.grow ?_ _ | refine Gr.setCell ?_ (by (try simp); (try omega)) _))⟩
  have hz0 : ¬ (1048576 : Int) < (len0 : Int) := by omega
  have zl0 : (z0).length ≤ 1048576 := by have := w0.1; omega
  obtain ⟨b, hb⟩ := exbR (UpP z0 20 1000)
  have HS := Lib.hid (fun (w : World) B0 v0 h0 => Try.sFirstLoot w B0 v0 z0 a1 b hb zl0 h0)
  have HI := Lib.hid (fun (w : World) B0 v0 h0 => Try.iFirstLoot w B0 v0 z0 a1 b hb zl0 h0)
  have hlen0 : (flV z0 a1 b).length ≤ 1000000000 := flV_len hb
  generalize flV z0 a1 b = xs at *
  have WA0 := Lib.hid w0
  have HL0 := Lib.hid hl0
  have wl0 : len0 ≤ maxLen := Nat.le_trans (WA0.out.2.1) (WA0.out.2.2.1)
  clear w0 hl0
  go_enter Try.func8, Try.ntmps8
  go_wp2_with fail
  refine (Try.toIntS _ _ _ _ _ HL0.out WA0.out).mono ?_
  rintro e wv1 ⟨v1, rfl, c1, d1⟩
  have b1 := d1
  have s1 := b1.size
  have B1 := b1
  have F1 := c1
  go_wp2_with fail
  refine (HS.out _ _ _ c1).mono ?_
  rintro e wv2 ⟨v2_0, rfl, c2_0, d2⟩
  have b2 := d2
  have s2 := b2.size
  have o2_1 := c1.below b2 (Nat.le_refl _)
  have B2 := B1.trans (b2.mono B1.size)
  have F2 := c2_0
  go_wp2_with fail
  refine (Try.toIntS _ _ _ _ _ HL0.out (WA0.out.below B2)).mono ?_
  rintro e wv3 ⟨v3, rfl, c3, d3⟩
  have b3 := d3
  have s3 := b3.size
  have o3_1 := o2_1.below b3 (Nat.le_refl _)
  have o3_2 := c2_0.below b3 (Nat.le_refl _)
  have B3 := B2.trans (b3.mono B2.size)
  have F3 := c3
  go_wp2_with fail
  refine (HI.out _ _ _ c3).mono ?_
  rintro e wv4 ⟨v4_0, rfl, c4_0, d4⟩
  have b4 := d4
  have s4 := b4.size
  have o4_1 := o3_1.below b4 (Nat.le_refl _)
  have o4_2 := o3_2.below b4 (Nat.le_refl _)
  have o4_3 := c3.below b4 (Nat.le_refl _)
  have B4 := B3.trans (b4.mono B3.size)
  have F4 := c4_0
  go_wp2_with fail
  refine (Try.eqIntS _ _ _ _ _ _ c4_0 o4_2).mono ?_
  rintro e wv5 ⟨rfl, d5⟩
  have b5 := d5.below
  have s5 := b5.size
  have o5_1 := o4_1.below b5 (Nat.le_refl _)
  have o5_2 := o4_2.below b5 (Nat.le_refl _)
  have o5_3 := o4_3.below b5 (Nat.le_refl _)
  have o5_4 := c4_0.below b5 (Nat.le_refl _)
  have B5 := B4.trans (b5.mono B4.size)
  go_wp2_with fail
  refine (Try.toIntS _ _ _ _ _ HL0.out (WA0.out.below B5)).mono ?_
  rintro e wv6 ⟨v6, rfl, c6, d6⟩
  have b6 := d6
  have s6 := b6.size
  have o6_1 := o5_1.below b6 (Nat.le_refl _)
  have o6_2 := o5_2.below b6 (Nat.le_refl _)
  have o6_3 := o5_3.below b6 (Nat.le_refl _)
  have o6_4 := o5_4.below b6 (Nat.le_refl _)
  have B6 := B5.trans (b6.mono B5.size)
  go_wp2_with fail
  refine (Try.eqIntS _ _ _ _ _ _ o6_3 c6).mono ?_
  rintro e wv7 ⟨rfl, d7⟩
  have b7 := d7.below
  have s7 := b7.size
  have o7_1 := o6_1.below b7 (Nat.le_refl _)
  have o7_2 := o6_2.below b7 (Nat.le_refl _)
  have o7_3 := o6_3.below b7 (Nat.le_refl _)
  have o7_4 := o6_4.below b7 (Nat.le_refl _)
  have o7_5 := c6.below b7 (Nat.le_refl _)
  have B7 := B6.trans (b7.mono B6.size)
  go_wp2_with fail
  refine (Try.markIntM _ _ _ _ (1) (by omega) (by omega) (Nat.le_trans (by have := WA0.out.1; have := HL0.out; omega) (show 1048576 ≤ 1000000000 by decide)) o7_3).mono ?_
  rintro e wv8 ⟨rfl, c8, d8⟩
  have s8 := d8.size
  have o8_1 := o7_1.grown d8 (own_ne' F1 F3 (by omega))
  have o8_2 := o7_2.grown d8 (own_ne' F2 F3 (by omega))
  have o8_4 := o7_4.grown d8 (own_ne F4 F3 (by omega))
  have b8 := Below.grown (Below.refl w.heap.size _) d8 (by omega) (fun j hj => by have := (World.ownsRow.lt F3 j hj).1; omega)
  have B8 := B7.trans b8
  have lz0 : ((z0).length : Int) ≤ 1048576 := by have := WA0.out.1; have := HL0.out; omega
  go_wp2_with fail
  refine (Try.eqIntS _ _ _ _ _ _ o8_4 o8_2).mono ?_
  rintro e wv9 ⟨rfl, d9⟩
  have b9 := d9.below
  have s9 := b9.size
  have o9_1 := o8_1.below b9 (Nat.le_refl _)
  have o9_2 := o8_2.below b9 (Nat.le_refl _)
  have o9_3 := c8.below b9 (Nat.le_refl _)
  have o9_4 := o8_4.below b9 (Nat.le_refl _)
  have B9 := B8.trans (b9.mono B8.size)
  go_wp2_with fail
  refine (Try.markIntM _ _ _ _ (1) (by omega) (by omega) hlen0 o9_4).mono ?_
  rintro e wv10 ⟨rfl, c10, d10⟩
  have s10 := d10.size
  have o10_1 := o9_1.grown d10 (own_ne' F1 F4 (by omega))
  have o10_2 := o9_2.grown d10 (own_ne' F2 F4 (by omega))
  have o10_3 := o9_3.grown d10 (own_ne' F3 F4 (by omega))
  have b10 := Below.grown (Below.refl w.heap.size _) d10 (by omega) (fun j hj => by have := (World.ownsRow.lt F4 j hj).1; omega)
  have B10 := B9.trans b10
  go_wp2_with fail
  refine (Try.heldIntM _ _ _ _ (1) (by omega) (by omega) hlen0 c10).mono ?_
  rintro e wv11 ⟨rfl, rfl⟩
  go_wp2_with fail
  refine (Try.toIntS _ _ _ _ _ HL0.out (WA0.out.below B10)).mono ?_
  rintro e wv12 ⟨v12, rfl, c12, d12⟩
  have b12 := d12
  have s12 := b12.size
  have o12_1 := o10_1.below b12 (Nat.le_refl _)
  have o12_2 := o10_2.below b12 (Nat.le_refl _)
  have o12_3 := o10_3.below b12 (Nat.le_refl _)
  have o12_4 := c10.below b12 (Nat.le_refl _)
  have B12 := B10.trans (b12.mono B10.size)
  have F6 := c12
  go_wp2_with fail
  refine (HI.out _ _ _ c12).mono ?_
  rintro e wv13 ⟨v13_0, rfl, c13_0, d13⟩
  have b13 := d13
  have s13 := b13.size
  have o13_1 := o12_1.below b13 (Nat.le_refl _)
  have o13_2 := o12_2.below b13 (Nat.le_refl _)
  have o13_3 := o12_3.below b13 (Nat.le_refl _)
  have o13_4 := o12_4.below b13 (Nat.le_refl _)
  have o13_6 := c12.below b13 (Nat.le_refl _)
  have B13 := B12.trans (b13.mono B12.size)
  go_wp2_with fail
  refine (Try.eqIntS _ _ _ _ _ _ c13_0 o13_2).mono ?_
  rintro e wv14 ⟨rfl, d14⟩
  have b14 := d14.below
  have s14 := b14.size
  have o14_1 := o13_1.below b14 (Nat.le_refl _)
  have o14_2 := o13_2.below b14 (Nat.le_refl _)
  have o14_3 := o13_3.below b14 (Nat.le_refl _)
  have o14_4 := o13_4.below b14 (Nat.le_refl _)
  have o14_6 := o13_6.below b14 (Nat.le_refl _)
  have o14_7 := c13_0.below b14 (Nat.le_refl _)
  have B14 := B13.trans (b14.mono B13.size)
  go_wp2_with fail
  refine (Try.heldIntM _ _ _ _ (1) (by omega) (by omega) hlen0 o14_4).mono ?_
  rintro e wv15 ⟨rfl, rfl⟩
  go_wp2_with fail
  go_ret
  exact ⟨rfl, B14⟩

set_option maxRecDepth 100000 in
theorem lifted (os : Os) (started : os.Started) (H : Type) (enc : TypeId × Value → H) :
    ReturnsInHanded {} Try.checked os 8 .any (Rows.fnExactFirstLootSpec.pre6 enc Try.prog Try.f8 Rows.fnExactFirstLootRow.domain false) (Rows.fnExactFirstLootSpec.post enc Try.prog Try.f8 false true false false) := by
  refine returnsInHanded_of_change (C := Try.checked) own started (by kernel_rfl) Try.func8
    (ChangeSpec.witness6 (enc := enc) (C := Try.checked) false ⟨#[], #[.slice none 0 0, .bool false], []⟩ 8 (by kernel_rfl) (by kernel_rfl) (by kernel_rfl) (by kernel_rfl)) ?_
  intro W base args ds gs before hval0 hW hcnd _
  have hval : ∀ (j : Nat) t v, Try.f8.params[j]? = some t → args[j]? = some v → Value.okWide Try.prog W .any base t v := hval0
  have hW' := hW
  obtain ⟨p, q, hA0, hV, rfl, hfz, hnd⟩ := hW
  have hA : DataW.TrodAll enc Try.prog W 0 (fun _ => true) true Try.f8.params.toList args.toList ds p := hA0
  rw [Try.params8] at hA hval
  obtain ⟨v0, vs0, d0, ds0, p0, q0, hargs, rfl, rfl, h0, r0⟩ := trodAll_cons hA
  obtain ⟨v1, vs1, d1, ds1, p1, q1, rfl, rfl, rfl, h1, r1⟩ := trodAll_cons r0
  obtain ⟨rfl, rfl, rfl⟩ := trodAll_nil r1
  obtain rfl : args = #[v0, v1] := by cases args; simp_all
  obtain ⟨rfl, rfl⟩ := trodVars_none hV
  obtain ⟨a0, len0, cap0, rfl⟩ := okWide_slice Try.underlying29 (hval 0 29 v0 rfl rfl)
  have k0 := h0
  have lt0 : ∀ x ∈ p0, x.block < W.heap.size := by obtain ⟨m, hm⟩ := k0; exact DataW.trod_lt m _ _ _ hm
  obtain ⟨z0, w0⟩ : ∃ zs, ArgI W a0 len0 cap0 zs := by
    obtain ⟨fuel, hf⟩ := h0
    rcases open_ints Try.underlying29 Try.underlying3 (by kernel_rfl) hf with ⟨hcs, _⟩ | ⟨x, l, c, zs, hcs, _, hl, hm, hz, _, hcell, hwz⟩
    · simp [Value.cells] at hcs
      obtain ⟨rfl, rfl, rfl⟩ := hcs
      exact ⟨[], rfl, Nat.le_refl _, Nat.zero_le _, fun n hn => by simp at hn, .inl rfl⟩
    · simp [Value.cells] at hcs
      obtain ⟨rfl, rfl, rfl⟩ := hcs
      exact ArgI.of_open hl hm (by simpa using hz) hcell hwz
  obtain ⟨a1, rfl, rfl, rfl⟩ := open_bool Try.underlying4 (hval 1 4 v1 rfl rfl) h1
  clear hA0 hval0
  simp only [List.append_nil] at hW'
  refine (walk a0 len0 cap0 z0 a1 W w0).mono fun e W' ⟨he, bel⟩ => ?_
  subst he
  exact ⟨_, rfl, _, _, _, [], _, [], hW', trodAll_mk1 (shut_bool Try.underlying4 _), (trodAll_cons_mk (Below.trod laidOut (by kernel_rfl) (of_decide_eq_true (by kernel_rfl)) k0 bel lt0) (trodAll_cons_mk (shut_bool Try.underlying4 _) trodAll_mk0)), rfl, bel.frame _, fun h => by cases h⟩

theorem over : Rows.fnExactFirstLootRow.holds Try.pinned (OpenSpec.ofChange Rows.fnExactFirstLootSpec) :=
  OpenClaim.holds_of_wide 8 Try.f8 rfl rfl rfl rfl rfl rfl rfl ⟨rfl, rfl, rfl, rfl, rfl⟩ rfl rfl rfl rfl rfl (by kernel_rfl) Try.func8 (show joinedFacts Try.prog 8 Try.f8 Rows.fnExactFirstLootSpec Rows.fnExactFirstLootRow = true by unfold joinedFacts; rw [Try.frMake, Try.frEnter, Try.frLifts]; kernel_rfl)
    (of_decide_eq_true (by kernel_rfl)) (by unfold Func.isWrapper; first | (rw [if_pos (by decide +kernel)]; kernel_rfl) | (rw [if_neg (by decide +kernel)]; exact ⟨rfl, rfl⟩))
    (fun os started H enc _ => lifted os started H enc)

/-- The statement. -/
theorem proved : Rows.FnExactFirstLootSaid :=
  over
#print axioms proved
end Go.Proofs.Ytjhpebihflcanaa.fnExactFirstLoot
