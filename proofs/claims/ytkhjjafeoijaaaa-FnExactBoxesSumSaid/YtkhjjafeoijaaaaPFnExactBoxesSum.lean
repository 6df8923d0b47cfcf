/-
  'FnExactBoxesSum' answers true at every argument and leaves its arguments as they were: the function of the program and its model give the same results.
-/
import Derived.Test.YtkhjjafeoijaaaaRows
import Derived.WalkKit
import Derived.ProofKit
import Derived.OpenShut
import Derived.Lib.SmallJoins
import Derived.Carry
import Derived.Test.YtkhjjafeoijaaaaArgs
import Derived.Test.YtkhjjafeoijaaaaInts2
import Derived.Test.YtkhjjafeoijaaaaMdJ
namespace Go.Proofs.Ytkhjjafeoijaaaa.fnExactBoxesSum
open Go.ChangeShapes Go.WideShapes Go.ChangeAt Go.RowKit Go.Joins
open Go.WideMaps Go.WideElems
open Go.ChangeMaps (setBlock shut_map_nil open_string shut_string keptBut_setBlock frozen?_setBlock heap_setBlock_same)
set_option linter.unusedVariables false
set_option linter.unusedSimpArgs false

theorem own : ownKnob Try.prog.godebug = none := by kernel_rfl
theorem laidOut : laidOutB Try.prog = true := by kernel_rfl

set_option maxRecDepth 100000 in
set_option maxHeartbeats 1000000 in
theorem walk (a0 : Option Addr) (len0 cap0 : Nat) (z0 : List Int) (a1 : Option Addr) (len1 cap1 : Nat) (z1 : List Int) (w : World) (w0 : ArgI w a0 len0 cap0 z0) (w1 : ArgI w a1 len1 cap1 z1) :
    Calls Try.prog 3 #[.slice a0 len0 cap0, .slice a1 len1 cap1] w fun e w' => e = .returned (.bool true) ∧ Below w.heap.size w w' := by
  by_cases hl0 : len0 ≤ 1048576
  case neg =>
    have hz0 : (1048576 : Int) < (len0 : Int) := by omega
    clear w0 w1
    go_enter Try.func3, Try.ntmps3
    go_wp2
    go_ret
    exact ⟨rfl, Gr.below (by repeat (first | exact Gr.refl _ | refine Gr.alloc ?_ _ | refine Gr.trans ?_ (by assumption) | refine Gr.drew ?_ | refine Gr.drewN ?_ _ | refine Gr.grow ?_ _ | refine Gr.setCell ?_ (by (try simp); (try omega)) _))⟩
  by_cases hl1 : len1 ≤ 1048576
  case neg =>
    have hz1 : (1048576 : Int) < (len1 : Int) := by omega
    have hz0 : ¬ (1048576 : Int) < (len0 : Int) := by omega
    clear w0 w1
    go_enter Try.func3, Try.ntmps3
    go_wp2
    go_ret
    exact ⟨rfl, Gr.below (by repeat (first | exact Gr.refl _ | refine Gr.alloc ?_ _ | refine Gr.trans ?_ (by assumption) | refine Gr.drew ?_ | refine Gr.drewN ?_ _ | refine Gr.grow ?_ _ | refine Gr.setCell ?_ (by (try simp); (try omega)) _))⟩
  have hz0 : ¬ (1048576 : Int) < (len0 : Int) := by omega
  have hz1 : ¬ (1048576 : Int) < (len1 : Int) := by omega
  have zl0 : (z0).length ≤ 1048576 := by have := w0.1; omega
  have zl1 : (z1).length ≤ 1048576 := by have := w1.1; omega
  obtain ⟨b, hb⟩ := exb (BoxesP z0 z1)
  have HS := Lib.hid (fun (w : World) B0 v0 h0 B1 v1 h1 => Try.sBoxesSum w B0 B1 v0 v1 z0 z1  b hb zl0 zl1 h0 h1)
  have HI := Lib.hid (fun (w : World) B0 v0 h0 B1 v1 h1 => Try.iBoxesSum w B0 B1 v0 v1 z0 z1  b hb zl0 zl1 h0 h1)
  generalize (if b = true then boxSum z0 z1 else 0) = r0 at *
  have WA0 := Lib.hid w0
  have WA1 := Lib.hid w1
  have HL0 := Lib.hid hl0
  have HL1 := Lib.hid hl1
  have wl0 : len0 ≤ maxLen := Nat.le_trans (WA0.out.2.1) (WA0.out.2.2.1)
  have wl1 : len1 ≤ maxLen := Nat.le_trans (WA1.out.2.1) (WA1.out.2.2.1)
  clear w0 hl0 w1 hl1
  go_enter Try.func3, Try.ntmps3
  go_wp2_with fail
  refine (Try.toIntS _ _ _ _ _ HL0.out WA0.out).mono ?_
  rintro e wv1 ⟨v1, rfl, c1, d1⟩
  have b1 := d1
  have s1 := b1.size
  have B1 := b1
  clear b1
  have F1 := c1
  go_wp2_with fail
  refine (Try.toIntS _ _ _ _ _ HL1.out (WA1.out.below B1)).mono ?_
  rintro e wv2 ⟨v2, rfl, c2, d2⟩
  have b2 := d2
  have s2 := b2.size
  have o2_1 := c1.below b2 (Nat.le_refl _)
  have B2 := B1.trans (b2.mono B1.size)
  clear c1 B1 b2
  have F2 := c2
  go_wp2_with fail
  refine (HS.out _ _ _ o2_1 _ _ c2).mono ?_
  rintro e wv3 ⟨rfl, d3⟩
  have b3 := d3.below
  have s3 := b3.size
  have o3_1 := o2_1.below b3 (Nat.le_refl _)
  have o3_2 := c2.below b3 (Nat.le_refl _)
  have B3 := B2.trans (b3.mono B2.size)
  clear o2_1 c2 B2 b3
  go_wp2_with fail
  refine (Try.toIntS _ _ _ _ _ HL0.out (WA0.out.below B3)).mono ?_
  rintro e wv4 ⟨v4, rfl, c4, d4⟩
  have b4 := d4
  have s4 := b4.size
  have o4_1 := o3_1.below b4 (Nat.le_refl _)
  have o4_2 := o3_2.below b4 (Nat.le_refl _)
  have B4 := B3.trans (b4.mono B3.size)
  clear o3_1 o3_2 B3 b4
  have F3 := c4
  go_wp2_with fail
  refine (Try.toIntS _ _ _ _ _ HL1.out (WA1.out.below B4)).mono ?_
  rintro e wv5 ⟨v5, rfl, c5, d5⟩
  have b5 := d5
  have s5 := b5.size
  have o5_1 := o4_1.below b5 (Nat.le_refl _)
  have o5_2 := o4_2.below b5 (Nat.le_refl _)
  have o5_3 := c4.below b5 (Nat.le_refl _)
  have B5 := B4.trans (b5.mono B4.size)
  clear o4_1 o4_2 c4 B4 b5
  have F4 := c5
  go_wp2_with fail
  refine (HI.out _ _ _ o5_3 _ _ c5).mono ?_
  rintro e wv6 ⟨rfl, d6⟩
  have b6 := d6.below
  have s6 := b6.size
  have o6_1 := o5_1.below b6 (Nat.le_refl _)
  have o6_2 := o5_2.below b6 (Nat.le_refl _)
  have o6_3 := o5_3.below b6 (Nat.le_refl _)
  have o6_4 := c5.below b6 (Nat.le_refl _)
  have B6 := B5.trans (b6.mono B5.size)
  clear o5_1 o5_2 o5_3 c5 B5 b6
  go_wp2_with fail
  refine (Try.toIntS _ _ _ _ _ HL0.out (WA0.out.below B6)).mono ?_
  rintro e wv7 ⟨v7, rfl, c7, d7⟩
  have b7 := d7
  have s7 := b7.size
  have o7_1 := o6_1.below b7 (Nat.le_refl _)
  have o7_2 := o6_2.below b7 (Nat.le_refl _)
  have o7_3 := o6_3.below b7 (Nat.le_refl _)
  have o7_4 := o6_4.below b7 (Nat.le_refl _)
  have B7 := B6.trans (b7.mono B6.size)
  clear o6_1 o6_2 o6_3 o6_4 B6 b7
  go_wp2_with fail
  refine (Try.eqIntS _ _ _ _ _ _ o7_3 c7).mono ?_
  rintro e wv8 ⟨rfl, d8⟩
  have b8 := d8.below
  have s8 := b8.size
  have o8_1 := o7_1.below b8 (Nat.le_refl _)
  have o8_2 := o7_2.below b8 (Nat.le_refl _)
  have o8_3 := o7_3.below b8 (Nat.le_refl _)
  have o8_4 := o7_4.below b8 (Nat.le_refl _)
  have o8_5 := c7.below b8 (Nat.le_refl _)
  have B8 := B7.trans (b8.mono B7.size)
  clear o7_1 o7_2 o7_3 o7_4 c7 B7 b8
  go_wp2_with fail
  refine (Try.toIntS _ _ _ _ _ HL1.out (WA1.out.below B8)).mono ?_
  rintro e wv9 ⟨v9, rfl, c9, d9⟩
  have b9 := d9
  have s9 := b9.size
  have o9_1 := o8_1.below b9 (Nat.le_refl _)
  have o9_2 := o8_2.below b9 (Nat.le_refl _)
  have o9_3 := o8_3.below b9 (Nat.le_refl _)
  have o9_4 := o8_4.below b9 (Nat.le_refl _)
  have B9 := B8.trans (b9.mono B8.size)
  clear o8_1 o8_2 o8_3 o8_4 B8 b9
  go_wp2_with fail
  refine (Try.eqIntS _ _ _ _ _ _ o9_4 c9).mono ?_
  rintro e wv10 ⟨rfl, d10⟩
  have b10 := d10.below
  have s10 := b10.size
  have o10_1 := o9_1.below b10 (Nat.le_refl _)
  have o10_2 := o9_2.below b10 (Nat.le_refl _)
  have o10_3 := o9_3.below b10 (Nat.le_refl _)
  have o10_4 := o9_4.below b10 (Nat.le_refl _)
  have o10_6 := c9.below b10 (Nat.le_refl _)
  have B10 := B9.trans (b10.mono B9.size)
  clear o9_1 o9_2 o9_3 o9_4 c9 B9 b10
  go_wp2_with fail
  go_ret
  exact ⟨rfl, B10⟩

set_option maxRecDepth 100000 in
theorem lifted (os : Os) (started : os.Started) (H : Type) (enc : TypeId × Value → H) :
    ReturnsInHanded {} Try.checked os 3 .any (Rows.fnExactBoxesSumSpec.pre6 enc Try.prog Try.f3 Rows.fnExactBoxesSumRow.domain false) (Rows.fnExactBoxesSumSpec.post enc Try.prog Try.f3 false true false false) := by
  refine returnsInHanded_of_change (C := Try.checked) own started (by kernel_rfl) Try.func3
    (ChangeSpec.witness6 (enc := enc) (C := Try.checked) false ⟨#[], #[.slice none 0 0, .slice none 0 0], []⟩ 8 (by kernel_rfl) (by kernel_rfl) (by kernel_rfl) (by kernel_rfl)) ?_
  intro W base args ds gs before hval0 hW hcnd _
  have hval : ∀ (j : Nat) t v, Try.f3.params[j]? = some t → args[j]? = some v → Value.okWide Try.prog W .any base t v := hval0
  have hW' := hW
  obtain ⟨p, q, hA0, hV, rfl, hfz, hnd⟩ := hW
  have hA : DataW.TrodAll enc Try.prog W 0 (fun _ => true) true Try.f3.params.toList args.toList ds p := hA0
  rw [Try.params3] at hA hval
  obtain ⟨v0, vs0, d0, ds0, p0, q0, hargs, rfl, rfl, h0, r0⟩ := trodAll_cons hA
  obtain ⟨v1, vs1, d1, ds1, p1, q1, rfl, rfl, rfl, h1, r1⟩ := trodAll_cons r0
  obtain ⟨rfl, rfl, rfl⟩ := trodAll_nil r1
  obtain rfl : args = #[v0, v1] := by cases args; simp_all
  obtain ⟨rfl, rfl⟩ := trodVars_none hV
  obtain ⟨a0, len0, cap0, rfl⟩ := okWide_slice Try.underlying22 (hval 0 22 v0 rfl rfl)
  have k0 := h0
  have lt0 : ∀ x ∈ p0, x.block < W.heap.size := by obtain ⟨m, hm⟩ := k0; exact DataW.trod_lt m _ _ _ hm
  obtain ⟨z0, w0⟩ : ∃ zs, ArgI W a0 len0 cap0 zs := by
    obtain ⟨fuel, hf⟩ := h0
    rcases open_ints Try.underlying22 Try.underlying3 (by kernel_rfl) hf with ⟨hcs, _⟩ | ⟨x, l, c, zs, hcs, _, hl, hm, hz, _, hcell, hwz⟩
    · simp [Value.cells] at hcs
      obtain ⟨rfl, rfl, rfl⟩ := hcs
      exact ⟨[], rfl, Nat.le_refl _, Nat.zero_le _, fun n hn => by simp at hn, .inl rfl⟩
    · simp [Value.cells] at hcs
      obtain ⟨rfl, rfl, rfl⟩ := hcs
      exact ArgI.of_open hl hm (by simpa using hz) hcell hwz
  obtain ⟨a1, len1, cap1, rfl⟩ := okWide_slice Try.underlying22 (hval 1 22 v1 rfl rfl)
  have k1 := h1
  have lt1 : ∀ x ∈ p1, x.block < W.heap.size := by obtain ⟨m, hm⟩ := k1; exact DataW.trod_lt m _ _ _ hm
  obtain ⟨z1, w1⟩ : ∃ zs, ArgI W a1 len1 cap1 zs := by
    obtain ⟨fuel, hf⟩ := h1
    rcases open_ints Try.underlying22 Try.underlying3 (by kernel_rfl) hf with ⟨hcs, _⟩ | ⟨x, l, c, zs, hcs, _, hl, hm, hz, _, hcell, hwz⟩
    · simp [Value.cells] at hcs
      obtain ⟨rfl, rfl, rfl⟩ := hcs
      exact ⟨[], rfl, Nat.le_refl _, Nat.zero_le _, fun n hn => by simp at hn, .inl rfl⟩
    · simp [Value.cells] at hcs
      obtain ⟨rfl, rfl, rfl⟩ := hcs
      exact ArgI.of_open hl hm (by simpa using hz) hcell hwz
  clear hA0 hval0
  simp only [List.append_nil] at hW'
  refine (walk a0 len0 cap0 z0 a1 len1 cap1 z1 W w0 w1).mono fun e W' ⟨he, bel⟩ => ?_
  subst he
  exact ⟨_, rfl, _, _, _, [], _, [], hW', trodAll_mk1 (shut_bool Try.underlying4 _), (trodAll_cons_mk (Below.trod laidOut (by kernel_rfl) (of_decide_eq_true (by kernel_rfl)) k0 bel lt0) (trodAll_cons_mk (Below.trod laidOut (by kernel_rfl) (of_decide_eq_true (by kernel_rfl)) k1 bel lt1) trodAll_mk0)), rfl, bel.frame _, fun h => by cases h⟩

theorem over : Rows.fnExactBoxesSumRow.holds Try.pinned (OpenSpec.ofChange Rows.fnExactBoxesSumSpec) :=
  OpenClaim.holds_of_wide 3 Try.f3 rfl rfl rfl rfl rfl rfl rfl ⟨rfl, rfl, rfl, rfl, rfl⟩ rfl rfl rfl rfl rfl (by kernel_rfl) Try.func3 (by kernel_rfl)
    (of_decide_eq_true (by kernel_rfl)) (by unfold Func.isWrapper; first | (rw [if_pos (by decide +kernel)]; kernel_rfl) | (rw [if_neg (by decide +kernel)]; exact ⟨rfl, rfl⟩))
    (fun os started H enc _ => lifted os started H enc)

/-- The statement. -/
theorem proved : Rows.FnExactBoxesSumSaid :=
  over
#print axioms proved
end Go.Proofs.Ytkhjjafeoijaaaa.fnExactBoxesSum
