/-
  'FnExactLengthWithoutBack' answers true at every argument and leaves its arguments as they were: the function of the program and its model give the same results.
-/
import Derived.Test.YtjocipddffillaaRows
import Derived.WalkKit
import Derived.ProofKit
import Derived.OpenShut
import Derived.Lib.SmallJoins
import Derived.Carry
import Derived.Test.YtjocipddffillaaArgs
import Derived.Test.YtjocipddffillaaInts2
import Derived.Test.YtjocipddffillaaBgK
namespace Go.Proofs.Ytjocipddffillaa.fnExactLengthWithoutBack
open Go.ChangeShapes Go.WideShapes Go.ChangeAt Go.RowKit Go.Joins
open Go.WideMaps Go.WideElems
open Go.ChangeMaps (setBlock shut_map_nil open_string shut_string keptBut_setBlock frozen?_setBlock heap_setBlock_same)
set_option linter.unusedVariables false
set_option linter.unusedSimpArgs false

theorem own : ownKnob Try.prog.godebug = none := by kernel_rfl
theorem laidOut : laidOutB Try.prog = true := by kernel_rfl

set_option maxRecDepth 100000 in
set_option maxHeartbeats 1000000 in
theorem walk (a0 : Option Addr) (len0 cap0 : Nat) (z0 : List Pi2) (a1 : Int) (w1 : (Lit.int .i64 a1).wf = true) (a2 : Option Addr) (len2 cap2 : Nat) (z2 : List Int) (w : World) (w0 : ArgP w a0 len0 cap0 z0) (w2 : ArgI w a2 len2 cap2 z2) :
    Calls Try.prog 7 #[.slice a0 len0 cap0, .int .i64 a1, .slice a2 len2 cap2] w fun e w' => e = .returned (.bool true) ∧ Below w.heap.size w w' := by
  by_cases hl2 : len2 ≤ 1048576
  case neg =>
    have hz2 : (1048576 : Int) < (len2 : Int) := by omega
    clear w0 w2
    go_enter Try.func7, Try.ntmps7
    go_wp2
    go_ret
    exact ⟨rfl, Gr.below (by repeat (first | exact Gr.refl _ | refine Gr.alloc ?_ _ | refine Gr.trans ?_ (by assumption) | refine Gr.drew ?_ | refine Gr.drewN ?_ _ | refine Gr.grow ?_ _ | refine Gr.setCell ?_ (by (try simp); (try omega)) _))⟩
  have hz2 : ¬ (1048576 : Int) < (len2 : Int) := by omega
  by_cases hsum : len0 ≤ 1048576
  case neg =>
    have wl : len0 ≤ maxLen := Nat.le_trans w0.2.1 w0.2.2.1
    have SZ := Lib.hid (fun (w : World) => Try.szParcelS w a0 len0 cap0 1048576 (by omega) (by omega) wl)
    rw [if_pos (by omega)] at SZ
    clear w0 w2
    go_enter Try.func7, Try.ntmps7
    go_wp2_with (first | (go_at_call 15; refine (SZ.out _).mono ?_; rintro e w1 ⟨rfl, rfl⟩))
    go_ret
    exact ⟨rfl, Gr.below (by repeat (first | exact Gr.refl _ | refine Gr.alloc ?_ _ | refine Gr.trans ?_ (by assumption) | refine Gr.drew ?_ | refine Gr.drewN ?_ _ | refine Gr.grow ?_ _ | refine Gr.setCell ?_ (by (try simp); (try omega)) _))⟩
  have hl0 : len0 ≤ 1048576 := hsum
  have zl0 : (z0).length ≤ 1048576 := by have := w0.1; omega
  have zl2 : (z2).length ≤ 1048576 := by have := w2.1; omega
  obtain ⟨a, ha⟩ := exbG (AskB z0 a1)
  obtain ⟨p, hp⟩ := exbG (PlanB z0 a1 z2)
  have HS := Lib.hid (fun (w : World) B v h B2 v2 h2 => Try.sLengthWithoutBack w B B2 v v2 z0 z2 a1 a p ha hp zl2 zl0 h h2)
  have HI := Lib.hid (fun (w : World) B v h B2 v2 h2 => Try.iLengthWithoutBack w B B2 v v2 z0 z2 a1 a p ha hp zl2 zl0 h h2)
  generalize (if (a && p) = true then backB z0 z2 else 0) = r0 at *
  generalize (a && p) = r1 at *
  have WA0 := Lib.hid w0
  have WA2 := Lib.hid w2
  have HL0 := Lib.hid hl0
  have HL2 := Lib.hid hl2
  have wl0 : len0 ≤ maxLen := Nat.le_trans (WA0.out.2.1) (WA0.out.2.2.1)
  have wl2 : len2 ≤ maxLen := Nat.le_trans (WA2.out.2.1) (WA2.out.2.2.1)
  clear w0 hl0 w2 hl2
  have SZ0 := Lib.hid (fun (w : World) => (Try.szParcelS w a0 len0 cap0 (1048576) (by omega) (by omega) wl0))
  rw [if_neg (by have := HL0.out; have := hsum; omega)] at SZ0
  go_enter Try.func7, Try.ntmps7
  go_wp2_with (first | (go_at_call_of 15 (Value.slice a0 len0 cap0); refine (SZ0.out _).mono ?_; rintro e w1 ⟨rfl, rfl⟩))
  refine (Try.toParcelS _ _ _ _ _ HL0.out WA0.out).mono ?_
  rintro e wv1 ⟨v1, rfl, c1, d1⟩
  have b1 := d1
  have s1 := b1.size
  have B1 := b1
  have F1 := c1
  go_wp2_with fail
  refine (Try.toIntS _ _ _ _ _ HL2.out (WA2.out.below B1)).mono ?_
  rintro e wv2 ⟨v2, rfl, c2, d2⟩
  have b2 := d2
  have s2 := b2.size
  have o2_1 := c1.below b2 (Nat.le_refl _)
  have B2 := B1.trans (b2.mono B1.size)
  have F2 := c2
  go_wp2_with fail
  refine (HS.out _ _ _ o2_1 _ _ c2).mono ?_
  rintro e wv3 ⟨rfl, d3⟩
  have b3 := d3
  have s3 := b3.size
  have o3_1 := o2_1.below b3 (Nat.le_refl _)
  have o3_2 := c2.below b3 (Nat.le_refl _)
  have B3 := B2.trans (b3.mono B2.size)
  go_wp2_with fail
  refine (Try.toParcelS _ _ _ _ _ HL0.out (WA0.out.below B3)).mono ?_
  rintro e wv4 ⟨v4, rfl, c4, d4⟩
  have b4 := d4
  have s4 := b4.size
  have o4_1 := o3_1.below b4 (Nat.le_refl _)
  have o4_2 := o3_2.below b4 (Nat.le_refl _)
  have B4 := B3.trans (b4.mono B3.size)
  have F3 := c4
  go_wp2_with fail
  refine (Try.toIntS _ _ _ _ _ HL2.out (WA2.out.below B4)).mono ?_
  rintro e wv5 ⟨v5, rfl, c5, d5⟩
  have b5 := d5
  have s5 := b5.size
  have o5_1 := o4_1.below b5 (Nat.le_refl _)
  have o5_2 := o4_2.below b5 (Nat.le_refl _)
  have o5_3 := c4.below b5 (Nat.le_refl _)
  have B5 := B4.trans (b5.mono B4.size)
  have F4 := c5
  go_wp2_with fail
  refine (HI.out _ _ _ o5_3 _ _ c5).mono ?_
  rintro e wv6 ⟨rfl, d6⟩
  have b6 := d6
  have s6 := b6.size
  have o6_1 := o5_1.below b6 (Nat.le_refl _)
  have o6_2 := o5_2.below b6 (Nat.le_refl _)
  have o6_3 := o5_3.below b6 (Nat.le_refl _)
  have o6_4 := c5.below b6 (Nat.le_refl _)
  have B6 := B5.trans (b6.mono B5.size)
  go_wp2_with fail
  refine (Try.toParcelS _ _ _ _ _ HL0.out (WA0.out.below B6)).mono ?_
  rintro e wv7 ⟨v7, rfl, c7, d7⟩
  have b7 := d7
  have s7 := b7.size
  have o7_1 := o6_1.below b7 (Nat.le_refl _)
  have o7_2 := o6_2.below b7 (Nat.le_refl _)
  have o7_3 := o6_3.below b7 (Nat.le_refl _)
  have o7_4 := o6_4.below b7 (Nat.le_refl _)
  have B7 := B6.trans (b7.mono B6.size)
  go_wp2_with fail
  refine (Try.eqParcelS _ _ _ _ _ _ o7_3 c7).mono ?_
  rintro e wv8 ⟨rfl, d8⟩
  have b8 := d8.below
  have s8 := b8.size
  have o8_1 := o7_1.below b8 (Nat.le_refl _)
  have o8_2 := o7_2.below b8 (Nat.le_refl _)
  have o8_3 := o7_3.below b8 (Nat.le_refl _)
  have o8_4 := o7_4.below b8 (Nat.le_refl _)
  have o8_5 := c7.below b8 (Nat.le_refl _)
  have B8 := B7.trans (b8.mono B7.size)
  go_wp2_with fail
  refine (Try.toIntS _ _ _ _ _ HL2.out (WA2.out.below B8)).mono ?_
  rintro e wv9 ⟨v9, rfl, c9, d9⟩
  have b9 := d9
  have s9 := b9.size
  have o9_1 := o8_1.below b9 (Nat.le_refl _)
  have o9_2 := o8_2.below b9 (Nat.le_refl _)
  have o9_3 := o8_3.below b9 (Nat.le_refl _)
  have o9_4 := o8_4.below b9 (Nat.le_refl _)
  have B9 := B8.trans (b9.mono B8.size)
  go_wp2_with fail
  refine (Try.eqIntS _ _ _ _ _ _ o9_4 c9).mono ?_
  rintro e wv10 ⟨rfl, d10⟩
  have b10 := d10.below
  have s10 := b10.size
  have o10_1 := o9_1.below b10 (Nat.le_refl _)
  have o10_2 := o9_2.below b10 (Nat.le_refl _)
  have o10_3 := o9_3.below b10 (Nat.le_refl _)
  have o10_4 := o9_4.below b10 (Nat.le_refl _)
  have o10_6 := c9.below b10 (Nat.le_refl _)
  have B10 := B9.trans (b10.mono B9.size)
  go_wp2_with fail
  go_ret
  exact ⟨rfl, B10⟩

set_option maxRecDepth 100000 in
theorem lifted (os : Os) (started : os.Started) (H : Type) (enc : TypeId × Value → H) :
    ReturnsInHanded {} Try.checked os 7 .any (Rows.fnExactLengthWithoutBackSpec.pre6 enc Try.prog Try.f7 Rows.fnExactLengthWithoutBackRow.domain false) (Rows.fnExactLengthWithoutBackSpec.post enc Try.prog Try.f7 false true false false) := by
  refine returnsInHanded_of_change (C := Try.checked) own started (by kernel_rfl) Try.func7
    (ChangeSpec.witness6 (enc := enc) (C := Try.checked) false ⟨#[], #[.slice none 0 0, .int .i64 0, .slice none 0 0], []⟩ 8 (by kernel_rfl) (by kernel_rfl) (by kernel_rfl) (by kernel_rfl)) ?_
  intro W base args ds gs before hval0 hW hcnd _
  have hval : ∀ (j : Nat) t v, Try.f7.params[j]? = some t → args[j]? = some v → Value.okWide Try.prog W .any base t v := hval0
  have hW' := hW
  obtain ⟨p, q, hA0, hV, rfl, hfz, hnd⟩ := hW
  have hA : DataW.TrodAll enc Try.prog W 0 (fun _ => true) true Try.f7.params.toList args.toList ds p := hA0
  rw [Try.params7] at hA hval
  obtain ⟨v0, vs0, d0, ds0, p0, q0, hargs, rfl, rfl, h0, r0⟩ := trodAll_cons hA
  obtain ⟨v1, vs1, d1, ds1, p1, q1, rfl, rfl, rfl, h1, r1⟩ := trodAll_cons r0
  obtain ⟨v2, vs2, d2, ds2, p2, q2, rfl, rfl, rfl, h2, r2⟩ := trodAll_cons r1
  obtain ⟨rfl, rfl, rfl⟩ := trodAll_nil r2
  obtain rfl : args = #[v0, v1, v2] := by cases args; simp_all
  obtain ⟨rfl, rfl⟩ := trodVars_none hV
  obtain ⟨a0, len0, cap0, rfl⟩ := okWide_slice Try.underlying22 (hval 0 22 v0 rfl rfl)
  have k0 := h0
  have lt0 : ∀ x ∈ p0, x.block < W.heap.size := by obtain ⟨m, hm⟩ := k0; exact DataW.trod_lt m _ _ _ hm
  obtain ⟨z0, w0⟩ : ∃ zs, ArgP W a0 len0 cap0 zs := by
    obtain ⟨fuel, hf⟩ := h0
    exact ArgP.of_trod Try.underlying22 Try.underlying57 (by kernel_rfl) rfl rfl (by kernel_rfl) (by kernel_rfl) Try.underlying3 Try.underlying3 hf
  obtain ⟨a1, rfl, rfl, rfl, w1⟩ := open_int Try.underlying3 (hval 1 3 v1 rfl rfl) h1
  obtain ⟨a2, len2, cap2, rfl⟩ := okWide_slice Try.underlying29 (hval 2 29 v2 rfl rfl)
  have k2 := h2
  have lt2 : ∀ x ∈ p2, x.block < W.heap.size := by obtain ⟨m, hm⟩ := k2; exact DataW.trod_lt m _ _ _ hm
  obtain ⟨z2, w2⟩ : ∃ zs, ArgI W a2 len2 cap2 zs := by
    obtain ⟨fuel, hf⟩ := h2
    rcases open_ints Try.underlying29 Try.underlying3 (by kernel_rfl) hf with ⟨hcs, _⟩ | ⟨x, l, c, zs, hcs, _, hl, hm, hz, _, hcell, hwz⟩
    · simp [Value.cells] at hcs
      obtain ⟨rfl, rfl, rfl⟩ := hcs
      exact ⟨[], rfl, Nat.le_refl _, Nat.zero_le _, fun n hn => by simp at hn, .inl rfl⟩
    · simp [Value.cells] at hcs
      obtain ⟨rfl, rfl, rfl⟩ := hcs
      exact ArgI.of_open hl hm (by simpa using hz) hcell hwz
  clear hA0 hval0
  simp only [List.append_nil] at hW'
  refine (walk a0 len0 cap0 z0 a1 w1 a2 len2 cap2 z2 W w0 w2).mono fun e W' ⟨he, bel⟩ => ?_
  subst he
  exact ⟨_, rfl, _, _, _, [], _, [], hW', trodAll_mk1 (shut_bool Try.underlying4 _), (trodAll_cons_mk (Below.trod laidOut (by kernel_rfl) (of_decide_eq_true (by kernel_rfl)) k0 bel lt0) (trodAll_cons_mk (shut_int Try.underlying3 w1) (trodAll_cons_mk (Below.trod laidOut (by kernel_rfl) (of_decide_eq_true (by kernel_rfl)) k2 bel lt2) trodAll_mk0))), rfl, bel.frame _, fun h => by cases h⟩

theorem over : Rows.fnExactLengthWithoutBackRow.holds Try.pinned (OpenSpec.ofChange Rows.fnExactLengthWithoutBackSpec) :=
  OpenClaim.holds_of_wide 7 Try.f7 rfl rfl rfl rfl rfl rfl rfl ⟨rfl, rfl, rfl, rfl, rfl⟩ rfl rfl rfl rfl rfl (by kernel_rfl) Try.func7 (by kernel_rfl)
    (of_decide_eq_true (by kernel_rfl)) (by unfold Func.isWrapper; first | (rw [if_pos (by decide +kernel)]; kernel_rfl) | (rw [if_neg (by decide +kernel)]; exact ⟨rfl, rfl⟩))
    (fun os started H enc _ => lifted os started H enc)

/-- The statement. -/
theorem proved : Rows.FnExactLengthWithoutBackSaid :=
  over
#print axioms proved
end Go.Proofs.Ytjocipddffillaa.fnExactLengthWithoutBack
