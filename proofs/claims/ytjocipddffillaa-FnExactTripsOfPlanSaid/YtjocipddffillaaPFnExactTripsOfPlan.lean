/-
  'FnExactTripsOfPlan' answers true at every argument and leaves its arguments as they were: the function of the program and its model give the same results.
-/
import Derived.Test.YtjocipddffillaaRows
import Derived.WalkKit
import Derived.ProofKit
import Derived.OpenShut
import Derived.Lib.SmallJoins
import Derived.Carry
import Derived.Test.YtjocipddffillaaArgs
import Derived.Test.YtjocipddffillaaInts2
import Derived.Test.YtjocipddffillaaBgWb
namespace Go.Proofs.Ytjocipddffillaa.fnExactTripsOfPlan
open Go.ChangeShapes Go.WideShapes Go.ChangeAt Go.RowKit Go.Joins
open Go.WideMaps Go.WideElems
open Go.ChangeMaps (setBlock shut_map_nil open_string shut_string keptBut_setBlock frozen?_setBlock heap_setBlock_same)
set_option linter.unusedVariables false
set_option linter.unusedSimpArgs false

theorem own : ownKnob Try.prog.godebug = none := by kernel_rfl
theorem laidOut : laidOutB Try.prog = true := by kernel_rfl

set_option maxRecDepth 100000 in
set_option maxHeartbeats 1000000 in
theorem walk (a0 : Option Addr) (len0 cap0 : Nat) (z0 : List Pi2) (a1 : Int) (w1 : (Lit.int .i64 a1).wf = true) (a2 : Option Addr) (len2 cap2 : Nat) (z2 : List Int) (w : World) (w0 : ArgP w a0 len0 cap0 z0) (w2 : ArgI w a2 len2 cap2 z2) :
    Calls Try.prog 5 #[.slice a0 len0 cap0, .int .i64 a1, .slice a2 len2 cap2] w fun e w' => e = .returned (.bool true) ∧ Below w.heap.size w w' := by
  by_cases hl2 : len2 ≤ 1048576
  case neg =>
    have hz2 : (1048576 : Int) < (len2 : Int) := by omega
    clear w0 w2
    go_enter Try.func5, Try.ntmps5
    go_wp2
    go_ret
    exact ⟨rfl, Gr.below (by repeat (first | exact Gr.refl _ | refine Gr.alloc ?_ _ | refine Gr.trans ?_ (by assumption) | refine Gr.drew ?_ | refine Gr.drewN ?_ _ | refine Gr.grow ?_ _ | refine Gr.setCell ?_ (by (try simp); (try omega)) _))⟩
  have hz2 : ¬ (1048576 : Int) < (len2 : Int) := by omega
  by_cases hsum : len0 ≤ 1048576
  case neg =>
    have wl : len0 ≤ maxLen := Nat.le_trans w0.2.1 w0.2.2.1
    have SZ := Lib.hid (fun (w : World) => Try.szParcelS w a0 len0 cap0 1048576 (by omega) (by omega) wl)
    rw [if_pos (by omega)] at SZ
    clear w0 w2
    go_enter Try.func5, Try.ntmps5
    go_wp2_with (first | (go_at_call 15; refine (SZ.out _).mono ?_; rintro e w1 ⟨rfl, rfl⟩))
    go_ret
    exact ⟨rfl, Gr.below (by repeat (first | exact Gr.refl _ | refine Gr.alloc ?_ _ | refine Gr.trans ?_ (by assumption) | refine Gr.drew ?_ | refine Gr.drewN ?_ _ | refine Gr.grow ?_ _ | refine Gr.setCell ?_ (by (try simp); (try omega)) _))⟩
  have hl0 : len0 ≤ 1048576 := hsum
  have zl0 : (z0).length ≤ 1048576 := by have := w0.1; omega
  have zl2 : (z2).length ≤ 1048576 := by have := w2.1; omega
  obtain ⟨a, ha⟩ := exbG (AskB z0 a1)
  obtain ⟨p, hp⟩ := exbG (PlanB z0 a1 z2)
  obtain ⟨zss, hz⟩ : ∃ zss, (if (a && p) = true then tripB z2 else []) = zss := ⟨_, rfl⟩
  have HS := Lib.hid (fun (w : World) B v h B2 v2 h2 => Try.sTripsOfPlan w B B2 v v2 z0 z2 a1 a p ha hp zl2 zl0 h h2)
  have HI := Lib.hid (fun (w : World) B v h B2 v2 h2 => Try.iTripsOfPlan w B B2 v v2 z0 z2 a1 a p ha hp zl2 zl0 h h2 zss hz)
  rw [hz] at HS
  have hz8 : zss.length ≤ 8 ∧ ∀ j, (rowOf zss j).length ≤ 8 := by
    subst hz
    cases hr : (a && p)
    · rw [if_neg (by simp)]; exact ⟨by simp, fun j => by unfold rowOf; simp⟩
    · rw [Bool.and_eq_true] at hr
      have h1 := (ha.1 hr.1).1.1
      have h2 := (hp.1 hr.2).1
      rw [if_pos rfl]
      exact ⟨by rw [tripB_len]; have := Bg.cnt_le z2 z2.length; omega, tripB_le z2 (by omega)⟩
  have hof := offN_in (m := 1) hz8.2 zss.length
  have hqn : ¬ offN 1 (rowOf zss) zss.length < 0 := by omega
  generalize (a && p) = r1 at *
  have HZ := Lib.hid hz8
  clear hz hz8 hof
  have WA0 := Lib.hid w0
  have WA2 := Lib.hid w2
  have HL0 := Lib.hid hl0
  have HL2 := Lib.hid hl2
  have wl0 : len0 ≤ maxLen := Nat.le_trans (WA0.out.2.1) (WA0.out.2.2.1)
  have wl2 : len2 ≤ maxLen := Nat.le_trans (WA2.out.2.1) (WA2.out.2.2.1)
  clear w0 hl0 w2 hl2
  have SZ0 := Lib.hid (fun (w : World) => (Try.szParcelS w a0 len0 cap0 (1048576) (by omega) (by omega) wl0))
  rw [if_neg (by have := HL0.out; have := hsum; omega)] at SZ0
  go_enter Try.func5, Try.ntmps5
  go_wp2_with (first | (go_at_call_of 15 (Value.slice a0 len0 cap0); refine (SZ0.out _).mono ?_; rintro e w1 ⟨rfl, rfl⟩))
  refine (Try.toParcelS _ _ _ _ _ HL0.out WA0.out).mono ?_
  rintro e wv1 ⟨v1, rfl, c1, d1⟩
  have b1 := d1
  have s1 := b1.size
  have B1 := b1
  have F1 := c1
  go_wp2_with fail
  refine (Try.toIntS _ _ _ _ _ HL2.out (WA2.out.below B1)).mono ?_
  rintro e wv2 ⟨v2, rfl, c2, d2⟩
  have b2 := d2
  have s2 := b2.size
  have o2_1 := c1.below b2 (Nat.le_refl _)
  have B2 := B1.trans (b2.mono B1.size)
  have F2 := c2
  go_wp2_with fail
  refine (HS.out _ _ _ o2_1 _ _ c2).mono ?_
  rintro e wv3 ⟨v3, rfl, c3, d3⟩
  have s3 := d3.size
  have B3 := B2.trans (d3.mono B2.size)
  go_wp2_with fail
  refine (Try.toParcelS _ _ _ _ _ HL0.out (WA0.out.below B3)).mono ?_
  rintro e wv4 ⟨v4, rfl, c4, d4⟩
  have s4 := d4.size
  have B4 := B3.trans (d4.mono B3.size)
  have D4 := d4
  go_wp2_with fail
  refine (Try.toIntS _ _ _ _ _ HL2.out (WA2.out.below B4)).mono ?_
  rintro e wv5 ⟨v5, rfl, c5, d5⟩
  have s5 := d5.size
  have o5_4 := c4.below d5 (Nat.le_refl _)
  have B5 := B4.trans (d5.mono B4.size)
  have D5 := D4.trans (d5.mono D4.size)
  go_wp2_with fail
  refine (HI.out _ _ _ o5_4 _ _ c5).mono ?_
  rintro e wv6 ⟨v6, rfl, c6, d6⟩
  have s6 := d6.size
  have o6_4 := o5_4.below d6 (Nat.le_refl _)
  have o6_5 := c5.below d6 (Nat.le_refl _)
  have B6 := B5.trans (d6.mono B5.size)
  have D6 := D5.trans (d6.mono D5.size)
  go_wp2_with fail
  refine (Try.eqIntSS _ _ _ _ _ _ (show OwnZ _ _ _ zss from c6.ll) (c3.below D6 (Nat.le_refl _))).mono ?_
  rintro e wv7 ⟨rfl, d7⟩
  have s7 := d7.below.size
  have o7_4 := o6_4.below d7.below (Nat.le_refl _)
  have o7_5 := o6_5.below d7.below (Nat.le_refl _)
  have o7_6 := c6.below d7.below (Nat.le_refl _)
  have B7 := B6.trans (d7.below.mono B6.size)
  have D7 := D6.trans (d7.below.mono D6.size)
  go_wp2_with fail
  refine (Try.toParcelS _ _ _ _ _ HL0.out (WA0.out.below B7)).mono ?_
  rintro e wv8 ⟨v8, rfl, c8, d8⟩
  have s8 := d8.size
  have o8_4 := o7_4.below d8 (Nat.le_refl _)
  have o8_5 := o7_5.below d8 (Nat.le_refl _)
  have o8_6 := o7_6.below d8 (Nat.le_refl _)
  have B8 := B7.trans (d8.mono B7.size)
  have D8 := D7.trans (d8.mono D7.size)
  go_wp2_with fail
  refine (Try.eqParcelS _ _ _ _ _ _ o8_4 c8).mono ?_
  rintro e wv9 ⟨rfl, d9⟩
  have s9 := d9.below.size
  have o9_4 := o8_4.below d9.below (Nat.le_refl _)
  have o9_5 := o8_5.below d9.below (Nat.le_refl _)
  have o9_6 := o8_6.below d9.below (Nat.le_refl _)
  have B9 := B8.trans (d9.below.mono B8.size)
  have D9 := D8.trans (d9.below.mono D8.size)
  go_wp2_with fail
  refine (Try.toIntS _ _ _ _ _ HL2.out (WA2.out.below B9)).mono ?_
  rintro e wv10 ⟨v10, rfl, c10, d10⟩
  have s10 := d10.size
  have o10_4 := o9_4.below d10 (Nat.le_refl _)
  have o10_5 := o9_5.below d10 (Nat.le_refl _)
  have o10_6 := o9_6.below d10 (Nat.le_refl _)
  have B10 := B9.trans (d10.mono B9.size)
  have D10 := D9.trans (d10.mono D9.size)
  go_wp2_with fail
  refine (Try.eqIntS _ _ _ _ _ _ o10_5 c10).mono ?_
  rintro e wv11 ⟨rfl, d11⟩
  have s11 := d11.below.size
  have o11_4 := o10_4.below d11.below (Nat.le_refl _)
  have o11_5 := o10_5.below d11.below (Nat.le_refl _)
  have o11_6 := o10_6.below d11.below (Nat.le_refl _)
  have B11 := B10.trans (d11.below.mono B10.size)
  have D11 := D10.trans (d11.below.mono D10.size)
  go_wp2_with fail
  refine (Try.markParcelS _ _ _ _ (1) (by omega) (by omega) (Nat.le_trans (by have := WA0.out.1; have := HL0.out; omega) (show 1048576 ≤ 1000000000 by decide)) o11_4).mono ?_
  rintro e wv12 ⟨rfl, c12, d12⟩
  have s12 := d12.size
  have o12_5 := o11_5.grown d12 (own_ne c5 c4 (by omega))
  have o12_6 := o11_6.low d12 (fun b hb => by have := (World.ownsRow.lt c4 b hb).2; omega)
  have B12 := B11.trans (Below.grown (Below.refl w.heap.size _) d12 (by omega) (fun j hj => by have := (World.ownsRow.lt c4 j hj).1; omega))
  have D12 := D11.trans (Below.grown (Below.refl wv3.heap.size _) d12 (by omega) (fun j hj => by have := (World.ownsRow.lt c4 j hj).1; omega))
  have lz0 : ((z0).length : Int) ≤ 1048576 := by have := WA0.out.1; have := HL0.out; omega
  go_wp2_with fail
  refine (Try.markIntM _ _ _ _ (1 + 2 * ((z0).length : Int)) (by omega) (by omega) (Nat.le_trans (by have := WA2.out.1; have := HL2.out; omega) (show 1048576 ≤ 1000000000 by decide)) o12_5).mono ?_
  rintro e wv13 ⟨rfl, c13, d13⟩
  have s13 := d13.size
  have o13_6 := o12_6.low d13 (fun b hb => by have := (World.ownsRow.lt c5 b hb).2; omega)
  have B13 := B12.trans (Below.grown (Below.refl w.heap.size _) d13 (by omega) (fun j hj => by have := (World.ownsRow.lt c5 j hj).1; omega))
  have D13 := D12.trans (Below.grown (Below.refl wv3.heap.size _) d13 (by omega) (fun j hj => by have := (World.ownsRow.lt c5 j hj).1; omega))
  have lz2 : ((z2).length : Int) ≤ 1048576 := by have := WA2.out.1; have := HL2.out; omega
  go_wp2_with fail
  refine (Try.eqIntSS _ _ _ _ _ _ (show OwnZ _ _ _ zss from o13_6.ll) (c3.below D13 (Nat.le_refl _))).mono ?_
  rintro e wv14 ⟨rfl, d14⟩
  have s14 := d14.below.size
  have o14_6 := o13_6.below d14.below (Nat.le_refl _)
  have B14 := B13.trans (d14.below.mono B13.size)
  have D14 := D13.trans (d14.below.mono D13.size)
  go_wp2_with fail
  refine (Try.markIntSS _ _ _ _ _ (1) (by omega) (by omega) (by omega) HZ.out.1 HZ.out.2 o14_6).mono ?_
  rintro e wv15 ⟨rfl, c15, d15⟩
  have s15 := d15.size
  have B15 := B14.trans (d15.mono (by omega))
  have D15 := D14.trans (d15.mono (by omega))
  go_wp2_with fail
  refine (Try.heldIntSS _ _ _ _ _ (1) (by omega) (by omega) HZ.out.1 HZ.out.2 c15).mono ?_
  rintro e wv16 ⟨rfl, rfl⟩
  go_wp2_with fail
  refine (Try.toParcelS _ _ _ _ _ HL0.out (WA0.out.below B15)).mono ?_
  rintro e wv17 ⟨v17, rfl, c17, d17⟩
  have s17 := d17.size
  have o17_6 := c15.below d17 (Nat.le_refl _)
  have B17 := B15.trans (d17.mono B15.size)
  have D17 := D15.trans (d17.mono D15.size)
  go_wp2_with fail
  refine (Try.toIntS _ _ _ _ _ HL2.out (WA2.out.below B17)).mono ?_
  rintro e wv18 ⟨v18, rfl, c18, d18⟩
  have s18 := d18.size
  have o18_6 := o17_6.below d18 (Nat.le_refl _)
  have o18_9 := c17.below d18 (Nat.le_refl _)
  have B18 := B17.trans (d18.mono B17.size)
  have D18 := D17.trans (d18.mono D17.size)
  go_wp2_with fail
  refine (HI.out _ _ _ o18_9 _ _ c18).mono ?_
  rintro e wv19 ⟨v19, rfl, c19, d19⟩
  have s19 := d19.size
  have o19_6 := o18_6.below d19 (Nat.le_refl _)
  have B19 := B18.trans (d19.mono B18.size)
  have D19 := D18.trans (d19.mono D18.size)
  go_wp2_with fail
  refine (Try.eqIntSS _ _ _ _ _ _ (show OwnZ _ _ _ zss from c19.ll) (c3.below D19 (Nat.le_refl _))).mono ?_
  rintro e wv20 ⟨rfl, d20⟩
  have o20_6 := o19_6.below d20.below (Nat.le_refl _)
  have B20 := B19.trans (d20.below.mono B19.size)
  go_wp2_with fail
  refine (Try.heldIntSS _ _ _ _ _ (1) (by omega) (by omega) HZ.out.1 HZ.out.2 o20_6).mono ?_
  rintro e wv21 ⟨rfl, rfl⟩
  go_wp2_with fail
  go_ret
  exact ⟨rfl, B20⟩

set_option maxRecDepth 100000 in
theorem lifted (os : Os) (started : os.Started) (H : Type) (enc : TypeId × Value → H) :
    ReturnsInHanded {} Try.checked os 5 .any (Rows.fnExactTripsOfPlanSpec.pre6 enc Try.prog Try.f5 Rows.fnExactTripsOfPlanRow.domain false) (Rows.fnExactTripsOfPlanSpec.post enc Try.prog Try.f5 false true false false) := by
  refine returnsInHanded_of_change (C := Try.checked) own started (by kernel_rfl) Try.func5
    (ChangeSpec.witness6 (enc := enc) (C := Try.checked) false ⟨#[], #[.slice none 0 0, .int .i64 0, .slice none 0 0], []⟩ 8 (by kernel_rfl) (by kernel_rfl) (by kernel_rfl) (by kernel_rfl)) ?_
  intro W base args ds gs before hval0 hW hcnd _
  have hval : ∀ (j : Nat) t v, Try.f5.params[j]? = some t → args[j]? = some v → Value.okWide Try.prog W .any base t v := hval0
  have hW' := hW
  obtain ⟨p, q, hA0, hV, rfl, hfz, hnd⟩ := hW
  have hA : DataW.TrodAll enc Try.prog W 0 (fun _ => true) true Try.f5.params.toList args.toList ds p := hA0
  rw [Try.params5] at hA hval
  obtain ⟨v0, vs0, d0, ds0, p0, q0, hargs, rfl, rfl, h0, r0⟩ := trodAll_cons hA
  obtain ⟨v1, vs1, d1, ds1, p1, q1, rfl, rfl, rfl, h1, r1⟩ := trodAll_cons r0
  obtain ⟨v2, vs2, d2, ds2, p2, q2, rfl, rfl, rfl, h2, r2⟩ := trodAll_cons r1
  obtain ⟨rfl, rfl, rfl⟩ := trodAll_nil r2
  obtain rfl : args = #[v0, v1, v2] := by cases args; simp_all
  obtain ⟨rfl, rfl⟩ := trodVars_none hV
  obtain ⟨a0, len0, cap0, rfl⟩ := okWide_slice Try.underlying22 (hval 0 22 v0 rfl rfl)
  have k0 := h0
  have lt0 : ∀ x ∈ p0, x.block < W.heap.size := by obtain ⟨m, hm⟩ := k0; exact DataW.trod_lt m _ _ _ hm
  obtain ⟨z0, w0⟩ : ∃ zs, ArgP W a0 len0 cap0 zs := by
    obtain ⟨fuel, hf⟩ := h0
    exact ArgP.of_trod Try.underlying22 Try.underlying57 (by kernel_rfl) rfl rfl (by kernel_rfl) (by kernel_rfl) Try.underlying3 Try.underlying3 hf
  obtain ⟨a1, rfl, rfl, rfl, w1⟩ := open_int Try.underlying3 (hval 1 3 v1 rfl rfl) h1
  obtain ⟨a2, len2, cap2, rfl⟩ := okWide_slice Try.underlying29 (hval 2 29 v2 rfl rfl)
  have k2 := h2
  have lt2 : ∀ x ∈ p2, x.block < W.heap.size := by obtain ⟨m, hm⟩ := k2; exact DataW.trod_lt m _ _ _ hm
  obtain ⟨z2, w2⟩ : ∃ zs, ArgI W a2 len2 cap2 zs := by
    obtain ⟨fuel, hf⟩ := h2
    rcases open_ints Try.underlying29 Try.underlying3 (by kernel_rfl) hf with ⟨hcs, _⟩ | ⟨x, l, c, zs, hcs, _, hl, hm, hz, _, hcell, hwz⟩
    · simp [Value.cells] at hcs
      obtain ⟨rfl, rfl, rfl⟩ := hcs
      exact ⟨[], rfl, Nat.le_refl _, Nat.zero_le _, fun n hn => by simp at hn, .inl rfl⟩
    · simp [Value.cells] at hcs
      obtain ⟨rfl, rfl, rfl⟩ := hcs
      exact ArgI.of_open hl hm (by simpa using hz) hcell hwz
  clear hA0 hval0
  simp only [List.append_nil] at hW'
  refine (walk a0 len0 cap0 z0 a1 w1 a2 len2 cap2 z2 W w0 w2).mono fun e W' ⟨he, bel⟩ => ?_
  subst he
  exact ⟨_, rfl, _, _, _, [], _, [], hW', trodAll_mk1 (shut_bool Try.underlying4 _), (trodAll_cons_mk (Below.trod laidOut (by kernel_rfl) (of_decide_eq_true (by kernel_rfl)) k0 bel lt0) (trodAll_cons_mk (shut_int Try.underlying3 w1) (trodAll_cons_mk (Below.trod laidOut (by kernel_rfl) (of_decide_eq_true (by kernel_rfl)) k2 bel lt2) trodAll_mk0))), rfl, bel.frame _, fun h => by cases h⟩

theorem over : Rows.fnExactTripsOfPlanRow.holds Try.pinned (OpenSpec.ofChange Rows.fnExactTripsOfPlanSpec) :=
  OpenClaim.holds_of_wide 5 Try.f5 rfl rfl rfl rfl rfl rfl rfl ⟨rfl, rfl, rfl, rfl, rfl⟩ rfl rfl rfl rfl rfl (by kernel_rfl) Try.func5 (by kernel_rfl)
    (of_decide_eq_true (by kernel_rfl)) (by unfold Func.isWrapper; first | (rw [if_pos (by decide +kernel)]; kernel_rfl) | (rw [if_neg (by decide +kernel)]; exact ⟨rfl, rfl⟩))
    (fun os started H enc _ => lifted os started H enc)

/-- The statement. -/
theorem proved : Rows.FnExactTripsOfPlanSaid :=
  over
#print axioms proved
end Go.Proofs.Ytjocipddffillaa.fnExactTripsOfPlan
