/-
  'FnExactWeightsOfTrips' answers true at every argument and leaves its arguments as they were: the function of the program and its model give the same results.
-/
import Derived.Test.YtjocipddffillaaRows
import Derived.WalkKit
import Derived.ProofKit
import Derived.OpenShut
import Derived.Lib.SmallJoins
import Derived.Carry
import Derived.Test.YtjocipddffillaaArgs
import Derived.Test.YtjocipddffillaaInts2
import Derived.Test.YtjocipddffillaaBgV
namespace Go.Proofs.Ytjocipddffillaa.fnExactWeightsOfTrips
open Go.ChangeShapes Go.WideShapes Go.ChangeAt Go.RowKit Go.Joins
open Go.WideMaps Go.WideElems
open Go.ChangeMaps (setBlock shut_map_nil open_string shut_string keptBut_setBlock frozen?_setBlock heap_setBlock_same)
set_option linter.unusedVariables false
set_option linter.unusedSimpArgs false

theorem own : ownKnob Try.prog.godebug = none := by kernel_rfl
theorem laidOut : laidOutB Try.prog = true := by kernel_rfl

set_option maxRecDepth 100000 in
set_option maxHeartbeats 1000000 in
theorem walk (a0 : Option Addr) (len0 cap0 : Nat) (z0 : List Pi2) (a1 : Int) (w1 : (Lit.int .i64 a1).wf = true) (a2 : Option Addr) (len2 cap2 : Nat) (z2 : List Int) (w : World) (w0 : ArgP w a0 len0 cap0 z0) (w2 : ArgI w a2 len2 cap2 z2) :
    Calls Try.prog 8 #[.slice a0 len0 cap0, .int .i64 a1, .slice a2 len2 cap2] w fun e w' => e = .returned (.bool true) ∧ Below w.heap.size w w' := by
  by_cases hl2 : len2 ≤ 1048576
  case neg =>
    have hz2 : (1048576 : Int) < (len2 : Int) := by omega
    clear w0 w2
    go_enter Try.func8, Try.ntmps8
    go_wp2
    go_ret
    exact ⟨rfl, Gr.below (by repeat (first | exact Gr.refl _ | refine Gr.alloc ?_ _ | refine Gr.trans ?_ (by assumption) | refine Gr.drew ?_ | refine Gr.drewN ?_ _ | refine Gr.grow ?_ _ | refine Gr.setCell ?_ (by (try simp); (try omega)) _))⟩
  have hz2 : ¬ (1048576 : Int) < (len2 : Int) := by omega
  by_cases hsum : len0 ≤ 1048576
  case neg =>
    have wl : len0 ≤ maxLen := Nat.le_trans w0.2.1 w0.2.2.1
    have SZ := Lib.hid (fun (w : World) => Try.szParcelS w a0 len0 cap0 1048576 (by omega) (by omega) wl)
    rw [if_pos (by omega)] at SZ
    clear w0 w2
    go_enter Try.func8, Try.ntmps8
    go_wp2_with (first | (go_at_call 15; refine (SZ.out _).mono ?_; rintro e w1 ⟨rfl, rfl⟩))
    go_ret
    exact ⟨rfl, Gr.below (by repeat (first | exact Gr.refl _ | refine Gr.alloc ?_ _ | refine Gr.trans ?_ (by assumption) | refine Gr.drew ?_ | refine Gr.drewN ?_ _ | refine Gr.grow ?_ _ | refine Gr.setCell ?_ (by (try simp); (try omega)) _))⟩
  have hl0 : len0 ≤ 1048576 := hsum
  have zl0 : (z0).length ≤ 1048576 := by have := w0.1; omega
  have zl2 : (z2).length ≤ 1048576 := by have := w2.1; omega
  obtain ⟨a, ha⟩ := exbG (AskB z0 a1)
  obtain ⟨p, hp⟩ := exbG (PlanB z0 a1 z2)
  have HS := Lib.hid (fun (w : World) B v h B2 v2 h2 => Try.sWeightsOfTrips w B B2 v v2 z0 z2 a1 a p ha hp zl2 zl0 h h2)
  have HI := Lib.hid (fun (w : World) B v h B2 v2 h2 => Try.iWeightsOfTrips w B B2 v v2 z0 z2 a1 a p ha hp zl2 zl0 h h2)
  have hlen0 : ((if (a && p) = true then weiB z0 z2 else [])).length ≤ 1000000000 := ifG _ _ (by unfold weiB; rw [Bg.tb_len]; have := Bg.cnt_le z2 z2.length; omega)
  generalize (if (a && p) = true then weiB z0 z2 else []) = xs at *
  generalize (a && p) = r1 at *
  have WA0 := Lib.hid w0
  have WA2 := Lib.hid w2
  have HL0 := Lib.hid hl0
  have HL2 := Lib.hid hl2
  have wl0 : len0 ≤ maxLen := Nat.le_trans (WA0.out.2.1) (WA0.out.2.2.1)
  have wl2 : len2 ≤ maxLen := Nat.le_trans (WA2.out.2.1) (WA2.out.2.2.1)
  clear w0 hl0 w2 hl2
  have SZ0 := Lib.hid (fun (w : World) => (Try.szParcelS w a0 len0 cap0 (1048576) (by omega) (by omega) wl0))
  rw [if_neg (by have := HL0.out; have := hsum; omega)] at SZ0
  go_enter Try.func8, Try.ntmps8
  go_wp2_with (first | (go_at_call_of 15 (Value.slice a0 len0 cap0); refine (SZ0.out _).mono ?_; rintro e w1 ⟨rfl, rfl⟩))
  refine (Try.toParcelS _ _ _ _ _ HL0.out WA0.out).mono ?_
  rintro e wv1 ⟨v1, rfl, c1, d1⟩
  have b1 := d1
  have s1 := b1.size
  have B1 := b1
  have F1 := c1
  go_wp2_with fail
  refine (Try.toIntS _ _ _ _ _ HL2.out (WA2.out.below B1)).mono ?_
  rintro e wv2 ⟨v2, rfl, c2, d2⟩
  have b2 := d2
  have s2 := b2.size
  have o2_1 := c1.below b2 (Nat.le_refl _)
  have B2 := B1.trans (b2.mono B1.size)
  have F2 := c2
  go_wp2_with fail
  refine (HS.out _ _ _ o2_1 _ _ c2).mono ?_
  rintro e wv3 ⟨v3_0, rfl, c3_0, d3⟩
  have b3 := d3
  have s3 := b3.size
  have o3_1 := o2_1.below b3 (Nat.le_refl _)
  have o3_2 := c2.below b3 (Nat.le_refl _)
  have B3 := B2.trans (b3.mono B2.size)
  have F3 := c3_0
  go_wp2_with fail
  refine (Try.toParcelS _ _ _ _ _ HL0.out (WA0.out.below B3)).mono ?_
  rintro e wv4 ⟨v4, rfl, c4, d4⟩
  have b4 := d4
  have s4 := b4.size
  have o4_1 := o3_1.below b4 (Nat.le_refl _)
  have o4_2 := o3_2.below b4 (Nat.le_refl _)
  have o4_3 := c3_0.below b4 (Nat.le_refl _)
  have B4 := B3.trans (b4.mono B3.size)
  have F4 := c4
  go_wp2_with fail
  refine (Try.toIntS _ _ _ _ _ HL2.out (WA2.out.below B4)).mono ?_
  rintro e wv5 ⟨v5, rfl, c5, d5⟩
  have b5 := d5
  have s5 := b5.size
  have o5_1 := o4_1.below b5 (Nat.le_refl _)
  have o5_2 := o4_2.below b5 (Nat.le_refl _)
  have o5_3 := o4_3.below b5 (Nat.le_refl _)
  have o5_4 := c4.below b5 (Nat.le_refl _)
  have B5 := B4.trans (b5.mono B4.size)
  have F5 := c5
  go_wp2_with fail
  refine (HI.out _ _ _ o5_4 _ _ c5).mono ?_
  rintro e wv6 ⟨v6_0, rfl, c6_0, d6⟩
  have b6 := d6
  have s6 := b6.size
  have o6_1 := o5_1.below b6 (Nat.le_refl _)
  have o6_2 := o5_2.below b6 (Nat.le_refl _)
  have o6_3 := o5_3.below b6 (Nat.le_refl _)
  have o6_4 := o5_4.below b6 (Nat.le_refl _)
  have o6_5 := c5.below b6 (Nat.le_refl _)
  have B6 := B5.trans (b6.mono B5.size)
  have F6 := c6_0
  go_wp2_with fail
  refine (Try.eqIntS _ _ _ _ _ _ c6_0 o6_3).mono ?_
  rintro e wv7 ⟨rfl, d7⟩
  have b7 := d7.below
  have s7 := b7.size
  have o7_1 := o6_1.below b7 (Nat.le_refl _)
  have o7_2 := o6_2.below b7 (Nat.le_refl _)
  have o7_3 := o6_3.below b7 (Nat.le_refl _)
  have o7_4 := o6_4.below b7 (Nat.le_refl _)
  have o7_5 := o6_5.below b7 (Nat.le_refl _)
  have o7_6 := c6_0.below b7 (Nat.le_refl _)
  have B7 := B6.trans (b7.mono B6.size)
  go_wp2_with fail
  refine (Try.toParcelS _ _ _ _ _ HL0.out (WA0.out.below B7)).mono ?_
  rintro e wv8 ⟨v8, rfl, c8, d8⟩
  have b8 := d8
  have s8 := b8.size
  have o8_1 := o7_1.below b8 (Nat.le_refl _)
  have o8_2 := o7_2.below b8 (Nat.le_refl _)
  have o8_3 := o7_3.below b8 (Nat.le_refl _)
  have o8_4 := o7_4.below b8 (Nat.le_refl _)
  have o8_5 := o7_5.below b8 (Nat.le_refl _)
  have o8_6 := o7_6.below b8 (Nat.le_refl _)
  have B8 := B7.trans (b8.mono B7.size)
  go_wp2_with fail
  refine (Try.eqParcelS _ _ _ _ _ _ o8_4 c8).mono ?_
  rintro e wv9 ⟨rfl, d9⟩
  have b9 := d9.below
  have s9 := b9.size
  have o9_1 := o8_1.below b9 (Nat.le_refl _)
  have o9_2 := o8_2.below b9 (Nat.le_refl _)
  have o9_3 := o8_3.below b9 (Nat.le_refl _)
  have o9_4 := o8_4.below b9 (Nat.le_refl _)
  have o9_5 := o8_5.below b9 (Nat.le_refl _)
  have o9_6 := o8_6.below b9 (Nat.le_refl _)
  have o9_7 := c8.below b9 (Nat.le_refl _)
  have B9 := B8.trans (b9.mono B8.size)
  go_wp2_with fail
  refine (Try.toIntS _ _ _ _ _ HL2.out (WA2.out.below B9)).mono ?_
  rintro e wv10 ⟨v10, rfl, c10, d10⟩
  have b10 := d10
  have s10 := b10.size
  have o10_1 := o9_1.below b10 (Nat.le_refl _)
  have o10_2 := o9_2.below b10 (Nat.le_refl _)
  have o10_3 := o9_3.below b10 (Nat.le_refl _)
  have o10_4 := o9_4.below b10 (Nat.le_refl _)
  have o10_5 := o9_5.below b10 (Nat.le_refl _)
  have o10_6 := o9_6.below b10 (Nat.le_refl _)
  have B10 := B9.trans (b10.mono B9.size)
  go_wp2_with fail
  refine (Try.eqIntS _ _ _ _ _ _ o10_5 c10).mono ?_
  rintro e wv11 ⟨rfl, d11⟩
  have b11 := d11.below
  have s11 := b11.size
  have o11_1 := o10_1.below b11 (Nat.le_refl _)
  have o11_2 := o10_2.below b11 (Nat.le_refl _)
  have o11_3 := o10_3.below b11 (Nat.le_refl _)
  have o11_4 := o10_4.below b11 (Nat.le_refl _)
  have o11_5 := o10_5.below b11 (Nat.le_refl _)
  have o11_6 := o10_6.below b11 (Nat.le_refl _)
  have o11_8 := c10.below b11 (Nat.le_refl _)
  have B11 := B10.trans (b11.mono B10.size)
  go_wp2_with fail
  refine (Try.markParcelS _ _ _ _ (1) (by omega) (by omega) (Nat.le_trans (by have := WA0.out.1; have := HL0.out; omega) (show 1048576 ≤ 1000000000 by decide)) o11_4).mono ?_
  rintro e wv12 ⟨rfl, c12, d12⟩
  have s12 := d12.size
  have o12_1 := o11_1.grown d12 (own_ne' F1 F4 (by omega))
  have o12_2 := o11_2.grown d12 (own_ne' F2 F4 (by omega))
  have o12_3 := o11_3.grown d12 (own_ne' F3 F4 (by omega))
  have o12_5 := o11_5.grown d12 (own_ne F5 F4 (by omega))
  have o12_6 := o11_6.grown d12 (own_ne F6 F4 (by omega))
  have b12 := Below.grown (Below.refl w.heap.size _) d12 (by omega) (fun j hj => by have := (World.ownsRow.lt F4 j hj).1; omega)
  have B12 := B11.trans b12
  have lz0 : ((z0).length : Int) ≤ 1048576 := by have := WA0.out.1; have := HL0.out; omega
  go_wp2_with fail
  refine (Try.markIntM _ _ _ _ (1 + 2 * ((z0).length : Int)) (by omega) (by omega) (Nat.le_trans (by have := WA2.out.1; have := HL2.out; omega) (show 1048576 ≤ 1000000000 by decide)) o12_5).mono ?_
  rintro e wv13 ⟨rfl, c13, d13⟩
  have s13 := d13.size
  have o13_1 := o12_1.grown d13 (own_ne' F1 F5 (by omega))
  have o13_2 := o12_2.grown d13 (own_ne' F2 F5 (by omega))
  have o13_3 := o12_3.grown d13 (own_ne' F3 F5 (by omega))
  have o13_4 := c12.grown d13 (own_ne' F4 F5 (by omega))
  have o13_6 := o12_6.grown d13 (own_ne F6 F5 (by omega))
  have b13 := Below.grown (Below.refl w.heap.size _) d13 (by omega) (fun j hj => by have := (World.ownsRow.lt F5 j hj).1; omega)
  have B13 := B12.trans b13
  have lz2 : ((z2).length : Int) ≤ 1048576 := by have := WA2.out.1; have := HL2.out; omega
  go_wp2_with fail
  refine (Try.eqIntS _ _ _ _ _ _ o13_6 o13_3).mono ?_
  rintro e wv14 ⟨rfl, d14⟩
  have b14 := d14.below
  have s14 := b14.size
  have o14_1 := o13_1.below b14 (Nat.le_refl _)
  have o14_2 := o13_2.below b14 (Nat.le_refl _)
  have o14_3 := o13_3.below b14 (Nat.le_refl _)
  have o14_4 := o13_4.below b14 (Nat.le_refl _)
  have o14_5 := c13.below b14 (Nat.le_refl _)
  have o14_6 := o13_6.below b14 (Nat.le_refl _)
  have B14 := B13.trans (b14.mono B13.size)
  go_wp2_with fail
  refine (Try.markIntM _ _ _ _ (1) (by omega) (by omega) hlen0 o14_6).mono ?_
  rintro e wv15 ⟨rfl, c15, d15⟩
  have s15 := d15.size
  have o15_1 := o14_1.grown d15 (own_ne' F1 F6 (by omega))
  have o15_2 := o14_2.grown d15 (own_ne' F2 F6 (by omega))
  have o15_3 := o14_3.grown d15 (own_ne' F3 F6 (by omega))
  have o15_4 := o14_4.grown d15 (own_ne' F4 F6 (by omega))
  have o15_5 := o14_5.grown d15 (own_ne' F5 F6 (by omega))
  have b15 := Below.grown (Below.refl w.heap.size _) d15 (by omega) (fun j hj => by have := (World.ownsRow.lt F6 j hj).1; omega)
  have B15 := B14.trans b15
  go_wp2_with fail
  refine (Try.heldIntM _ _ _ _ (1) (by omega) (by omega) hlen0 c15).mono ?_
  rintro e wv16 ⟨rfl, rfl⟩
  go_wp2_with fail
  refine (Try.toParcelS _ _ _ _ _ HL0.out (WA0.out.below B15)).mono ?_
  rintro e wv17 ⟨v17, rfl, c17, d17⟩
  have b17 := d17
  have s17 := b17.size
  have o17_1 := o15_1.below b17 (Nat.le_refl _)
  have o17_2 := o15_2.below b17 (Nat.le_refl _)
  have o17_3 := o15_3.below b17 (Nat.le_refl _)
  have o17_4 := o15_4.below b17 (Nat.le_refl _)
  have o17_5 := o15_5.below b17 (Nat.le_refl _)
  have o17_6 := c15.below b17 (Nat.le_refl _)
  have B17 := B15.trans (b17.mono B15.size)
  have F9 := c17
  go_wp2_with fail
  refine (Try.toIntS _ _ _ _ _ HL2.out (WA2.out.below B17)).mono ?_
  rintro e wv18 ⟨v18, rfl, c18, d18⟩
  have b18 := d18
  have s18 := b18.size
  have o18_1 := o17_1.below b18 (Nat.le_refl _)
  have o18_2 := o17_2.below b18 (Nat.le_refl _)
  have o18_3 := o17_3.below b18 (Nat.le_refl _)
  have o18_4 := o17_4.below b18 (Nat.le_refl _)
  have o18_5 := o17_5.below b18 (Nat.le_refl _)
  have o18_6 := o17_6.below b18 (Nat.le_refl _)
  have o18_9 := c17.below b18 (Nat.le_refl _)
  have B18 := B17.trans (b18.mono B17.size)
  have F10 := c18
  go_wp2_with fail
  refine (HI.out _ _ _ o18_9 _ _ c18).mono ?_
  rintro e wv19 ⟨v19_0, rfl, c19_0, d19⟩
  have b19 := d19
  have s19 := b19.size
  have o19_1 := o18_1.below b19 (Nat.le_refl _)
  have o19_2 := o18_2.below b19 (Nat.le_refl _)
  have o19_3 := o18_3.below b19 (Nat.le_refl _)
  have o19_4 := o18_4.below b19 (Nat.le_refl _)
  have o19_5 := o18_5.below b19 (Nat.le_refl _)
  have o19_6 := o18_6.below b19 (Nat.le_refl _)
  have o19_9 := o18_9.below b19 (Nat.le_refl _)
  have o19_10 := c18.below b19 (Nat.le_refl _)
  have B19 := B18.trans (b19.mono B18.size)
  go_wp2_with fail
  refine (Try.eqIntS _ _ _ _ _ _ c19_0 o19_3).mono ?_
  rintro e wv20 ⟨rfl, d20⟩
  have b20 := d20.below
  have s20 := b20.size
  have o20_1 := o19_1.below b20 (Nat.le_refl _)
  have o20_2 := o19_2.below b20 (Nat.le_refl _)
  have o20_3 := o19_3.below b20 (Nat.le_refl _)
  have o20_4 := o19_4.below b20 (Nat.le_refl _)
  have o20_5 := o19_5.below b20 (Nat.le_refl _)
  have o20_6 := o19_6.below b20 (Nat.le_refl _)
  have o20_9 := o19_9.below b20 (Nat.le_refl _)
  have o20_10 := o19_10.below b20 (Nat.le_refl _)
  have o20_11 := c19_0.below b20 (Nat.le_refl _)
  have B20 := B19.trans (b20.mono B19.size)
  go_wp2_with fail
  refine (Try.heldIntM _ _ _ _ (1) (by omega) (by omega) hlen0 o20_6).mono ?_
  rintro e wv21 ⟨rfl, rfl⟩
  go_wp2_with fail
  go_ret
  exact ⟨rfl, B20⟩

set_option maxRecDepth 100000 in
theorem lifted (os : Os) (started : os.Started) (H : Type) (enc : TypeId × Value → H) :
    ReturnsInHanded {} Try.checked os 8 .any (Rows.fnExactWeightsOfTripsSpec.pre6 enc Try.prog Try.f8 Rows.fnExactWeightsOfTripsRow.domain false) (Rows.fnExactWeightsOfTripsSpec.post enc Try.prog Try.f8 false true false false) := by
  refine returnsInHanded_of_change (C := Try.checked) own started (by kernel_rfl) Try.func8
    (ChangeSpec.witness6 (enc := enc) (C := Try.checked) false ⟨#[], #[.slice none 0 0, .int .i64 0, .slice none 0 0], []⟩ 8 (by kernel_rfl) (by kernel_rfl) (by kernel_rfl) (by kernel_rfl)) ?_
  intro W base args ds gs before hval0 hW hcnd _
  have hval : ∀ (j : Nat) t v, Try.f8.params[j]? = some t → args[j]? = some v → Value.okWide Try.prog W .any base t v := hval0
  have hW' := hW
  obtain ⟨p, q, hA0, hV, rfl, hfz, hnd⟩ := hW
  have hA : DataW.TrodAll enc Try.prog W 0 (fun _ => true) true Try.f8.params.toList args.toList ds p := hA0
  rw [Try.params8] at hA hval
  obtain ⟨v0, vs0, d0, ds0, p0, q0, hargs, rfl, rfl, h0, r0⟩ := trodAll_cons hA
  obtain ⟨v1, vs1, d1, ds1, p1, q1, rfl, rfl, rfl, h1, r1⟩ := trodAll_cons r0
  obtain ⟨v2, vs2, d2, ds2, p2, q2, rfl, rfl, rfl, h2, r2⟩ := trodAll_cons r1
  obtain ⟨rfl, rfl, rfl⟩ := trodAll_nil r2
  obtain rfl : args = #[v0, v1, v2] := by cases args; simp_all
  obtain ⟨rfl, rfl⟩ := trodVars_none hV
  obtain ⟨a0, len0, cap0, rfl⟩ := okWide_slice Try.underlying22 (hval 0 22 v0 rfl rfl)
  have k0 := h0
  have lt0 : ∀ x ∈ p0, x.block < W.heap.size := by obtain ⟨m, hm⟩ := k0; exact DataW.trod_lt m _ _ _ hm
  obtain ⟨z0, w0⟩ : ∃ zs, ArgP W a0 len0 cap0 zs := by
    obtain ⟨fuel, hf⟩ := h0
    exact ArgP.of_trod Try.underlying22 Try.underlying57 (by kernel_rfl) rfl rfl (by kernel_rfl) (by kernel_rfl) Try.underlying3 Try.underlying3 hf
  obtain ⟨a1, rfl, rfl, rfl, w1⟩ := open_int Try.underlying3 (hval 1 3 v1 rfl rfl) h1
  obtain ⟨a2, len2, cap2, rfl⟩ := okWide_slice Try.underlying29 (hval 2 29 v2 rfl rfl)
  have k2 := h2
  have lt2 : ∀ x ∈ p2, x.block < W.heap.size := by obtain ⟨m, hm⟩ := k2; exact DataW.trod_lt m _ _ _ hm
  obtain ⟨z2, w2⟩ : ∃ zs, ArgI W a2 len2 cap2 zs := by
    obtain ⟨fuel, hf⟩ := h2
    rcases open_ints Try.underlying29 Try.underlying3 (by kernel_rfl) hf with ⟨hcs, _⟩ | ⟨x, l, c, zs, hcs, _, hl, hm, hz, _, hcell, hwz⟩
    · simp [Value.cells] at hcs
      obtain ⟨rfl, rfl, rfl⟩ := hcs
      exact ⟨[], rfl, Nat.le_refl _, Nat.zero_le _, fun n hn => by simp at hn, .inl rfl⟩
    · simp [Value.cells] at hcs
      obtain ⟨rfl, rfl, rfl⟩ := hcs
      exact ArgI.of_open hl hm (by simpa using hz) hcell hwz
  clear hA0 hval0
  simp only [List.append_nil] at hW'
  refine (walk a0 len0 cap0 z0 a1 w1 a2 len2 cap2 z2 W w0 w2).mono fun e W' ⟨he, bel⟩ => ?_
  subst he
  exact ⟨_, rfl, _, _, _, [], _, [], hW', trodAll_mk1 (shut_bool Try.underlying4 _), (trodAll_cons_mk (Below.trod laidOut (by kernel_rfl) (of_decide_eq_true (by kernel_rfl)) k0 bel lt0) (trodAll_cons_mk (shut_int Try.underlying3 w1) (trodAll_cons_mk (Below.trod laidOut (by kernel_rfl) (of_decide_eq_true (by kernel_rfl)) k2 bel lt2) trodAll_mk0))), rfl, bel.frame _, fun h => by cases h⟩

theorem over : Rows.fnExactWeightsOfTripsRow.holds Try.pinned (OpenSpec.ofChange Rows.fnExactWeightsOfTripsSpec) :=
  OpenClaim.holds_of_wide 8 Try.f8 rfl rfl rfl rfl rfl rfl rfl ⟨rfl, rfl, rfl, rfl, rfl⟩ rfl rfl rfl rfl rfl (by kernel_rfl) Try.func8 (by kernel_rfl)
    (of_decide_eq_true (by kernel_rfl)) (by unfold Func.isWrapper; first | (rw [if_pos (by decide +kernel)]; kernel_rfl) | (rw [if_neg (by decide +kernel)]; exact ⟨rfl, rfl⟩))
    (fun os started H enc _ => lifted os started H enc)

/-- The statement. -/
theorem proved : Rows.FnExactWeightsOfTripsSaid :=
  over
#print axioms proved
end Go.Proofs.Ytjocipddffillaa.fnExactWeightsOfTrips
