/-
  'FnExactBoxOfEach' answers true at every argument and leaves its arguments as they were: the function of the program and its model give the same results.
-/
import Derived.Test.YtkhjjafeoijaaaaRows
import Derived.WalkKit
import Derived.ProofKit
import Derived.OpenShut
import Derived.Lib.SmallJoins
import Derived.Carry
import Derived.Test.YtkhjjafeoijaaaaArgs
import Derived.Test.YtkhjjafeoijaaaaInts2
import Derived.Test.YtkhjjafeoijaaaaMdK
import Derived.Test.YtkhjjafeoijaaaaMdW
namespace Go.Proofs.Ytkhjjafeoijaaaa.fnExactBoxOfEach
open Go.ChangeShapes Go.WideShapes Go.ChangeAt Go.RowKit Go.Joins
open Go.WideMaps Go.WideElems
open Go.ChangeMaps (setBlock shut_map_nil open_string shut_string keptBut_setBlock frozen?_setBlock heap_setBlock_same)
set_option linter.unusedVariables false
set_option linter.unusedSimpArgs false

theorem own : ownKnob Try.prog.godebug = none := by kernel_rfl
theorem laidOut : laidOutB Try.prog = true := by kernel_rfl

set_option maxRecDepth 100000 in
set_option maxHeartbeats 1000000 in
theorem walk (a0 : Option Addr) (len0 cap0 : Nat) (z0 : List Int) (a1 : Option Addr) (len1 cap1 : Nat) (z1 : List Int) (w : World) (w0 : ArgI w a0 len0 cap0 z0) (w1 : ArgI w a1 len1 cap1 z1) :
    Calls Try.prog 4 #[.slice a0 len0 cap0, .slice a1 len1 cap1] w fun e w' => e = .returned (.bool true) ∧ Below w.heap.size w w' := by
  by_cases hl0 : len0 ≤ 1048576
  case neg =>
    have hz0 : (1048576 : Int) < (len0 : Int) := by omega
    clear w0 w1
    go_enter Try.func4, Try.ntmps4
    go_wp2
    go_ret
    exact ⟨rfl, Gr.below (by repeat (first | exact Gr.refl _ | refine Gr.alloc ?_ _ | refine Gr.trans ?_ (by assumption) | refine Gr.drew ?_ | refine Gr.drewN ?_ _ | refine Gr.grow ?_ _ | refine Gr.setCell ?_ (by (try simp); (try omega)) _))⟩
  by_cases hl1 : len1 ≤ 1048576
  case neg =>
    have hz1 : (1048576 : Int) < (len1 : Int) := by omega
    have hz0 : ¬ (1048576 : Int) < (len0 : Int) := by omega
    clear w0 w1
    go_enter Try.func4, Try.ntmps4
    go_wp2
    go_ret
    exact ⟨rfl, Gr.below (by repeat (first | exact Gr.refl _ | refine Gr.alloc ?_ _ | refine Gr.trans ?_ (by assumption) | refine Gr.drew ?_ | refine Gr.drewN ?_ _ | refine Gr.grow ?_ _ | refine Gr.setCell ?_ (by (try simp); (try omega)) _))⟩
  have hz0 : ¬ (1048576 : Int) < (len0 : Int) := by omega
  have hz1 : ¬ (1048576 : Int) < (len1 : Int) := by omega
  have zl0 : (z0).length ≤ 1048576 := by have := w0.1; omega
  have zl1 : (z1).length ≤ 1048576 := by have := w1.1; omega
  obtain ⟨b, hb⟩ := exb (BoxesP z0 z1)
  have HS := Lib.hid (fun (w : World) B0 v0 h0 B1 v1 h1 => Try.sBoxOfEach w B0 B1 v0 v1 z0 z1  b hb zl0 zl1 h0 h1)
  have HI := Lib.hid (fun (w : World) B0 v0 h0 B1 v1 h1 => Try.iBoxOfEach w B0 B1 v0 v1 z0 z1  b hb zl0 zl1 h0 h1)
  have hlen0 : ((if b = true then boxList z0 z1 else [])).length ≤ 1000000000 := ifl b _ (by simp [boxList, tbl]; omega)
  generalize (if b = true then boxList z0 z1 else []) = xs at *
  have WA0 := Lib.hid w0
  have WA1 := Lib.hid w1
  have HL0 := Lib.hid hl0
  have HL1 := Lib.hid hl1
  have wl0 : len0 ≤ maxLen := Nat.le_trans (WA0.out.2.1) (WA0.out.2.2.1)
  have wl1 : len1 ≤ maxLen := Nat.le_trans (WA1.out.2.1) (WA1.out.2.2.1)
  clear w0 hl0 w1 hl1
  go_enter Try.func4, Try.ntmps4
  go_wp2_with fail
  refine (Try.toIntS _ _ _ _ _ HL0.out WA0.out).mono ?_
  rintro e wv1 ⟨v1, rfl, c1, d1⟩
  have b1 := d1
  have s1 := b1.size
  have B1 := b1
  clear b1
  have F1 := c1
  go_wp2_with fail
  refine (Try.toIntS _ _ _ _ _ HL1.out (WA1.out.below B1)).mono ?_
  rintro e wv2 ⟨v2, rfl, c2, d2⟩
  have b2 := d2
  have s2 := b2.size
  have o2_1 := c1.below b2 (Nat.le_refl _)
  have B2 := B1.trans (b2.mono B1.size)
  clear c1 B1 b2
  have F2 := c2
  go_wp2_with fail
  refine (HS.out _ _ _ o2_1 _ _ c2).mono ?_
  rintro e wv3 ⟨v3_0, rfl, c3_0, d3⟩
  have b3 := d3
  have s3 := b3.size
  have o3_1 := o2_1.below b3 (Nat.le_refl _)
  have o3_2 := c2.below b3 (Nat.le_refl _)
  have B3 := B2.trans (b3.mono B2.size)
  clear o2_1 c2 B2 b3
  have F3 := c3_0
  go_wp2_with fail
  refine (Try.toIntS _ _ _ _ _ HL0.out (WA0.out.below B3)).mono ?_
  rintro e wv4 ⟨v4, rfl, c4, d4⟩
  have b4 := d4
  have s4 := b4.size
  have o4_1 := o3_1.below b4 (Nat.le_refl _)
  have o4_2 := o3_2.below b4 (Nat.le_refl _)
  have o4_3 := c3_0.below b4 (Nat.le_refl _)
  have B4 := B3.trans (b4.mono B3.size)
  clear o3_1 o3_2 c3_0 B3 b4
  have F4 := c4
  go_wp2_with fail
  refine (Try.toIntS _ _ _ _ _ HL1.out (WA1.out.below B4)).mono ?_
  rintro e wv5 ⟨v5, rfl, c5, d5⟩
  have b5 := d5
  have s5 := b5.size
  have o5_1 := o4_1.below b5 (Nat.le_refl _)
  have o5_2 := o4_2.below b5 (Nat.le_refl _)
  have o5_3 := o4_3.below b5 (Nat.le_refl _)
  have o5_4 := c4.below b5 (Nat.le_refl _)
  have B5 := B4.trans (b5.mono B4.size)
  clear o4_1 o4_2 o4_3 c4 B4 b5
  have F5 := c5
  go_wp2_with fail
  refine (HI.out _ _ _ o5_4 _ _ c5).mono ?_
  rintro e wv6 ⟨v6_0, rfl, c6_0, d6⟩
  have b6 := d6
  have s6 := b6.size
  have o6_1 := o5_1.below b6 (Nat.le_refl _)
  have o6_2 := o5_2.below b6 (Nat.le_refl _)
  have o6_3 := o5_3.below b6 (Nat.le_refl _)
  have o6_4 := o5_4.below b6 (Nat.le_refl _)
  have o6_5 := c5.below b6 (Nat.le_refl _)
  have B6 := B5.trans (b6.mono B5.size)
  clear o5_1 o5_2 o5_3 o5_4 c5 B5 b6
  have F6 := c6_0
  go_wp2_with fail
  refine (Try.eqIntS _ _ _ _ _ _ c6_0 o6_3).mono ?_
  rintro e wv7 ⟨rfl, d7⟩
  have b7 := d7.below
  have s7 := b7.size
  have o7_1 := o6_1.below b7 (Nat.le_refl _)
  have o7_2 := o6_2.below b7 (Nat.le_refl _)
  have o7_3 := o6_3.below b7 (Nat.le_refl _)
  have o7_4 := o6_4.below b7 (Nat.le_refl _)
  have o7_5 := o6_5.below b7 (Nat.le_refl _)
  have o7_6 := c6_0.below b7 (Nat.le_refl _)
  have B7 := B6.trans (b7.mono B6.size)
  clear o6_1 o6_2 o6_3 o6_4 o6_5 c6_0 B6 b7
  go_wp2_with fail
  refine (Try.toIntS _ _ _ _ _ HL0.out (WA0.out.below B7)).mono ?_
  rintro e wv8 ⟨v8, rfl, c8, d8⟩
  have b8 := d8
  have s8 := b8.size
  have o8_1 := o7_1.below b8 (Nat.le_refl _)
  have o8_2 := o7_2.below b8 (Nat.le_refl _)
  have o8_3 := o7_3.below b8 (Nat.le_refl _)
  have o8_4 := o7_4.below b8 (Nat.le_refl _)
  have o8_5 := o7_5.below b8 (Nat.le_refl _)
  have o8_6 := o7_6.below b8 (Nat.le_refl _)
  have B8 := B7.trans (b8.mono B7.size)
  clear o7_1 o7_2 o7_3 o7_4 o7_5 o7_6 B7 b8
  go_wp2_with fail
  refine (Try.eqIntS _ _ _ _ _ _ o8_4 c8).mono ?_
  rintro e wv9 ⟨rfl, d9⟩
  have b9 := d9.below
  have s9 := b9.size
  have o9_1 := o8_1.below b9 (Nat.le_refl _)
  have o9_2 := o8_2.below b9 (Nat.le_refl _)
  have o9_3 := o8_3.below b9 (Nat.le_refl _)
  have o9_4 := o8_4.below b9 (Nat.le_refl _)
  have o9_5 := o8_5.below b9 (Nat.le_refl _)
  have o9_6 := o8_6.below b9 (Nat.le_refl _)
  have o9_7 := c8.below b9 (Nat.le_refl _)
  have B9 := B8.trans (b9.mono B8.size)
  clear o8_1 o8_2 o8_3 o8_4 o8_5 o8_6 c8 B8 b9
  go_wp2_with fail
  refine (Try.toIntS _ _ _ _ _ HL1.out (WA1.out.below B9)).mono ?_
  rintro e wv10 ⟨v10, rfl, c10, d10⟩
  have b10 := d10
  have s10 := b10.size
  have o10_1 := o9_1.below b10 (Nat.le_refl _)
  have o10_2 := o9_2.below b10 (Nat.le_refl _)
  have o10_3 := o9_3.below b10 (Nat.le_refl _)
  have o10_4 := o9_4.below b10 (Nat.le_refl _)
  have o10_5 := o9_5.below b10 (Nat.le_refl _)
  have o10_6 := o9_6.below b10 (Nat.le_refl _)
  have B10 := B9.trans (b10.mono B9.size)
  clear o9_1 o9_2 o9_3 o9_4 o9_5 o9_6 B9 b10
  go_wp2_with fail
  refine (Try.eqIntS _ _ _ _ _ _ o10_5 c10).mono ?_
  rintro e wv11 ⟨rfl, d11⟩
  have b11 := d11.below
  have s11 := b11.size
  have o11_1 := o10_1.below b11 (Nat.le_refl _)
  have o11_2 := o10_2.below b11 (Nat.le_refl _)
  have o11_3 := o10_3.below b11 (Nat.le_refl _)
  have o11_4 := o10_4.below b11 (Nat.le_refl _)
  have o11_5 := o10_5.below b11 (Nat.le_refl _)
  have o11_6 := o10_6.below b11 (Nat.le_refl _)
  have o11_8 := c10.below b11 (Nat.le_refl _)
  have B11 := B10.trans (b11.mono B10.size)
  clear o10_1 o10_2 o10_3 o10_4 o10_5 o10_6 c10 B10 b11
  go_wp2_with fail
  refine (Try.markIntM _ _ _ _ (1) (by omega) (by omega) (Nat.le_trans (by have := WA0.out.1; have := HL0.out; omega) (show 1048576 ≤ 1000000000 by decide)) o11_4).mono ?_
  rintro e wv12 ⟨rfl, c12, d12⟩
  have s12 := d12.size
  have o12_1 := o11_1.grown d12 (own_ne' F1 F4 (by omega))
  have o12_2 := o11_2.grown d12 (own_ne' F2 F4 (by omega))
  have o12_3 := o11_3.grown d12 (own_ne' F3 F4 (by omega))
  have o12_5 := o11_5.grown d12 (own_ne F5 F4 (by omega))
  have o12_6 := o11_6.grown d12 (own_ne F6 F4 (by omega))
  have b12 := Below.grown (Below.refl w.heap.size _) d12 (by omega) (fun j hj => by have := (World.ownsRow.lt F4 j hj).1; omega)
  have B12 := B11.trans b12
  have lz0 : ((z0).length : Int) ≤ 1048576 := by have := WA0.out.1; have := HL0.out; omega
  go_wp2_with fail
  refine (Try.markIntM _ _ _ _ (1 + ((z0).length : Int)) (by omega) (by omega) (Nat.le_trans (by have := WA1.out.1; have := HL1.out; omega) (show 1048576 ≤ 1000000000 by decide)) o12_5).mono ?_
  rintro e wv13 ⟨rfl, c13, d13⟩
  have s13 := d13.size
  have o13_1 := o12_1.grown d13 (own_ne' F1 F5 (by omega))
  have o13_2 := o12_2.grown d13 (own_ne' F2 F5 (by omega))
  have o13_3 := o12_3.grown d13 (own_ne' F3 F5 (by omega))
  have o13_4 := c12.grown d13 (own_ne' F4 F5 (by omega))
  have o13_6 := o12_6.grown d13 (own_ne F6 F5 (by omega))
  have b13 := Below.grown (Below.refl w.heap.size _) d13 (by omega) (fun j hj => by have := (World.ownsRow.lt F5 j hj).1; omega)
  have B13 := B12.trans b13
  have lz1 : ((z1).length : Int) ≤ 1048576 := by have := WA1.out.1; have := HL1.out; omega
  go_wp2_with fail
  refine (Try.eqIntS _ _ _ _ _ _ o13_6 o13_3).mono ?_
  rintro e wv14 ⟨rfl, d14⟩
  have b14 := d14.below
  have s14 := b14.size
  have o14_1 := o13_1.below b14 (Nat.le_refl _)
  have o14_2 := o13_2.below b14 (Nat.le_refl _)
  have o14_3 := o13_3.below b14 (Nat.le_refl _)
  have o14_4 := o13_4.below b14 (Nat.le_refl _)
  have o14_5 := c13.below b14 (Nat.le_refl _)
  have o14_6 := o13_6.below b14 (Nat.le_refl _)
  have B14 := B13.trans (b14.mono B13.size)
  clear o13_1 o13_2 o13_3 o13_4 c13 o13_6 B13 b14
  go_wp2_with fail
  refine (Try.markIntM _ _ _ _ (1) (by omega) (by omega) hlen0 o14_6).mono ?_
  rintro e wv15 ⟨rfl, c15, d15⟩
  have s15 := d15.size
  have o15_1 := o14_1.grown d15 (own_ne' F1 F6 (by omega))
  have o15_2 := o14_2.grown d15 (own_ne' F2 F6 (by omega))
  have o15_3 := o14_3.grown d15 (own_ne' F3 F6 (by omega))
  have o15_4 := o14_4.grown d15 (own_ne' F4 F6 (by omega))
  have o15_5 := o14_5.grown d15 (own_ne' F5 F6 (by omega))
  have b15 := Below.grown (Below.refl w.heap.size _) d15 (by omega) (fun j hj => by have := (World.ownsRow.lt F6 j hj).1; omega)
  have B15 := B14.trans b15
  go_wp2_with fail
  refine (Try.heldIntM _ _ _ _ (1) (by omega) (by omega) hlen0 c15).mono ?_
  rintro e wv16 ⟨rfl, rfl⟩
  go_wp2_with fail
  refine (Try.toIntS _ _ _ _ _ HL0.out (WA0.out.below B15)).mono ?_
  rintro e wv17 ⟨v17, rfl, c17, d17⟩
  have b17 := d17
  have s17 := b17.size
  have o17_1 := o15_1.below b17 (Nat.le_refl _)
  have o17_2 := o15_2.below b17 (Nat.le_refl _)
  have o17_3 := o15_3.below b17 (Nat.le_refl _)
  have o17_4 := o15_4.below b17 (Nat.le_refl _)
  have o17_5 := o15_5.below b17 (Nat.le_refl _)
  have o17_6 := c15.below b17 (Nat.le_refl _)
  have B17 := B15.trans (b17.mono B15.size)
  clear o15_1 o15_2 o15_3 o15_4 o15_5 c15 B15 b17
  have F9 := c17
  go_wp2_with fail
  refine (Try.toIntS _ _ _ _ _ HL1.out (WA1.out.below B17)).mono ?_
  rintro e wv18 ⟨v18, rfl, c18, d18⟩
  have b18 := d18
  have s18 := b18.size
  have o18_1 := o17_1.below b18 (Nat.le_refl _)
  have o18_2 := o17_2.below b18 (Nat.le_refl _)
  have o18_3 := o17_3.below b18 (Nat.le_refl _)
  have o18_4 := o17_4.below b18 (Nat.le_refl _)
  have o18_5 := o17_5.below b18 (Nat.le_refl _)
  have o18_6 := o17_6.below b18 (Nat.le_refl _)
  have o18_9 := c17.below b18 (Nat.le_refl _)
  have B18 := B17.trans (b18.mono B17.size)
  clear o17_1 o17_2 o17_3 o17_4 o17_5 o17_6 c17 B17 b18
  have F10 := c18
  go_wp2_with fail
  refine (HI.out _ _ _ o18_9 _ _ c18).mono ?_
  rintro e wv19 ⟨v19_0, rfl, c19_0, d19⟩
  have b19 := d19
  have s19 := b19.size
  have o19_1 := o18_1.below b19 (Nat.le_refl _)
  have o19_2 := o18_2.below b19 (Nat.le_refl _)
  have o19_3 := o18_3.below b19 (Nat.le_refl _)
  have o19_4 := o18_4.below b19 (Nat.le_refl _)
  have o19_5 := o18_5.below b19 (Nat.le_refl _)
  have o19_6 := o18_6.below b19 (Nat.le_refl _)
  have o19_9 := o18_9.below b19 (Nat.le_refl _)
  have o19_10 := c18.below b19 (Nat.le_refl _)
  have B19 := B18.trans (b19.mono B18.size)
  clear o18_1 o18_2 o18_3 o18_4 o18_5 o18_6 o18_9 c18 B18 b19
  go_wp2_with fail
  refine (Try.eqIntS _ _ _ _ _ _ c19_0 o19_3).mono ?_
  rintro e wv20 ⟨rfl, d20⟩
  have b20 := d20.below
  have s20 := b20.size
  have o20_1 := o19_1.below b20 (Nat.le_refl _)
  have o20_2 := o19_2.below b20 (Nat.le_refl _)
  have o20_3 := o19_3.below b20 (Nat.le_refl _)
  have o20_4 := o19_4.below b20 (Nat.le_refl _)
  have o20_5 := o19_5.below b20 (Nat.le_refl _)
  have o20_6 := o19_6.below b20 (Nat.le_refl _)
  have o20_9 := o19_9.below b20 (Nat.le_refl _)
  have o20_10 := o19_10.below b20 (Nat.le_refl _)
  have o20_11 := c19_0.below b20 (Nat.le_refl _)
  have B20 := B19.trans (b20.mono B19.size)
  clear o19_1 o19_2 o19_3 o19_4 o19_5 o19_6 o19_9 o19_10 c19_0 B19 b20
  go_wp2_with fail
  refine (Try.heldIntM _ _ _ _ (1) (by omega) (by omega) hlen0 o20_6).mono ?_
  rintro e wv21 ⟨rfl, rfl⟩
  go_wp2_with fail
  go_ret
  exact ⟨rfl, B20⟩

set_option maxRecDepth 100000 in
theorem lifted (os : Os) (started : os.Started) (H : Type) (enc : TypeId × Value → H) :
    ReturnsInHanded {} Try.checked os 4 .any (Rows.fnExactBoxOfEachSpec.pre6 enc Try.prog Try.f4 Rows.fnExactBoxOfEachRow.domain false) (Rows.fnExactBoxOfEachSpec.post enc Try.prog Try.f4 false true false false) := by
  refine returnsInHanded_of_change (C := Try.checked) own started (by kernel_rfl) Try.func4
    (ChangeSpec.witness6 (enc := enc) (C := Try.checked) false ⟨#[], #[.slice none 0 0, .slice none 0 0], []⟩ 8 (by kernel_rfl) (by kernel_rfl) (by kernel_rfl) (by kernel_rfl)) ?_
  intro W base args ds gs before hval0 hW hcnd _
  have hval : ∀ (j : Nat) t v, Try.f4.params[j]? = some t → args[j]? = some v → Value.okWide Try.prog W .any base t v := hval0
  have hW' := hW
  obtain ⟨p, q, hA0, hV, rfl, hfz, hnd⟩ := hW
  have hA : DataW.TrodAll enc Try.prog W 0 (fun _ => true) true Try.f4.params.toList args.toList ds p := hA0
  rw [Try.params4] at hA hval
  obtain ⟨v0, vs0, d0, ds0, p0, q0, hargs, rfl, rfl, h0, r0⟩ := trodAll_cons hA
  obtain ⟨v1, vs1, d1, ds1, p1, q1, rfl, rfl, rfl, h1, r1⟩ := trodAll_cons r0
  obtain ⟨rfl, rfl, rfl⟩ := trodAll_nil r1
  obtain rfl : args = #[v0, v1] := by cases args; simp_all
  obtain ⟨rfl, rfl⟩ := trodVars_none hV
  obtain ⟨a0, len0, cap0, rfl⟩ := okWide_slice Try.underlying22 (hval 0 22 v0 rfl rfl)
  have k0 := h0
  have lt0 : ∀ x ∈ p0, x.block < W.heap.size := by obtain ⟨m, hm⟩ := k0; exact DataW.trod_lt m _ _ _ hm
  obtain ⟨z0, w0⟩ : ∃ zs, ArgI W a0 len0 cap0 zs := by
    obtain ⟨fuel, hf⟩ := h0
    rcases open_ints Try.underlying22 Try.underlying3 (by kernel_rfl) hf with ⟨hcs, _⟩ | ⟨x, l, c, zs, hcs, _, hl, hm, hz, _, hcell, hwz⟩
    · simp [Value.cells] at hcs
      obtain ⟨rfl, rfl, rfl⟩ := hcs
      exact ⟨[], rfl, Nat.le_refl _, Nat.zero_le _, fun n hn => by simp at hn, .inl rfl⟩
    · simp [Value.cells] at hcs
      obtain ⟨rfl, rfl, rfl⟩ := hcs
      exact ArgI.of_open hl hm (by simpa using hz) hcell hwz
  obtain ⟨a1, len1, cap1, rfl⟩ := okWide_slice Try.underlying22 (hval 1 22 v1 rfl rfl)
  have k1 := h1
  have lt1 : ∀ x ∈ p1, x.block < W.heap.size := by obtain ⟨m, hm⟩ := k1; exact DataW.trod_lt m _ _ _ hm
  obtain ⟨z1, w1⟩ : ∃ zs, ArgI W a1 len1 cap1 zs := by
    obtain ⟨fuel, hf⟩ := h1
    rcases open_ints Try.underlying22 Try.underlying3 (by kernel_rfl) hf with ⟨hcs, _⟩ | ⟨x, l, c, zs, hcs, _, hl, hm, hz, _, hcell, hwz⟩
    · simp [Value.cells] at hcs
      obtain ⟨rfl, rfl, rfl⟩ := hcs
      exact ⟨[], rfl, Nat.le_refl _, Nat.zero_le _, fun n hn => by simp at hn, .inl rfl⟩
    · simp [Value.cells] at hcs
      obtain ⟨rfl, rfl, rfl⟩ := hcs
      exact ArgI.of_open hl hm (by simpa using hz) hcell hwz
  clear hA0 hval0
  simp only [List.append_nil] at hW'
  refine (walk a0 len0 cap0 z0 a1 len1 cap1 z1 W w0 w1).mono fun e W' ⟨he, bel⟩ => ?_
  subst he
  exact ⟨_, rfl, _, _, _, [], _, [], hW', trodAll_mk1 (shut_bool Try.underlying4 _), (trodAll_cons_mk (Below.trod laidOut (by kernel_rfl) (of_decide_eq_true (by kernel_rfl)) k0 bel lt0) (trodAll_cons_mk (Below.trod laidOut (by kernel_rfl) (of_decide_eq_true (by kernel_rfl)) k1 bel lt1) trodAll_mk0)), rfl, bel.frame _, fun h => by cases h⟩

theorem over : Rows.fnExactBoxOfEachRow.holds Try.pinned (OpenSpec.ofChange Rows.fnExactBoxOfEachSpec) :=
  OpenClaim.holds_of_wide 4 Try.f4 rfl rfl rfl rfl rfl rfl rfl ⟨rfl, rfl, rfl, rfl, rfl⟩ rfl rfl rfl rfl rfl (by kernel_rfl) Try.func4 (by kernel_rfl)
    (of_decide_eq_true (by kernel_rfl)) (by unfold Func.isWrapper; first | (rw [if_pos (by decide +kernel)]; kernel_rfl) | (rw [if_neg (by decide +kernel)]; exact ⟨rfl, rfl⟩))
    (fun os started H enc _ => lifted os started H enc)

/-- The statement. -/
theorem proved : Rows.FnExactBoxOfEachSaid :=
  over
#print axioms proved
end Go.Proofs.Ytkhjjafeoijaaaa.fnExactBoxOfEach
