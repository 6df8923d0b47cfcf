/-
  'FnExactAddPlate' answers true at every argument and leaves its arguments as they were: the function of the program and its model give the same results.
-/
import Derived.Test.YtcmlojidcpomjaaRows
import Derived.WalkKit
import Derived.ProofKit
import Derived.OpenShut
import Derived.Lib.SmallJoins
import Derived.Carry
import Derived.Test.YtcmlojidcpomjaaPlJ
namespace Go.Proofs.Ytcmlojidcpomjaa.fnExactAddPlate
open Go.ChangeShapes Go.WideShapes Go.ChangeAt Go.RowKit Go.Joins
open Go.WideMaps Go.WideElems
open Go.ChangeMaps (setBlock shut_map_nil open_string shut_string keptBut_setBlock frozen?_setBlock heap_setBlock_same)
set_option linter.unusedVariables false
set_option linter.unusedSimpArgs false

theorem own : ownKnob Try.prog.godebug = none := by kernel_rfl
theorem laidOut : laidOutB Try.prog = true := by kernel_rfl

set_option maxRecDepth 100000 in
set_option maxHeartbeats 1000000 in
theorem walk (a0 : Option Addr) (len0 cap0 : Nat) (z0 : List Pi2) (a1x : Int) (wa1x : (Lit.int .i64 a1x).wf = true) (a1y : Int) (wa1y : (Lit.int .i64 a1y).wf = true) (w : World) (w0 : ArgP w a0 len0 cap0 z0) :
    Calls Try.prog 8 #[.slice a0 len0 cap0, .agg #[.int .i64 a1x, .int .i64 a1y]] w fun e w' => e = .returned (.bool true) ∧ Below w.heap.size w w' := by
  by_cases hsum : len0 ≤ 1048576
  case neg =>
    have wl : len0 ≤ maxLen := Nat.le_trans w0.2.1 w0.2.2.1
    have SZ := Lib.hid (fun (w : World) => Try.szPlateS w a0 len0 cap0 1048576 (by omega) (by omega) wl)
    rw [if_pos (by omega)] at SZ
    clear w0
    go_enter Try.func8, Try.ntmps8
    go_wp2_with (first | (go_at_call 22; refine (SZ.out _).mono ?_; rintro e w1 ⟨rfl, rfl⟩))
    go_ret
    exact ⟨rfl, Gr.below (by repeat (first | exact Gr.refl _ | refine Gr.alloc ?_ _ | refine Gr.trans ?_ (by assumption) | refine Gr.drew ?_ | refine Gr.drewN ?_ _ | refine Gr.grow ?_ _ | refine Gr.setCell ?_ (by (try simp); (try omega)) _))⟩
  have hl0 : len0 ≤ 1048576 := by omega
  have zl0 : (z0).length ≤ 1048576 := by have := w0.1; omega
  have HS := Lib.hid (fun (w : World) B v h => Try.sAddPlate w B v z0 a1x a1y zl0 h)
  have HI := Lib.hid (fun (w : World) B v h => Try.iAddPlate w B v z0 a1x a1y zl0 h)
  have hlen0 : (adV z0 (a1x, a1y)).length ≤ 1000000000 := by have := ad_len z0 (a1x, a1y); omega
  generalize adV z0 (a1x, a1y) = xs at *
  generalize adB z0 (a1x, a1y) = b at *
  have WA0 := Lib.hid w0
  have HL0 := Lib.hid hl0
  have wl0 : len0 ≤ maxLen := Nat.le_trans (WA0.out.2.1) (WA0.out.2.2.1)
  clear w0 hl0
  have SZ0 := Lib.hid (fun (w : World) => (Try.szPlateS w a0 len0 cap0 (1048576) (by omega) (by omega) wl0))
  rw [if_neg (by have := HL0.out; have := hsum; omega)] at SZ0
  obtain ⟨W0, hW0⟩ : ∃ W, W = (w.alloc (.cells #[.int .i64 a1x, .int .i64 a1y] 39)) := ⟨_, rfl⟩
  have B0 : Below w.heap.size w W0 := by subst hW0; exact Gr.below (by repeat (first | exact Gr.refl _ | refine Gr.alloc ?_ _ | refine Gr.trans ?_ (by assumption) | refine Gr.drew ?_ | refine Gr.drewN ?_ _ | refine Gr.grow ?_ _ | refine Gr.setCell ?_ (by (try simp); (try omega)) _))
  have s0 := B0.size
  have e0_0 : W0.cell? ⟨w.heap.size, 0, none⟩ = some (.int .i64 a1x) := by subst hW0; simp [go_sem]
  have e0_1 : W0.cell? ⟨w.heap.size, 1, none⟩ = some (.int .i64 a1y) := by subst hW0; simp [go_sem]
  have z0W : W0.heap.size = w.heap.size + 1 := by subst hW0; simp
  have HW := Lib.hid hW0
  clear hW0
  go_enter Try.func8, Try.ntmps8
  go_upto_region 5 with (first | (go_at_call_of 22 (Value.slice a0 len0 cap0); refine (SZ0.out _).mono ?_; rintro e w1 ⟨rfl, rfl⟩))
  rw [← HW.out]
  go_region_held3 (fun W' => W'.cell? ⟨w.heap.size, 0, none⟩ = some (.int .i64 a1x) ∧ W'.cell? ⟨w.heap.size, 1, none⟩ = some (.int .i64 a1y))
    ((first | exact two_k2 ⟨e0_0, e0_1⟩ (Below.drew (Below.refl _ _)) | exact ⟨e0_0, e0_1⟩ | exact two_k2 (by assumption) dA1 | exact two_k2 (by assumption) dB1.below | exact two_k2 (by assumption) dC1))
    ((first | (go_at_call 24; refine (Try.toPlateS _ _ _ _ _ HL0.out (WA0.out.below (by first | exact B0 | exact Below.drew B0))).mono ?_; rintro e wvA1 ⟨vA1, rfl, cA1, dA1⟩) | (go_at_call 25; refine (Try.toPlate _ _ _).mono ?_; rintro e wvB1 ⟨rfl, dB1⟩) | (go_at_call 32; refine (HS.out _ _ _ (OwnP.below cA1 dB1.below (Nat.le_refl _))).mono ?_; rintro e wvC1 ⟨vC1_0, rfl, cC1_0, dC1⟩)))
  have b1 := (show Below W0.heap.size W0 _ by first | exact dA1 | exact Below.trans (Below.drew (Below.refl _ _)) dA1)
  have s1 := b1.size
  have e1_0 := cell_k2 b1 e0_0
  have e1_1 := cell_k2 b1 e0_1
  clear e0_0 e0_1
  have B1 := B0.trans (b1.mono B0.size)
  have F1 := cA1
  have b2 := dB1.below
  have s2 := b2.size
  have e2_0 := cell_k2 b2 e1_0
  have e2_1 := cell_k2 b2 e1_1
  clear e1_0 e1_1
  have o2_1 := cA1.below b2 (Nat.le_refl _)
  have B2 := B1.trans (b2.mono B1.size)
  have b3 := dC1
  have s3 := b3.size
  have e3_0 := cell_k2 b3 e2_0
  have e3_1 := cell_k2 b3 e2_1
  clear e2_0 e2_1
  have o3_1 := o2_1.below b3 (Nat.le_refl _)
  have B3 := B2.trans (b3.mono B2.size)
  have F2 := cC1_0
  go_wp2_with fail
  refine (Try.toPlateS _ _ _ _ _ HL0.out (WA0.out.below B3)).mono ?_
  rintro e wv4 ⟨v4, rfl, c4, d4⟩
  have b4 := d4
  have s4 := b4.size
  have e4_0 := cell_k2 b4 e3_0
  have e4_1 := cell_k2 b4 e3_1
  clear e3_0 e3_1
  have o4_1 := o3_1.below b4 (Nat.le_refl _)
  have o4_2 := cC1_0.below b4 (Nat.le_refl _)
  have B4 := B3.trans (b4.mono B3.size)
  have F3 := c4
  go_wp2_with (first | (go_at_call 25; refine (Try.toPlate _ _ _).mono ?_; rintro e wvB5 ⟨rfl, dB5⟩) | (go_at_call 33; refine (HI.out _ _ _ (OwnP.below (by first | exact c4 | exact OwnP.below c4 (Below.drew (Below.refl _ _)) (Nat.le_refl _)) dB5.below (Nat.le_refl _))).mono ?_; rintro e wvC5 ⟨vC5_0, rfl, cC5_0, dC5⟩))
  have b5 := (show Below wv4.heap.size wv4 _ by first | exact dB5.below | exact Below.trans (Below.drew (Below.refl _ _)) dB5.below)
  have s5 := b5.size
  have e5_0 := cell_k2 b5 e4_0
  have e5_1 := cell_k2 b5 e4_1
  clear e4_0 e4_1
  have o5_1 := o4_1.below b5 (Nat.le_refl _)
  have o5_2 := o4_2.below b5 (Nat.le_refl _)
  have o5_3 := c4.below b5 (Nat.le_refl _)
  have B5 := B4.trans (b5.mono B4.size)
  have b6 := dC5
  have s6 := b6.size
  have e6_0 := cell_k2 b6 e5_0
  have e6_1 := cell_k2 b6 e5_1
  clear e5_0 e5_1
  have o6_1 := o5_1.below b6 (Nat.le_refl _)
  have o6_2 := o5_2.below b6 (Nat.le_refl _)
  have o6_3 := o5_3.below b6 (Nat.le_refl _)
  have B6 := B5.trans (b6.mono B5.size)
  have F4 := cC5_0
  refine (Try.eqPlateS _ _ _ _ _ _ cC5_0 o6_2).mono ?_
  rintro e wv7 ⟨rfl, d7⟩
  have b7 := d7.below
  have s7 := b7.size
  have e7_0 := cell_k2 b7 e6_0
  have e7_1 := cell_k2 b7 e6_1
  clear e6_0 e6_1
  have o7_1 := o6_1.below b7 (Nat.le_refl _)
  have o7_2 := o6_2.below b7 (Nat.le_refl _)
  have o7_3 := o6_3.below b7 (Nat.le_refl _)
  have o7_4 := cC5_0.below b7 (Nat.le_refl _)
  have B7 := B6.trans (b7.mono B6.size)
  go_wp2_with fail
  refine (Try.toPlateS _ _ _ _ _ HL0.out (WA0.out.below B7)).mono ?_
  rintro e wv8 ⟨v8, rfl, c8, d8⟩
  have b8 := d8
  have s8 := b8.size
  have e8_0 := cell_k2 b8 e7_0
  have e8_1 := cell_k2 b8 e7_1
  clear e7_0 e7_1
  have o8_1 := o7_1.below b8 (Nat.le_refl _)
  have o8_2 := o7_2.below b8 (Nat.le_refl _)
  have o8_3 := o7_3.below b8 (Nat.le_refl _)
  have o8_4 := o7_4.below b8 (Nat.le_refl _)
  have B8 := B7.trans (b8.mono B7.size)
  go_wp2_with fail
  refine (Try.eqPlateS _ _ _ _ _ _ o8_3 c8).mono ?_
  rintro e wv9 ⟨rfl, d9⟩
  have b9 := d9.below
  have s9 := b9.size
  have e9_0 := cell_k2 b9 e8_0
  have e9_1 := cell_k2 b9 e8_1
  clear e8_0 e8_1
  have o9_1 := o8_1.below b9 (Nat.le_refl _)
  have o9_2 := o8_2.below b9 (Nat.le_refl _)
  have o9_3 := o8_3.below b9 (Nat.le_refl _)
  have o9_4 := o8_4.below b9 (Nat.le_refl _)
  have o9_5 := c8.below b9 (Nat.le_refl _)
  have B9 := B8.trans (b9.mono B8.size)
  go_wp2_with fail
  refine (Try.markPlateS _ _ _ _ (1) (by omega) (by omega) (Nat.le_trans (by have := WA0.out.1; have := HL0.out; omega) (show 1048576 ≤ 1000000000 by decide)) o9_3).mono ?_
  rintro e wv10 ⟨rfl, c10, d10⟩
  have s10 := d10.size
  have o10_1 := o9_1.grown d10 (own_ne' F1 F3 (by omega))
  have o10_2 := o9_2.grown d10 (own_ne' F2 F3 (by omega))
  have o10_4 := o9_4.grown d10 (own_ne F4 F3 (by omega))
  have e10_0 := d10.cell e9_0 (fun e => by have := (World.ownsRow.lt F3 _ e.symm).1; (try simp at this); omega)
  have e10_1 := d10.cell e9_1 (fun e => by have := (World.ownsRow.lt F3 _ e.symm).1; (try simp at this); omega)
  clear e9_0 e9_1
  have b10 := Below.grown (Below.refl w.heap.size _) d10 (by omega) (fun j hj => by have := (World.ownsRow.lt F3 j hj).1; omega)
  have B10 := B9.trans b10
  have lz0 : ((z0).length : Int) ≤ 1048576 := by have := WA0.out.1; have := HL0.out; omega
  go_wp2_with fail
  refine (Try.eqPlateS _ _ _ _ _ _ o10_4 o10_2).mono ?_
  rintro e wv11 ⟨rfl, d11⟩
  have b11 := d11.below
  have s11 := b11.size
  have e11_0 := cell_k2 b11 e10_0
  have e11_1 := cell_k2 b11 e10_1
  clear e10_0 e10_1
  have o11_1 := o10_1.below b11 (Nat.le_refl _)
  have o11_2 := o10_2.below b11 (Nat.le_refl _)
  have o11_3 := c10.below b11 (Nat.le_refl _)
  have o11_4 := o10_4.below b11 (Nat.le_refl _)
  have B11 := B10.trans (b11.mono B10.size)
  go_wp2_with fail
  refine (Try.markPlateS _ _ _ _ (1) (by omega) (by omega) hlen0 o11_4).mono ?_
  rintro e wv12 ⟨rfl, c12, d12⟩
  have s12 := d12.size
  have o12_1 := o11_1.grown d12 (own_ne' F1 F4 (by omega))
  have o12_2 := o11_2.grown d12 (own_ne' F2 F4 (by omega))
  have o12_3 := o11_3.grown d12 (own_ne' F3 F4 (by omega))
  have e12_0 := d12.cell e11_0 (fun e => by have := (World.ownsRow.lt F4 _ e.symm).1; (try simp at this); omega)
  have e12_1 := d12.cell e11_1 (fun e => by have := (World.ownsRow.lt F4 _ e.symm).1; (try simp at this); omega)
  clear e11_0 e11_1
  have b12 := Below.grown (Below.refl w.heap.size _) d12 (by omega) (fun j hj => by have := (World.ownsRow.lt F4 j hj).1; omega)
  have B12 := B11.trans b12
  go_wp2_with fail
  refine (Try.heldPlateS _ _ _ _ (1) (by omega) (by omega) hlen0 c12).mono ?_
  rintro e wv13 ⟨rfl, rfl⟩
  go_upto_region 24 with fail
  go_region_held3 (fun W' => W'.cell? ⟨w.heap.size, 0, none⟩ = some (.int .i64 a1x) ∧ W'.cell? ⟨w.heap.size, 1, none⟩ = some (.int .i64 a1y))
    ((first | exact two_k2 ⟨e12_0, e12_1⟩ (Below.drew (Below.refl _ _)) | exact ⟨e12_0, e12_1⟩ | exact two_k2 (by assumption) dA14 | exact two_k2 (by assumption) dB14.below | exact two_k2 (by assumption) dC14))
    ((first | (go_at_call 24; refine (Try.toPlateS _ _ _ _ _ HL0.out (WA0.out.below (by first | exact B12 | exact Below.drew B12))).mono ?_; rintro e wvA14 ⟨vA14, rfl, cA14, dA14⟩) | (go_at_call 25; refine (Try.toPlate _ _ _).mono ?_; rintro e wvB14 ⟨rfl, dB14⟩) | (go_at_call 33; refine (HI.out _ _ _ (OwnP.below cA14 dB14.below (Nat.le_refl _))).mono ?_; rintro e wvC14 ⟨vC14_0, rfl, cC14_0, dC14⟩)))
  have b14 := (show Below wv12.heap.size wv12 _ by first | exact dA14 | exact Below.trans (Below.drew (Below.refl _ _)) dA14)
  have s14 := b14.size
  have e14_0 := cell_k2 b14 e12_0
  have e14_1 := cell_k2 b14 e12_1
  clear e12_0 e12_1
  have o14_1 := o12_1.below b14 (Nat.le_refl _)
  have o14_2 := o12_2.below b14 (Nat.le_refl _)
  have o14_3 := o12_3.below b14 (Nat.le_refl _)
  have o14_4 := c12.below b14 (Nat.le_refl _)
  have B14 := B12.trans (b14.mono B12.size)
  have F6 := cA14
  have b15 := dB14.below
  have s15 := b15.size
  have e15_0 := cell_k2 b15 e14_0
  have e15_1 := cell_k2 b15 e14_1
  clear e14_0 e14_1
  have o15_1 := o14_1.below b15 (Nat.le_refl _)
  have o15_2 := o14_2.below b15 (Nat.le_refl _)
  have o15_3 := o14_3.below b15 (Nat.le_refl _)
  have o15_4 := o14_4.below b15 (Nat.le_refl _)
  have o15_6 := cA14.below b15 (Nat.le_refl _)
  have B15 := B14.trans (b15.mono B14.size)
  have b16 := dC14
  have s16 := b16.size
  have e16_0 := cell_k2 b16 e15_0
  have e16_1 := cell_k2 b16 e15_1
  clear e15_0 e15_1
  have o16_1 := o15_1.below b16 (Nat.le_refl _)
  have o16_2 := o15_2.below b16 (Nat.le_refl _)
  have o16_3 := o15_3.below b16 (Nat.le_refl _)
  have o16_4 := o15_4.below b16 (Nat.le_refl _)
  have o16_6 := o15_6.below b16 (Nat.le_refl _)
  have B16 := B15.trans (b16.mono B15.size)
  have F7 := cC14_0
  go_wp2_with fail
  refine (Try.eqPlateS _ _ _ _ _ _ cC14_0 o16_2).mono ?_
  rintro e wv17 ⟨rfl, d17⟩
  have b17 := d17.below
  have s17 := b17.size
  have e17_0 := cell_k2 b17 e16_0
  have e17_1 := cell_k2 b17 e16_1
  clear e16_0 e16_1
  have o17_1 := o16_1.below b17 (Nat.le_refl _)
  have o17_2 := o16_2.below b17 (Nat.le_refl _)
  have o17_3 := o16_3.below b17 (Nat.le_refl _)
  have o17_4 := o16_4.below b17 (Nat.le_refl _)
  have o17_6 := o16_6.below b17 (Nat.le_refl _)
  have o17_7 := cC14_0.below b17 (Nat.le_refl _)
  have B17 := B16.trans (b17.mono B16.size)
  go_wp2_with fail
  refine (Try.heldPlateS _ _ _ _ (1) (by omega) (by omega) hlen0 o17_4).mono ?_
  rintro e wv18 ⟨rfl, rfl⟩
  go_wp2_with fail
  go_ret
  exact ⟨rfl, B17⟩

set_option maxRecDepth 100000 in
theorem lifted (os : Os) (started : os.Started) (H : Type) (enc : TypeId × Value → H) :
    ReturnsInHanded {} Try.checked os 8 .any (Rows.fnExactAddPlateSpec.pre6 enc Try.prog Try.f8 Rows.fnExactAddPlateRow.domain false) (Rows.fnExactAddPlateSpec.post enc Try.prog Try.f8 false true false false) := by
  refine returnsInHanded_of_change (C := Try.checked) own started (by kernel_rfl) Try.func8
    (ChangeSpec.witness6 (enc := enc) (C := Try.checked) false ⟨#[], #[.slice none 0 0, .agg #[.int .i64 0, .int .i64 0]], []⟩ 8 (by kernel_rfl) (by kernel_rfl) (by kernel_rfl) (by kernel_rfl)) ?_
  intro W base args ds gs before hval0 hW hcnd _
  have hval : ∀ (j : Nat) t v, Try.f8.params[j]? = some t → args[j]? = some v → Value.okWide Try.prog W .any base t v := hval0
  have hW' := hW
  obtain ⟨p, q, hA0, hV, rfl, hfz, hnd⟩ := hW
  have hA : DataW.TrodAll enc Try.prog W 0 (fun _ => true) true Try.f8.params.toList args.toList ds p := hA0
  rw [Try.params8] at hA hval
  obtain ⟨v0, vs0, d0, ds0, p0, q0, hargs, rfl, rfl, h0, r0⟩ := trodAll_cons hA
  obtain ⟨v1, vs1, d1, ds1, p1, q1, rfl, rfl, rfl, h1, r1⟩ := trodAll_cons r0
  obtain ⟨rfl, rfl, rfl⟩ := trodAll_nil r1
  obtain rfl : args = #[v0, v1] := by cases args; simp_all
  obtain ⟨rfl, rfl⟩ := trodVars_none hV
  obtain ⟨a0, len0, cap0, rfl⟩ := okWide_slice Try.underlying37 (hval 0 37 v0 rfl rfl)
  have k0 := h0
  have lt0 : ∀ x ∈ p0, x.block < W.heap.size := by obtain ⟨m, hm⟩ := k0; exact DataW.trod_lt m _ _ _ hm
  obtain ⟨z0, w0⟩ : ∃ zs, ArgP W a0 len0 cap0 zs := by
    obtain ⟨fuel, hf⟩ := h0
    exact ArgP.of_trod Try.underlying37 Try.underlying39 (by kernel_rfl) rfl rfl (by kernel_rfl) (by kernel_rfl) Try.underlying3 Try.underlying3 hf
  obtain ⟨c1x, c1y, y1x, y1y, m1, rfl, rfl, rfl, hy1x, hy1y⟩ := open_agg2 Try.underlying39 (by kernel_rfl) (show Try.prog.cellsOf 39 = 2 by kernel_rfl) (hval 1 39 v1 rfl rfl) h1
  obtain ⟨a1x, e1x, rfl, wa1x⟩ := DataW.trod_int Try.underlying3 hy1x
  obtain ⟨a1y, e1y, rfl, wa1y⟩ := DataW.trod_int Try.underlying3 hy1y
  simp at e1x e1y
  subst e1x e1y
  have sr1 : ∀ (W' : World) (sp : Nat → Bool), DataW.Trod enc Try.prog W' 0 sp true 39 (.agg #[.int .i64 a1x, .int .i64 a1y]) (.agg [.lit (.int .i64 a1x), .lit (.int .i64 a1y)]) [] := fun W' sp =>
    shut_agg2 (y0 := (.lit (.int .i64 a1x), [])) (y1 := (.lit (.int .i64 a1y), [])) Try.underlying39 (by kernel_rfl) (show Try.prog.cellsOf 39 = 2 by kernel_rfl) ⟨1, by simp [DataW.trod, Try.underlying3, wa1x]⟩ ⟨1, by simp [DataW.trod, Try.underlying3, wa1y]⟩
  clear hA0 hval0
  simp only [List.append_nil] at hW'
  refine (walk a0 len0 cap0 z0 a1x wa1x a1y wa1y W w0).mono fun e W' ⟨he, bel⟩ => ?_
  subst he
  exact ⟨_, rfl, _, _, _, [], _, [], hW', trodAll_mk1 (shut_bool Try.underlying4 _), (trodAll_cons_mk (Below.trod laidOut (by kernel_rfl) (of_decide_eq_true (by kernel_rfl)) k0 bel lt0) (trodAll_cons_mk (sr1 _ _) trodAll_mk0)), rfl, bel.frame _, fun h => by cases h⟩

theorem over : Rows.fnExactAddPlateRow.holds Try.pinned (OpenSpec.ofChange Rows.fnExactAddPlateSpec) :=
  OpenClaim.holds_of_wide 8 Try.f8 rfl rfl rfl rfl rfl rfl rfl ⟨rfl, rfl, rfl, rfl, rfl⟩ rfl rfl rfl rfl rfl (by kernel_rfl) Try.func8 (by kernel_rfl)
    (of_decide_eq_true (by kernel_rfl)) (by unfold Func.isWrapper; first | (rw [if_pos (by decide +kernel)]; kernel_rfl) | (rw [if_neg (by decide +kernel)]; exact ⟨rfl, rfl⟩))
    (fun os started H enc _ => lifted os started H enc)

/-- The statement. -/
theorem proved : Rows.FnExactAddPlateSaid :=
  over
#print axioms proved
end Go.Proofs.Ytcmlojidcpomjaa.fnExactAddPlate
