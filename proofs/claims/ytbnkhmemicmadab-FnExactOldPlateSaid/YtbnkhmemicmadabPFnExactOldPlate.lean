/-
  'FnExactOldPlate' answers true at every argument and leaves its arguments as they were: the function of the program and its model give the same results.
-/
import Derived.Test.YtbnkhmemicmadabRows
import Derived.WalkKit
import Derived.ProofKit
import Derived.OpenShut
import Derived.Lib.SmallJoins
import Derived.Carry
import Derived.Test.YtbnkhmemicmadabPlO
namespace Go.Proofs.Ytbnkhmemicmadab.fnExactOldPlate
open Go.ChangeShapes Go.WideShapes Go.ChangeAt Go.RowKit Go.Joins
open Go.WideMaps Go.WideElems
open Go.ChangeMaps (setBlock shut_map_nil open_string shut_string keptBut_setBlock frozen?_setBlock heap_setBlock_same)
set_option linter.unusedVariables false
set_option linter.unusedSimpArgs false

theorem own : ownKnob Try.prog.godebug = none := by kernel_rfl
theorem laidOut : laidOutB Try.prog = true := by kernel_rfl

set_option maxRecDepth 100000 in
set_option maxHeartbeats 1000000 in
theorem walk (a0 : Option Addr) (len0 cap0 : Nat) (z0 : List Pi2) (a1 : Int) (w1 : (Lit.int .i64 a1).wf = true) (w : World) (w0 : ArgP w a0 len0 cap0 z0) :
    Calls Try.prog 9 #[.slice a0 len0 cap0, .int .i64 a1] w fun e w' => e = .returned (.bool true) ∧ Below w.heap.size w w' := by
  by_cases hsum : len0 ≤ 1048576
  case neg =>
    have wl : len0 ≤ maxLen := Nat.le_trans w0.2.1 w0.2.2.1
    have SZ := Lib.hid (fun (w : World) => Try.szPlateS w a0 len0 cap0 1048576 (by omega) (by omega) wl)
    rw [if_pos (by omega)] at SZ
    clear w0
    go_enter Try.func9, Try.ntmps9
    go_wp2_with (first | (go_at_call 12; refine (SZ.out _).mono ?_; rintro e w1 ⟨rfl, rfl⟩))
    go_ret
    exact ⟨rfl, Gr.below (by repeat (first | exact Gr.refl _ | refine Gr.alloc ?_ _ | refine Gr.trans ?_ (by assumption) | refine Gr.drew ?_ | refine Gr.drewN ?_ _ | refine Gr.grow ?_ _ | refine Gr.setCell ?_ (by (try simp); (try omega)) _))⟩
  have hl0 : len0 ≤ 1048576 := by omega
  have zl0 : (z0).length ≤ 1048576 := by have := w0.1; omega
  have HS := Lib.hid (fun (w : World) B v h => Try.sOldPlate w B v z0 a1 zl0 h)
  have HI := Lib.hid (fun (w : World) B v h => Try.iOldPlate w B v z0 a1 zl0 h)
  generalize (opV z0 a1).1 = x0 at *
  generalize (opV z0 a1).2 = x1 at *
  generalize opB z0 a1 = b at *
  have WA0 := Lib.hid w0
  have HL0 := Lib.hid hl0
  have wl0 : len0 ≤ maxLen := Nat.le_trans (WA0.out.2.1) (WA0.out.2.2.1)
  clear w0 hl0
  have SZ0 := Lib.hid (fun (w : World) => (Try.szPlateS w a0 len0 cap0 (1048576) (by omega) (by omega) wl0))
  rw [if_neg (by have := HL0.out; have := hsum; omega)] at SZ0
  go_enter Try.func9, Try.ntmps9
  go_wp2_with (first | (go_at_call_of 12 (Value.slice a0 len0 cap0); refine (SZ0.out _).mono ?_; rintro e w1 ⟨rfl, rfl⟩))
  refine (Try.toPlateS _ _ _ _ _ HL0.out WA0.out).mono ?_
  rintro e wv1 ⟨v1, rfl, c1, d1⟩
  have b1 := d1
  have s1 := b1.size
  have B1 := b1
  have F1 := c1
  go_wp2_with fail
  refine (HS.out _ _ _ c1).mono ?_
  rintro e wv2 ⟨rfl, d2⟩
  have b2 := d2.below
  have s2 := b2.size
  have o2_1 := c1.below b2 (Nat.le_refl _)
  have B2 := B1.trans (b2.mono B1.size)
  have g3 := Gr.alloc (Gr.refl wv2) (.cells #[.int .i64 x0, .int .i64 x1] 34)
  have o3_1 := o2_1.gr g3
  have B3 := B2.trans (g3.below.mono B2.size)
  have e3_0 : (wv2.alloc (.cells #[.int .i64 x0, .int .i64 x1] 34)).cell? ⟨wv2.heap.size, 0, none⟩ = some (.int .i64 x0) := by simp [go_sem]
  have e3_1 : (wv2.alloc (.cells #[.int .i64 x0, .int .i64 x1] 34)).cell? ⟨wv2.heap.size, 1, none⟩ = some (.int .i64 x1) := by simp [go_sem]
  go_wp2_with fail
  refine (Try.toPlateS _ _ _ _ _ HL0.out (WA0.out.below B3)).mono ?_
  rintro e wv4 ⟨v4, rfl, c4, d4⟩
  have b4 := d4
  have s4 := b4.size
  have e4_0 := cell_k2 b4 e3_0
  have e4_1 := cell_k2 b4 e3_1
  clear e3_0 e3_1
  have o4_1 := o3_1.below b4 (Nat.le_refl _)
  have B4 := B3.trans (b4.mono B3.size)
  have F2 := c4
  go_wp2_with fail
  refine (HI.out _ _ _ c4).mono ?_
  rintro e wv5 ⟨rfl, d5⟩
  have b5 := d5.below
  have s5 := b5.size
  have e5_0 := cell_k2 b5 e4_0
  have e5_1 := cell_k2 b5 e4_1
  clear e4_0 e4_1
  have o5_1 := o4_1.below b5 (Nat.le_refl _)
  have o5_2 := c4.below b5 (Nat.le_refl _)
  have B5 := B4.trans (b5.mono B4.size)
  have g6 := Gr.alloc (Gr.refl wv5) (.cells #[.int .i64 x0, .int .i64 x1] 34)
  have o6_1 := o5_1.gr g6
  have o6_2 := o5_2.gr g6
  have B6 := B5.trans (g6.below.mono B5.size)
  have f6_0 := g6.keep0 e5_0
  have f6_1 := g6.keep0 e5_1
  clear e5_0 e5_1
  have e6_0 : (wv5.alloc (.cells #[.int .i64 x0, .int .i64 x1] 34)).cell? ⟨wv5.heap.size, 0, none⟩ = some (.int .i64 x0) := by simp [go_sem]
  have e6_1 : (wv5.alloc (.cells #[.int .i64 x0, .int .i64 x1] 34)).cell? ⟨wv5.heap.size, 1, none⟩ = some (.int .i64 x1) := by simp [go_sem]
  go_wp2_with fail
  refine (Try.eqPlate _ _ _).mono ?_
  rintro e wv7 ⟨rfl, d7⟩
  have b7 := d7.below
  have s7 := b7.size
  have e7_0 := cell_k2 b7 f6_0
  have e7_1 := cell_k2 b7 f6_1
  have e7_2 := cell_k2 b7 e6_0
  have e7_3 := cell_k2 b7 e6_1
  clear f6_0 f6_1 e6_0 e6_1
  have o7_1 := o6_1.below b7 (Nat.le_refl _)
  have o7_2 := o6_2.below b7 (Nat.le_refl _)
  have B7 := B6.trans (b7.mono B6.size)
  go_wp2_with fail
  refine (Try.toPlateS _ _ _ _ _ HL0.out (WA0.out.below B7)).mono ?_
  rintro e wv8 ⟨v8, rfl, c8, d8⟩
  have b8 := d8
  have s8 := b8.size
  have e8_0 := cell_k2 b8 e7_0
  have e8_1 := cell_k2 b8 e7_1
  have e8_2 := cell_k2 b8 e7_2
  have e8_3 := cell_k2 b8 e7_3
  clear e7_0 e7_1 e7_2 e7_3
  have o8_1 := o7_1.below b8 (Nat.le_refl _)
  have o8_2 := o7_2.below b8 (Nat.le_refl _)
  have B8 := B7.trans (b8.mono B7.size)
  go_wp2_with fail
  refine (Try.eqPlateS _ _ _ _ _ _ o8_2 c8).mono ?_
  rintro e wv9 ⟨rfl, d9⟩
  have b9 := d9.below
  have s9 := b9.size
  have e9_0 := cell_k2 b9 e8_0
  have e9_1 := cell_k2 b9 e8_1
  have e9_2 := cell_k2 b9 e8_2
  have e9_3 := cell_k2 b9 e8_3
  clear e8_0 e8_1 e8_2 e8_3
  have o9_1 := o8_1.below b9 (Nat.le_refl _)
  have o9_2 := o8_2.below b9 (Nat.le_refl _)
  have o9_3 := c8.below b9 (Nat.le_refl _)
  have B9 := B8.trans (b9.mono B8.size)
  go_wp2_with fail
  go_ret
  exact ⟨rfl, B9⟩

set_option maxRecDepth 100000 in
theorem lifted (os : Os) (started : os.Started) (H : Type) (enc : TypeId × Value → H) :
    ReturnsInHanded {} Try.checked os 9 .any (Rows.fnExactOldPlateSpec.pre6 enc Try.prog Try.f9 Rows.fnExactOldPlateRow.domain false) (Rows.fnExactOldPlateSpec.post enc Try.prog Try.f9 false true false false) := by
  refine returnsInHanded_of_change (C := Try.checked) own started (by kernel_rfl) Try.func9
    (ChangeSpec.witness6 (enc := enc) (C := Try.checked) false ⟨#[], #[.slice none 0 0, .int .i64 0], []⟩ 8 (by kernel_rfl) (by kernel_rfl) (by kernel_rfl) (by kernel_rfl)) ?_
  intro W base args ds gs before hval0 hW hcnd _
  have hval : ∀ (j : Nat) t v, Try.f9.params[j]? = some t → args[j]? = some v → Value.okWide Try.prog W .any base t v := hval0
  have hW' := hW
  obtain ⟨p, q, hA0, hV, rfl, hfz, hnd⟩ := hW
  have hA : DataW.TrodAll enc Try.prog W 0 (fun _ => true) true Try.f9.params.toList args.toList ds p := hA0
  rw [Try.params9] at hA hval
  obtain ⟨v0, vs0, d0, ds0, p0, q0, hargs, rfl, rfl, h0, r0⟩ := trodAll_cons hA
  obtain ⟨v1, vs1, d1, ds1, p1, q1, rfl, rfl, rfl, h1, r1⟩ := trodAll_cons r0
  obtain ⟨rfl, rfl, rfl⟩ := trodAll_nil r1
  obtain rfl : args = #[v0, v1] := by cases args; simp_all
  obtain ⟨rfl, rfl⟩ := trodVars_none hV
  obtain ⟨a0, len0, cap0, rfl⟩ := okWide_slice Try.underlying22 (hval 0 22 v0 rfl rfl)
  have k0 := h0
  have lt0 : ∀ x ∈ p0, x.block < W.heap.size := by obtain ⟨m, hm⟩ := k0; exact DataW.trod_lt m _ _ _ hm
  obtain ⟨z0, w0⟩ : ∃ zs, ArgP W a0 len0 cap0 zs := by
    obtain ⟨fuel, hf⟩ := h0
    exact ArgP.of_trod Try.underlying22 Try.underlying31 (by kernel_rfl) rfl rfl (by kernel_rfl) (by kernel_rfl) Try.underlying3 Try.underlying3 hf
  obtain ⟨a1, rfl, rfl, rfl, w1⟩ := open_int Try.underlying3 (hval 1 3 v1 rfl rfl) h1
  clear hA0 hval0
  simp only [List.append_nil] at hW'
  refine (walk a0 len0 cap0 z0 a1 w1 W w0).mono fun e W' ⟨he, bel⟩ => ?_
  subst he
  exact ⟨_, rfl, _, _, _, [], _, [], hW', trodAll_mk1 (shut_bool Try.underlying4 _), (trodAll_cons_mk (Below.trod laidOut (by kernel_rfl) (of_decide_eq_true (by kernel_rfl)) k0 bel lt0) (trodAll_cons_mk (shut_int Try.underlying3 w1) trodAll_mk0)), rfl, bel.frame _, fun h => by cases h⟩

theorem over : Rows.fnExactOldPlateRow.holds Try.pinned (OpenSpec.ofChange Rows.fnExactOldPlateSpec) :=
  OpenClaim.holds_of_wide 9 Try.f9 rfl rfl rfl rfl rfl rfl rfl ⟨rfl, rfl, rfl, rfl, rfl⟩ rfl rfl rfl rfl rfl (by kernel_rfl) Try.func9 (by kernel_rfl)
    (of_decide_eq_true (by kernel_rfl)) (by unfold Func.isWrapper; first | (rw [if_pos (by decide +kernel)]; kernel_rfl) | (rw [if_neg (by decide +kernel)]; exact ⟨rfl, rfl⟩))
    (fun os started H enc _ => lifted os started H enc)

/-- The statement. -/
theorem proved : Rows.FnExactOldPlateSaid :=
  over
#print axioms proved
end Go.Proofs.Ytbnkhmemicmadab.fnExactOldPlate
