/-
  'FnExactMiddlePlate' answers true at every argument and leaves its arguments as they were: the function of the program and its model give the same results.
-/
import Derived.Test.YtbnkhmemicmadaaRows
import Derived.WalkKit
import Derived.ProofKit
import Derived.OpenShut
import Derived.Lib.SmallJoins
import Derived.Carry
import Derived.Test.YtbnkhmemicmadaaPlM
import Derived.Deep.DeepCutAuto
import Derived.Deep.RegionHeld3
namespace Go.Proofs.Ytbnkhmemicmadaa.fnExactMiddlePlate
open Go.ChangeShapes Go.WideShapes Go.ChangeAt Go.RowKit Go.Joins
open Go.WideMaps Go.WideElems
open Go.ChangeMaps (setBlock shut_map_nil open_string shut_string keptBut_setBlock frozen?_setBlock heap_setBlock_same)
set_option linter.unusedVariables false
set_option linter.unusedSimpArgs false

theorem own : ownKnob Try.prog.godebug = none := by kernel_rfl

def S4 (a b c d : Int) (n : Nat) (W' : World) : Prop := W'.cell? ⟨n, 0, none⟩ = some (.int .i64 a) ∧ W'.cell? ⟨n, 1, none⟩ = some (.int .i64 b) ∧ W'.cell? ⟨n + 1, 0, none⟩ = some (.int .i64 c) ∧ W'.cell? ⟨n + 1, 1, none⟩ = some (.int .i64 d)
theorem s4_keep {a b c d : Int} {n : Nat} {w W' : World} (h : S4 a b c d n w) (g : Gr w W') : S4 a b c d n W' := ⟨g.keep0 h.1, g.keep0 h.2.1, g.keep0 h.2.2.1, g.keep0 h.2.2.2⟩
set_option maxRecDepth 100000 in
set_option maxHeartbeats 1000000 in
theorem walk (a0x : Int) (wa0x : (Lit.int .i64 a0x).wf = true) (a0y : Int) (wa0y : (Lit.int .i64 a0y).wf = true) (a1x : Int) (wa1x : (Lit.int .i64 a1x).wf = true) (a1y : Int) (wa1y : (Lit.int .i64 a1y).wf = true) (w : World) :
    Calls Try.prog 11 #[.agg #[.int .i64 a0x, .int .i64 a0y], .agg #[.int .i64 a1x, .int .i64 a1y]] w fun e w' => e = .returned (.bool true) ∧ Below w.heap.size w w' := by
  have HS := Lib.hid (fun w => Try.sMiddlePlate a0x a0y a1x a1y w)
  have HI := Lib.hid (fun w => Try.iMiddlePlate a0x a0y a1x a1y w)
  generalize (mdV a0x a0y a1x a1y).1 = x at *
  generalize (mdV a0x a0y a1x a1y).2 = y at *
  generalize mdB a0x a0y a1x a1y = b at *
  obtain ⟨W0, hW0⟩ : ∃ W, W = ((w.alloc (.cells #[.int .i64 a0x, .int .i64 a0y] 43)).alloc (.cells #[.int .i64 a1x, .int .i64 a1y] 43)) := ⟨_, rfl⟩
  have hs0 : S4 a0x a0y a1x a1y w.heap.size W0 := by subst hW0; exact ⟨by simp [go_sem], by simp [go_sem], by simp [go_sem], by simp [go_sem]⟩
  have g0 : Gr w W0 := by subst hW0; exact (by repeat (first | exact Gr.refl _ | refine Gr.alloc ?_ _ | refine Gr.trans ?_ (by assumption) | refine Gr.drew ?_ | refine Gr.drewN ?_ _ | refine Gr.grow ?_ _ | refine Gr.setCell ?_ (by (try simp); (try omega)) _))
  have z0 : W0.heap.size = w.heap.size + 2 := by subst hW0; simp
  have HC := Lib.hid hs0
  have HG := Lib.hid g0
  have HZ := Lib.hid z0
  have HW := Lib.hid hW0
  clear hs0 g0 z0 hW0
  go_enter Try.func11, Try.ntmps11
  go_upto_region 1 with fail
  rw [← HW.out]
  go_cut [5, 6] (fun s5 s6 wx => s6 = .bool b ∧ Gr W0 wx ∧ ∃ B, s5 = .pointer (some ⟨B, 0, none⟩) ∧ W0.heap.size ≤ B ∧ B < wx.heap.size ∧ wx.cell? ⟨B, 0, none⟩ = some (.int .i64 x) ∧ wx.cell? ⟨B, 1, none⟩ = some (.int .i64 y))
  case first =>
    go_region_held3 (fun W' => W'.cell? ⟨w.heap.size, 0, none⟩ = some (.int .i64 a0x) ∧ W'.cell? ⟨w.heap.size, 1, none⟩ = some (.int .i64 a0y) ∧ W'.cell? ⟨w.heap.size + 1, 0, none⟩ = some (.int .i64 a1x) ∧ W'.cell? ⟨w.heap.size + 1, 1, none⟩ = some (.int .i64 a1y))
      (exact s4_keep HC.out (by repeat (first | exact Gr.refl _ | refine Gr.alloc ?_ _ | refine Gr.trans ?_ (by assumption) | refine Gr.drew ?_ | refine Gr.drewN ?_ _ | refine Gr.grow ?_ _ | refine Gr.setCell ?_ (by (try simp); (try omega)) _)))
      ((first | (go_at_call_of 32 (Value.agg #[.int .i64 a0x, .int .i64 a0y]); refine (Try.toPlate _ _ _).mono ?_; rintro e w1 ⟨rfl, g1⟩; have hc1 := (bcell g1.below).1; have hf1 := (bcell g1.below).2; have q1 := g1.below.size; (try simp at q1); (try have z01 : W0.heap.size < w1.heap.size := by have q := g1.below.size; (try simp at q); omega)) | (go_at_call_of 32 (Value.agg #[.int .i64 a1x, .int .i64 a1y]); refine (Try.toPlate _ _ _).mono ?_; rintro e w2 ⟨rfl, g2⟩; have hc2 := (bcell g2.below).1; have hf2 := (bcell g2.below).2; have q2 := g2.below.size; (try simp at q2); (try have z02 : W0.heap.size < w2.heap.size := by have q := g2.below.size; (try simp at q); omega); (try have z12 : w1.heap.size < w2.heap.size := by have q := g2.below.size; (try simp at q); omega)) | (go_at_call 41; refine (HS.out _).mono ?_; rintro e w3 ⟨rfl, g3⟩; have hc3 := (bcell g3.below).1; have hf3 := (bcell g3.below).2; have q3 := g3.below.size; (try simp at q3); (try have z03 : W0.heap.size < w3.heap.size := by have q := g3.below.size; (try simp at q); omega); (try have z13 : w1.heap.size < w3.heap.size := by have q := g3.below.size; (try simp at q); omega); (try have z23 : w2.heap.size < w3.heap.size := by have q := g3.below.size; (try simp at q); omega))))
    all_goals
      go_wp2_with fail
      go_meet
      refine ⟨rfl, by repeat (first | exact Gr.refl _ | refine Gr.alloc ?_ _ | refine Gr.trans ?_ (by assumption) | refine Gr.drew ?_ | refine Gr.drewN ?_ _ | refine Gr.grow ?_ _ | refine Gr.setCell ?_ (by (try simp); (try omega)) _), _, rfl, by omega, by (try simp); (try omega), ?_, ?_⟩
      all_goals (first | (simp [go_sem]; done) | (simp [go_sem, hc3, z23]; done) | (simp [go_sem, hc3, hc2, z13, z12]; done) | (simp [go_sem, hc3, hc2, hc1, z03, z02, z01]; done))
  case rest =>
    obtain ⟨rfl, gx, B, rfl, hB1, hB2, hB3, hB4⟩ := hcut
    have HC2 := Lib.hid (s4_keep HC.out gx)
    have qx := gx.below.size
    go_upto_region 2 with fail
    go_cut [7, 8] (fun s7 s8 wx => s8 = .bool b ∧ Gr wc wx ∧ ∃ B, s7 = .pointer (some ⟨B, 0, none⟩) ∧ wc.heap.size ≤ B ∧ B < wx.heap.size ∧ wx.cell? ⟨B, 0, none⟩ = some (.int .i64 x) ∧ wx.cell? ⟨B, 1, none⟩ = some (.int .i64 y))
    case first =>
      go_region_held3 (fun W' => W'.cell? ⟨w.heap.size, 0, none⟩ = some (.int .i64 a0x) ∧ W'.cell? ⟨w.heap.size, 1, none⟩ = some (.int .i64 a0y) ∧ W'.cell? ⟨w.heap.size + 1, 0, none⟩ = some (.int .i64 a1x) ∧ W'.cell? ⟨w.heap.size + 1, 1, none⟩ = some (.int .i64 a1y))
        (exact s4_keep HC2.out (by repeat (first | exact Gr.refl _ | refine Gr.alloc ?_ _ | refine Gr.trans ?_ (by assumption) | refine Gr.drew ?_ | refine Gr.drewN ?_ _ | refine Gr.grow ?_ _ | refine Gr.setCell ?_ (by (try simp); (try omega)) _)))
        ((first | (go_at_call_of 32 (Value.agg #[.int .i64 a0x, .int .i64 a0y]); refine (Try.toPlate _ _ _).mono ?_; rintro e w1 ⟨rfl, g1⟩; have hc1 := (bcell g1.below).1; have hf1 := (bcell g1.below).2; have q1 := g1.below.size; (try simp at q1); (try have z01 : wc.heap.size < w1.heap.size := by have q := g1.below.size; (try simp at q); omega)) | (go_at_call_of 32 (Value.agg #[.int .i64 a1x, .int .i64 a1y]); refine (Try.toPlate _ _ _).mono ?_; rintro e w2 ⟨rfl, g2⟩; have hc2 := (bcell g2.below).1; have hf2 := (bcell g2.below).2; have q2 := g2.below.size; (try simp at q2); (try have z02 : wc.heap.size < w2.heap.size := by have q := g2.below.size; (try simp at q); omega); (try have z12 : w1.heap.size < w2.heap.size := by have q := g2.below.size; (try simp at q); omega)) | (go_at_call 42; refine (HI.out _).mono ?_; rintro e w3 ⟨rfl, g3⟩; have hc3 := (bcell g3.below).1; have hf3 := (bcell g3.below).2; have q3 := g3.below.size; (try simp at q3); (try have z03 : wc.heap.size < w3.heap.size := by have q := g3.below.size; (try simp at q); omega); (try have z13 : w1.heap.size < w3.heap.size := by have q := g3.below.size; (try simp at q); omega); (try have z23 : w2.heap.size < w3.heap.size := by have q := g3.below.size; (try simp at q); omega))))
      all_goals
        go_wp2_with fail
        go_meet
        refine ⟨rfl, by repeat (first | exact Gr.refl _ | refine Gr.alloc ?_ _ | refine Gr.trans ?_ (by assumption) | refine Gr.drew ?_ | refine Gr.drewN ?_ _ | refine Gr.grow ?_ _ | refine Gr.setCell ?_ (by (try simp); (try omega)) _), _, rfl, by omega, by (try simp); (try omega), ?_, ?_⟩
        all_goals (first | (simp [go_sem]; done) | (simp [go_sem, hc3, z23]; done) | (simp [go_sem, hc3, hc2, z13, z12]; done) | (simp [go_sem, hc3, hc2, hc1, z03, z02, z01]; done))
  
    case rest =>
      obtain ⟨rfl, gy, B2, rfl, hD1, hD2, hD3, hD4⟩ := hcut
      have hE3 := gy.keep0 hB3
      have hE4 := gy.keep0 hB4
      have GX := Lib.hid (Gr.trans (Gr.trans HG.out gx) gy)
      clear gx gy hB3 hB4 hB1 hB2 hD1 hD2 qx
      cases b
      all_goals
        go_wp2_with (first | (go_at_call 38; refine (Try.eqPlate _ _ _).mono ?_; rintro e w4 ⟨rfl, g4⟩))
        go_ret
        have GX' := GX.out
        exact ⟨by simp, Gr.below (by repeat (first | exact Gr.refl _ | refine Gr.alloc ?_ _ | refine Gr.trans ?_ (by assumption) | refine Gr.drew ?_ | refine Gr.drewN ?_ _ | refine Gr.grow ?_ _ | refine Gr.setCell ?_ (by (try simp); (try omega)) _))⟩

set_option maxRecDepth 100000 in
theorem lifted (os : Os) (started : os.Started) (H : Type) (enc : TypeId × Value → H) :
    ReturnsInHanded {} Try.checked os 11 .any (Rows.fnExactMiddlePlateSpec.pre6 enc Try.prog Try.f11 Rows.fnExactMiddlePlateRow.domain false) (Rows.fnExactMiddlePlateSpec.post enc Try.prog Try.f11 false true false false) := by
  refine returnsInHanded_of_change (C := Try.checked) own started (by kernel_rfl) Try.func11
    (ChangeSpec.witness6 (enc := enc) (C := Try.checked) false ⟨#[], #[.agg #[.int .i64 0, .int .i64 0], .agg #[.int .i64 0, .int .i64 0]], []⟩ 8 (by kernel_rfl) (by kernel_rfl) (by kernel_rfl) (by kernel_rfl)) ?_
  intro W base args ds gs before hval0 hW hcnd _
  have hval : ∀ (j : Nat) t v, Try.f11.params[j]? = some t → args[j]? = some v → Value.okWide Try.prog W .any base t v := hval0
  have hW' := hW
  obtain ⟨p, q, hA0, hV, rfl, hfz, hnd⟩ := hW
  have hA : DataW.TrodAll enc Try.prog W 0 (fun _ => true) true Try.f11.params.toList args.toList ds p := hA0
  rw [Try.params11] at hA hval
  obtain ⟨v0, vs0, d0, ds0, p0, q0, hargs, rfl, rfl, h0, r0⟩ := trodAll_cons hA
  obtain ⟨v1, vs1, d1, ds1, p1, q1, rfl, rfl, rfl, h1, r1⟩ := trodAll_cons r0
  obtain ⟨rfl, rfl, rfl⟩ := trodAll_nil r1
  obtain rfl : args = #[v0, v1] := by cases args; simp_all
  obtain ⟨rfl, rfl⟩ := trodVars_none hV
  obtain ⟨c0x, c0y, y0x, y0y, m0, rfl, rfl, rfl, hy0x, hy0y⟩ := open_agg2 Try.underlying43 (by kernel_rfl) (show Try.prog.cellsOf 43 = 2 by kernel_rfl) (hval 0 43 v0 rfl rfl) h0
  obtain ⟨a0x, e0x, rfl, wa0x⟩ := DataW.trod_int Try.underlying3 hy0x
  obtain ⟨a0y, e0y, rfl, wa0y⟩ := DataW.trod_int Try.underlying3 hy0y
  simp at e0x e0y
  subst e0x e0y
  have sr0 : ∀ (W' : World) (sp : Nat → Bool), DataW.Trod enc Try.prog W' 0 sp true 43 (.agg #[.int .i64 a0x, .int .i64 a0y]) (.agg [.lit (.int .i64 a0x), .lit (.int .i64 a0y)]) [] := fun W' sp =>
    shut_agg2 (y0 := (.lit (.int .i64 a0x), [])) (y1 := (.lit (.int .i64 a0y), [])) Try.underlying43 (by kernel_rfl) (show Try.prog.cellsOf 43 = 2 by kernel_rfl) ⟨1, by simp [DataW.trod, Try.underlying3, wa0x]⟩ ⟨1, by simp [DataW.trod, Try.underlying3, wa0y]⟩
  obtain ⟨c1x, c1y, y1x, y1y, m1, rfl, rfl, rfl, hy1x, hy1y⟩ := open_agg2 Try.underlying43 (by kernel_rfl) (show Try.prog.cellsOf 43 = 2 by kernel_rfl) (hval 1 43 v1 rfl rfl) h1
  obtain ⟨a1x, e1x, rfl, wa1x⟩ := DataW.trod_int Try.underlying3 hy1x
  obtain ⟨a1y, e1y, rfl, wa1y⟩ := DataW.trod_int Try.underlying3 hy1y
  simp at e1x e1y
  subst e1x e1y
  have sr1 : ∀ (W' : World) (sp : Nat → Bool), DataW.Trod enc Try.prog W' 0 sp true 43 (.agg #[.int .i64 a1x, .int .i64 a1y]) (.agg [.lit (.int .i64 a1x), .lit (.int .i64 a1y)]) [] := fun W' sp =>
    shut_agg2 (y0 := (.lit (.int .i64 a1x), [])) (y1 := (.lit (.int .i64 a1y), [])) Try.underlying43 (by kernel_rfl) (show Try.prog.cellsOf 43 = 2 by kernel_rfl) ⟨1, by simp [DataW.trod, Try.underlying3, wa1x]⟩ ⟨1, by simp [DataW.trod, Try.underlying3, wa1y]⟩
  clear hA0 hval0
  simp only [List.append_nil] at hW'
  refine (walk a0x wa0x a0y wa0y a1x wa1x a1y wa1y W).mono fun e W' ⟨he, bel⟩ => ?_
  subst he
  exact ⟨_, rfl, _, _, _, [], [], [], hW', trodAll_mk1 (shut_bool Try.underlying4 _), (trodAll_cons_mk (sr0 _ _) (trodAll_cons_mk (sr1 _ _) trodAll_mk0)), rfl, bel.frame _, fun h => by cases h⟩

theorem over : Rows.fnExactMiddlePlateRow.holds Try.pinned (OpenSpec.ofChange Rows.fnExactMiddlePlateSpec) :=
  OpenClaim.holds_of_wide 11 Try.f11 rfl rfl rfl rfl rfl rfl rfl ⟨rfl, rfl, rfl, rfl, rfl⟩ rfl rfl rfl rfl rfl (by kernel_rfl) Try.func11 (by kernel_rfl)
    (of_decide_eq_true (by kernel_rfl)) (by unfold Func.isWrapper; first | (rw [if_pos (by decide +kernel)]; kernel_rfl) | (rw [if_neg (by decide +kernel)]; exact ⟨rfl, rfl⟩))
    (fun os started H enc _ => lifted os started H enc)

/-- The statement. -/
theorem proved : Rows.FnExactMiddlePlateSaid :=
  over
#print axioms proved
end Go.Proofs.Ytbnkhmemicmadaa.fnExactMiddlePlate
