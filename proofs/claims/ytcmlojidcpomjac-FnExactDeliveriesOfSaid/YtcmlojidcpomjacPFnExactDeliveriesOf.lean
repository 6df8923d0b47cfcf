/-
  'FnExactDeliveriesOf' answers true at every argument and leaves its arguments as they were: the function of the program and its model give the same results.
-/
import Derived.Test.YtcmlojidcpomjacRows
import Derived.WalkKit
import Derived.ProofKit
import Derived.OpenShut
import Derived.Lib.SmallJoins
import Derived.Carry
import Derived.Test.YtcmlojidcpomjacPoD
namespace Go.Proofs.Ytcmlojidcpomjac.fnExactDeliveriesOf
open Go.ChangeShapes Go.WideShapes Go.ChangeAt Go.RowKit Go.Joins
open Go.WideMaps Go.WideElems
open Go.ChangeMaps (setBlock shut_map_nil open_string shut_string keptBut_setBlock frozen?_setBlock heap_setBlock_same)
set_option linter.unusedVariables false
set_option linter.unusedSimpArgs false

theorem own : ownKnob Try.prog.godebug = none := by kernel_rfl
theorem laidOut : laidOutB Try.prog = true := by kernel_rfl

set_option maxRecDepth 100000 in
set_option maxHeartbeats 1000000 in
theorem walk (a0x : Int) (wa0x : (Lit.int .i64 a0x).wf = true) (a0y : Int) (wa0y : (Lit.int .i64 a0y).wf = true) (a1 : Option Addr) (len1 cap1 : Nat) (z1 : List Int) (w : World) (w1 : ArgI w a1 len1 cap1 z1) :
    Calls Try.prog 8 #[.agg #[.int .i64 a0x, .int .i64 a0y], .slice a1 len1 cap1] w fun e w' => e = .returned (.bool true) ∧ Below w.heap.size w w' := by
  by_cases hsum : len1 ≤ 1048576
  case neg =>
    have z : (1048576 : Int) < (len1 : Int) := by omega
    clear w1
    go_enter Try.func8, Try.ntmps8
    go_wp2
    go_ret
    exact ⟨rfl, Gr.below (by repeat (first | exact Gr.refl _ | refine Gr.alloc ?_ _ | refine Gr.trans ?_ (by assumption) | refine Gr.drew ?_ | refine Gr.drewN ?_ _ | refine Gr.grow ?_ _ | refine Gr.setCell ?_ (by (try simp); (try omega)) _))⟩
  have zl1 : z1.length ≤ 1048576 := by have := w1.1; omega
  have z : ¬ (1048576 : Int) < (len1 : Int) := by omega
  have HS := Lib.hid (fun (w : World) B v h => Try.sDeliveriesOf w B v z1 a0x a0y zl1 h)
  have HI := Lib.hid (fun (w : World) B v h => Try.iDeliveriesOf w B v z1 a0x a0y zl1 h)
  generalize doV a0x a0y z1 = s at *
  generalize doB a0x a0y z1 = b at *
  have WA := Lib.hid w1
  have HL := Lib.hid hsum
  have ga : Gr w (w.alloc (.cells #[.int .i64 a0x, .int .i64 a0y] 32)) := Gr.alloc (Gr.refl _) _
  have ca : (w.alloc (.cells #[.int .i64 a0x, .int .i64 a0y] 32)).cell? ⟨w.heap.size, 0, none⟩ = some (.int .i64 a0x) := by simp [go_sem]
  have cb : (w.alloc (.cells #[.int .i64 a0x, .int .i64 a0y] 32)).cell? ⟨w.heap.size, 1, none⟩ = some (.int .i64 a0y) := by simp [go_sem]
  clear w1
  go_enter Try.func8, Try.ntmps8
  go_wp2_with (first | (go_at_call 22; refine (Try.toStreet _ _ _).mono ?_; rintro e w2 ⟨rfl, g2⟩; have ca2 := g2.keep0 ca; have cb2 := g2.keep0 cb))
  have B2 := (ga.trans g2).below
  refine (Try.toIntS _ _ _ _ _ HL.out (WA.out.below B2)).mono ?_
  rintro e w3 ⟨v3, rfl, o3, b3⟩
  have ca3 := cell_k2 b3 ca2
  have cb3 := cell_k2 b3 cb2
  have B3 := B2.trans (b3.mono B2.size)
  go_wp2_with fail
  refine (HS.out _ _ _ o3).mono ?_
  rintro e w4 ⟨rfl, b4⟩
  have ca4 := cell_k2 b4 ca3
  have cb4 := cell_k2 b4 cb3
  have B4 := B3.trans (b4.mono B3.size)
  go_wp2_with fail
  refine (Try.toIntS _ _ _ _ _ HL.out (WA.out.below B4)).mono ?_
  rintro e w5 ⟨v5, rfl, o5, b5⟩
  have ca5 := cell_k2 b5 ca4
  have cb5 := cell_k2 b5 cb4
  have B5 := B4.trans (b5.mono B4.size)
  go_wp2_with (first | (go_at_call 22; refine (Try.toStreet _ _ _).mono ?_; rintro e w6 ⟨rfl, g6⟩))
  have o6 := o5.gr g6
  have B6 := B5.trans (g6.below.mono B5.size)
  refine (HI.out _ _ _ o6).mono ?_
  rintro e w7 ⟨rfl, b7⟩
  have o7 := o6.below b7 (Nat.le_refl _)
  have B7 := B6.trans (b7.mono B6.size)
  go_wp2_with fail
  refine (Try.toIntS _ _ _ _ _ HL.out (WA.out.below B7)).mono ?_
  rintro e w8 ⟨v8, rfl, o8, b8⟩
  have o9 := o7.below b8 (Nat.le_refl _)
  have B8 := B7.trans (b8.mono B7.size)
  go_wp2_with fail
  refine (Try.eqIntS _ _ _ _ _ _ o9 o8).mono ?_
  rintro e w9 ⟨rfl, g9⟩
  go_wp2
  go_ret
  exact ⟨rfl, B8.trans (g9.below.mono B8.size)⟩

set_option maxRecDepth 100000 in
theorem lifted (os : Os) (started : os.Started) (H : Type) (enc : TypeId × Value → H) :
    ReturnsInHanded {} Try.checked os 8 .any (Rows.fnExactDeliveriesOfSpec.pre6 enc Try.prog Try.f8 Rows.fnExactDeliveriesOfRow.domain false) (Rows.fnExactDeliveriesOfSpec.post enc Try.prog Try.f8 false true false false) := by
  refine returnsInHanded_of_change (C := Try.checked) own started (by kernel_rfl) Try.func8
    (ChangeSpec.witness6 (enc := enc) (C := Try.checked) false ⟨#[], #[.agg #[.int .i64 0, .int .i64 0], .slice none 0 0], []⟩ 8 (by kernel_rfl) (by kernel_rfl) (by kernel_rfl) (by kernel_rfl)) ?_
  intro W base args ds gs before hval0 hW hcnd _
  have hval : ∀ (j : Nat) t v, Try.f8.params[j]? = some t → args[j]? = some v → Value.okWide Try.prog W .any base t v := hval0
  have hW' := hW
  obtain ⟨p, q, hA0, hV, rfl, hfz, hnd⟩ := hW
  have hA : DataW.TrodAll enc Try.prog W 0 (fun _ => true) true Try.f8.params.toList args.toList ds p := hA0
  rw [Try.params8] at hA hval
  obtain ⟨v0, vs0, d0, ds0, p0, q0, hargs, rfl, rfl, h0, r0⟩ := trodAll_cons hA
  obtain ⟨v1, vs1, d1, ds1, p1, q1, rfl, rfl, rfl, h1, r1⟩ := trodAll_cons r0
  obtain ⟨rfl, rfl, rfl⟩ := trodAll_nil r1
  obtain rfl : args = #[v0, v1] := by cases args; simp_all
  obtain ⟨rfl, rfl⟩ := trodVars_none hV
  obtain ⟨c0x, c0y, y0x, y0y, m0, rfl, rfl, rfl, hy0x, hy0y⟩ := open_agg2 Try.underlying32 (by kernel_rfl) (show Try.prog.cellsOf 32 = 2 by kernel_rfl) (hval 0 32 v0 rfl rfl) h0
  obtain ⟨a0x, e0x, rfl, wa0x⟩ := DataW.trod_int Try.underlying3 hy0x
  obtain ⟨a0y, e0y, rfl, wa0y⟩ := DataW.trod_int Try.underlying3 hy0y
  simp at e0x e0y
  subst e0x e0y
  have sr0 : ∀ (W' : World) (sp : Nat → Bool), DataW.Trod enc Try.prog W' 0 sp true 32 (.agg #[.int .i64 a0x, .int .i64 a0y]) (.agg [.lit (.int .i64 a0x), .lit (.int .i64 a0y)]) [] := fun W' sp =>
    shut_agg2 (y0 := (.lit (.int .i64 a0x), [])) (y1 := (.lit (.int .i64 a0y), [])) Try.underlying32 (by kernel_rfl) (show Try.prog.cellsOf 32 = 2 by kernel_rfl) ⟨1, by simp [DataW.trod, Try.underlying3, wa0x]⟩ ⟨1, by simp [DataW.trod, Try.underlying3, wa0y]⟩
  obtain ⟨a1, len1, cap1, rfl⟩ := okWide_slice Try.underlying33 (hval 1 33 v1 rfl rfl)
  have k1 := h1
  have lt1 : ∀ x ∈ p1, x.block < W.heap.size := by obtain ⟨m, hm⟩ := k1; exact DataW.trod_lt m _ _ _ hm
  obtain ⟨z1, w1⟩ : ∃ zs, ArgI W a1 len1 cap1 zs := by
    obtain ⟨fuel, hf⟩ := h1
    rcases open_ints Try.underlying33 Try.underlying3 (by kernel_rfl) hf with ⟨hcs, _⟩ | ⟨x, l, c, zs, hcs, _, hl, hm, hz, _, hcell, hwz⟩
    · simp [Value.cells] at hcs
      obtain ⟨rfl, rfl, rfl⟩ := hcs
      exact ⟨[], rfl, Nat.le_refl _, Nat.zero_le _, fun n hn => by simp at hn, .inl rfl⟩
    · simp [Value.cells] at hcs
      obtain ⟨rfl, rfl, rfl⟩ := hcs
      exact ArgI.of_open hl hm (by simpa using hz) hcell hwz
  clear hA0 hval0
  simp only [List.append_nil] at hW'
  refine (walk a0x wa0x a0y wa0y a1 len1 cap1 z1 W w1).mono fun e W' ⟨he, bel⟩ => ?_
  subst he
  exact ⟨_, rfl, _, _, _, [], _, [], hW', trodAll_mk1 (shut_bool Try.underlying4 _), (trodAll_cons_mk (sr0 _ _) (trodAll_cons_mk (Below.trod laidOut (by kernel_rfl) (of_decide_eq_true (by kernel_rfl)) k1 bel lt1) trodAll_mk0)), rfl, bel.frame _, fun h => by cases h⟩

theorem over : Rows.fnExactDeliveriesOfRow.holds Try.pinned (OpenSpec.ofChange Rows.fnExactDeliveriesOfSpec) :=
  OpenClaim.holds_of_wide 8 Try.f8 rfl rfl rfl rfl rfl rfl rfl ⟨rfl, rfl, rfl, rfl, rfl⟩ rfl rfl rfl rfl rfl (by kernel_rfl) Try.func8 (by kernel_rfl)
    (of_decide_eq_true (by kernel_rfl)) (by unfold Func.isWrapper; first | (rw [if_pos (by decide +kernel)]; kernel_rfl) | (rw [if_neg (by decide +kernel)]; exact ⟨rfl, rfl⟩))
    (fun os started H enc _ => lifted os started H enc)

/-- The statement. -/
theorem proved : Rows.FnExactDeliveriesOfSaid :=
  over
#print axioms proved
end Go.Proofs.Ytcmlojidcpomjac.fnExactDeliveriesOf
