/-
  'FnExactNextHouses' answers true at every argument and leaves its arguments as they were: the function of the program and its model give the same results.
-/
import Derived.Test.YtcmlojidcpomjaaRows
import Derived.WalkKit
import Derived.ProofKit
import Derived.OpenShut
import Derived.Lib.SmallJoins
import Derived.Carry
import Derived.Test.YtcmlojidcpomjaaNuHi
namespace Go.Proofs.Ytcmlojidcpomjaa.fnExactNextHouses
open Go.ChangeShapes Go.WideShapes Go.ChangeAt Go.RowKit Go.Joins
open Go.WideMaps Go.WideElems
open Go.ChangeMaps (setBlock shut_map_nil open_string shut_string keptBut_setBlock frozen?_setBlock heap_setBlock_same)
set_option linter.unusedVariables false
set_option linter.unusedSimpArgs false

theorem own : ownKnob Try.prog.godebug = none := by kernel_rfl

set_option maxRecDepth 100000 in
set_option maxHeartbeats 1000000 in
theorem walk (a0x : Int) (wa0x : (Lit.int .i64 a0x).wf = true) (a0y : Int) (wa0y : (Lit.int .i64 a0y).wf = true) (a1 : Int) (w1 : (Lit.int .i64 a1).wf = true) (w : World) :
    Calls Try.prog 3 #[.agg #[.int .i64 a0x, .int .i64 a0y], .int .i64 a1] w fun e w' => e = .returned (.bool true) ∧ Below w.heap.size w w' := by
  have HS := Lib.hid (fun (w : World) => Try.sNextHouses a0x a0y a1 w)
  have HI := Lib.hid (fun (w : World) => Try.iNextHouses a0x a0y a1 w)
  have hlen : (nhL a0x a0y a1).length ≤ 1000000000 := nhL_len a0x a0y a1
  generalize nhL a0x a0y a1 = xs at HS HI hlen
  generalize asB a0x a0y a1 = b at HS HI
  go_enter Try.func3, Try.ntmps3
  go_wp2_with (first | (go_at_call 12; refine (Try.toStreet _ _ _).mono ?_; rintro e wA ⟨rfl, gwA⟩))
  have cwA := (bcell gwA.below).1
  have zwA : w.heap.size < wA.heap.size := by have hq := gwA.below.size; (try simp at hq); omega
  refine (HS.out _).mono ?_
  rintro e wS ⟨vS, rfl, hoS, hbS⟩
  have cS := (bcell hbS).1
  have zS : w.heap.size < wS.heap.size := Nat.lt_of_lt_of_le zwA hbS.size
  go_wp2_with (first | (go_at_call 12; refine (Try.toStreet _ _ _).mono ?_; rintro e wT ⟨rfl, gwT⟩))
  have cwT := (bcell gwT.below).1
  have zwT : w.heap.size < wT.heap.size := by have hq := gwT.below.size; (try simp at hq); omega
  refine (HI.out _).mono ?_
  rintro e w4 ⟨v1, rfl, ho1, hb1⟩
  have c4 := (bcell hb1).1
  have z4 : w.heap.size < w4.heap.size := Nat.lt_of_lt_of_le zwT hb1.size
  obtain ⟨BS, hoS4⟩ : ∃ B, OwnI w4 B vS xs := ⟨_, (hoS.gr gwT).below hb1 (Nat.le_refl _)⟩
  go_wp2_with fail
  refine (Try.eqIntS _ _ _ _ _ _ ho1 hoS4).mono ?_
  rintro e w5 ⟨rfl, g5⟩
  have c5 := (bcell g5.below).1
  have z5 : w.heap.size < w5.heap.size := Nat.lt_of_lt_of_le z4 g5.below.size
  go_wp2_with fail
  refine (Try.markIntS _ _ _ _ hlen (ho1.gr g5)).mono ?_
  rintro e w6 ⟨rfl, ho6, hb6⟩
  have c6 : ∀ b o, b < wT.heap.size → w6.cell? ⟨b, o, none⟩ = w5.cell? ⟨b, o, none⟩ := fun b o h => hb6.cell (p := ⟨b, o, none⟩) h
  have s6 := hb6.size
  have z6 : w.heap.size < w6.heap.size := Nat.lt_of_lt_of_le z5 s6
  go_wp2_with fail
  refine (Try.heldIntS _ _ _ _ hlen ho6).mono ?_
  rintro e w7 ⟨rfl, rfl⟩
  go_wp2_with (first | (go_at_call 12; refine (Try.toStreet _ _ _).mono ?_; rintro e w77 ⟨rfl, gw77⟩))
  have cw77 := (bcell gw77.below).1
  have zw77 : w.heap.size < w77.heap.size := by have hq := gw77.below.size; (try simp at hq); omega
  refine (HI.out _).mono ?_
  rintro e w8 ⟨v2, rfl, ho8, hb8⟩
  have hoS8 : OwnI w8 BS vS xs := (OwnI.gr (OwnI.under (hoS4.gr g5) hb6 (fun g hg => Nat.lt_of_lt_of_le (OwnI.lt hoS g hg) gwT.below.size)) gw77).below hb8 (Nat.le_refl _)
  go_wp2_with fail
  refine (Try.eqIntS _ _ _ _ _ _ ho8 hoS8).mono ?_
  rintro e w9 ⟨rfl, g9⟩
  have ho9 : OwnI w9 wT.heap.size v1 (mks xs.length xs) := ((ho6.gr gw77).below hb8 (Nat.le_refl _)).gr g9
  go_wp2_with fail
  refine (Try.heldIntS _ _ _ _ hlen ho9).mono ?_
  rintro e w10 ⟨rfl, rfl⟩
  go_wp2
  go_ret
  refine ⟨rfl, ?_⟩
  have bA : Below w.heap.size w wA := Gr.below (Gr.trans (Gr.alloc (Gr.refl _) _) gwA)
  have bS := bA.trans (hbS.mono bA.size)
  have bT := bS.trans (gwT.below.mono bS.size)
  have b4 := bT.trans (hb1.mono bT.size)
  have b5 := b4.trans (g5.below.mono b4.size)
  have b6 := b5.trans (hb6.mono bT.size)
  have b7 := b6.trans (gw77.below.mono b6.size)
  have b8 := b7.trans (hb8.mono b7.size)
  exact b8.trans (g9.below.mono b8.size)

set_option maxRecDepth 100000 in
theorem lifted (os : Os) (started : os.Started) (H : Type) (enc : TypeId × Value → H) :
    ReturnsInHanded {} Try.checked os 3 .any (Rows.fnExactNextHousesSpec.pre6 enc Try.prog Try.f3 Rows.fnExactNextHousesRow.domain false) (Rows.fnExactNextHousesSpec.post enc Try.prog Try.f3 false true false false) := by
  refine returnsInHanded_of_change (C := Try.checked) own started (by kernel_rfl) Try.func3
    (ChangeSpec.witness6 (enc := enc) (C := Try.checked) false ⟨#[], #[.agg #[.int .i64 0, .int .i64 0], .int .i64 0], []⟩ 8 (by kernel_rfl) (by kernel_rfl) (by kernel_rfl) (by kernel_rfl)) ?_
  intro W base args ds gs before hval0 hW hcnd _
  have hval : ∀ (j : Nat) t v, Try.f3.params[j]? = some t → args[j]? = some v → Value.okWide Try.prog W .any base t v := hval0
  have hW' := hW
  obtain ⟨p, q, hA0, hV, rfl, hfz, hnd⟩ := hW
  have hA : DataW.TrodAll enc Try.prog W 0 (fun _ => true) true Try.f3.params.toList args.toList ds p := hA0
  rw [Try.params3] at hA hval
  obtain ⟨v0, vs0, d0, ds0, p0, q0, hargs, rfl, rfl, h0, r0⟩ := trodAll_cons hA
  obtain ⟨v1, vs1, d1, ds1, p1, q1, rfl, rfl, rfl, h1, r1⟩ := trodAll_cons r0
  obtain ⟨rfl, rfl, rfl⟩ := trodAll_nil r1
  obtain rfl : args = #[v0, v1] := by cases args; simp_all
  obtain ⟨rfl, rfl⟩ := trodVars_none hV
  obtain ⟨c0x, c0y, y0x, y0y, m0, rfl, rfl, rfl, hy0x, hy0y⟩ := open_agg2 Try.underlying23 (by kernel_rfl) (show Try.prog.cellsOf 23 = 2 by kernel_rfl) (hval 0 23 v0 rfl rfl) h0
  obtain ⟨a0x, e0x, rfl, wa0x⟩ := DataW.trod_int Try.underlying3 hy0x
  obtain ⟨a0y, e0y, rfl, wa0y⟩ := DataW.trod_int Try.underlying3 hy0y
  simp at e0x e0y
  subst e0x e0y
  have sr0 : ∀ (W' : World) (sp : Nat → Bool), DataW.Trod enc Try.prog W' 0 sp true 23 (.agg #[.int .i64 a0x, .int .i64 a0y]) (.agg [.lit (.int .i64 a0x), .lit (.int .i64 a0y)]) [] := fun W' sp =>
    shut_agg2 (y0 := (.lit (.int .i64 a0x), [])) (y1 := (.lit (.int .i64 a0y), [])) Try.underlying23 (by kernel_rfl) (show Try.prog.cellsOf 23 = 2 by kernel_rfl) ⟨1, by simp [DataW.trod, Try.underlying3, wa0x]⟩ ⟨1, by simp [DataW.trod, Try.underlying3, wa0y]⟩
  obtain ⟨a1, rfl, rfl, rfl, w1⟩ := open_int Try.underlying3 (hval 1 3 v1 rfl rfl) h1
  clear hA0 hval0
  simp only [List.append_nil] at hW'
  refine (walk a0x wa0x a0y wa0y a1 w1 W).mono fun e W' ⟨he, bel⟩ => ?_
  subst he
  exact ⟨_, rfl, _, _, _, [], [], [], hW', trodAll_mk1 (shut_bool Try.underlying4 _), (trodAll_cons_mk (sr0 _ _) (trodAll_cons_mk (shut_int Try.underlying3 w1) trodAll_mk0)), rfl, bel.frame _, fun h => by cases h⟩

theorem over : Rows.fnExactNextHousesRow.holds Try.pinned (OpenSpec.ofChange Rows.fnExactNextHousesSpec) :=
  OpenClaim.holds_of_wide 3 Try.f3 rfl rfl rfl rfl rfl rfl rfl ⟨rfl, rfl, rfl, rfl, rfl⟩ rfl rfl rfl rfl rfl (by kernel_rfl) Try.func3 (by kernel_rfl)
    (of_decide_eq_true (by kernel_rfl)) (by unfold Func.isWrapper; first | (rw [if_pos (by decide +kernel)]; kernel_rfl) | (rw [if_neg (by decide +kernel)]; exact ⟨rfl, rfl⟩))
    (fun os started H enc _ => lifted os started H enc)

/-- The statement. -/
theorem proved : Rows.FnExactNextHousesSaid :=
  over
#print axioms proved
end Go.Proofs.Ytcmlojidcpomjaa.fnExactNextHouses
