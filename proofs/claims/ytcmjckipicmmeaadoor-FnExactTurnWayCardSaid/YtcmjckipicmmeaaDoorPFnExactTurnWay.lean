/-
  'FnExactTurnWay' answers true at every argument and leaves its arguments as they were: the function of the program and its model give the same results. What the library's own tables hold is tied to the program's text.
-/
import Derived.Test.YtcmjckipicmmeaaDoorCards
import Derived.Test.YtcmjckipicmmeaaDoorTie
import Derived.WalkKit
import Derived.ProofKit
import Derived.LaidMore
import Derived.OpenShut
import Derived.Stop.Joined
import Derived.SevenTiedAt
import Derived.Lib.SmallJoins
import Derived.Carry
import Derived.Lay
import Derived.Test.YtcmjckipicmmeaaDoorOwTw
import Derived.Test.YtcmjckipicmmeaaDoorOwTi
namespace Go.Proofs.YtcmjckipicmmeaaDoor.fnExactTurnWay
open Go.ChangeShapes Go.WideShapes Go.ChangeAt Go.RowKit Go.Joins
open Go.WideMaps Go.WideElems
open Go.ChangeMaps (setBlock shut_map_nil open_string shut_string keptBut_setBlock frozen?_setBlock heap_setBlock_same)
set_option linter.unusedVariables false
set_option linter.unusedSimpArgs false

theorem own : ownKnob Tryd.prog.godebug = none := by kernel_rfl
def laidL : List (String × DataW Unit) := [("unicode/utf8.acceptRanges", Rows.laid_unicode_utf8_acceptRanges), ("unicode/utf8.first", Rows.laid_unicode_utf8_first)]
/-- A heap that holds the listed variables meets the condition. -/
theorem door_met (os : Os) (args : Array Value) : laidMetH Tryd.prog laidL ((World.laidAll Tryd.prog os laidL).forCall (fun _ _ => 0) ⟨#[], args, []⟩).memory := by
  rw [MakeChecks.laidMetH_plain _ _ _ (by kernel_rfl)]
  exact laidMet_laidAll _ (by kernel_rfl) (by kernel_rfl)

set_option maxRecDepth 100000 in
set_option maxHeartbeats 1000000 in
theorem walk (a0x a0y : ByteArray) (w0x : a0x.size ≤ maxLen) (w0y : a0y.size ≤ maxLen) (a1 : Int) (w1 : (Lit.int .i64 a1).wf = true) (w : World) :
    Calls Tryd.prog 9 #[.agg #[.string a0x, .string a0y], .int .i64 a1] w fun e w' => e = .returned (.bool true) ∧ Below w.heap.size w w' := by
  have SZ := Lib.hid (fun (w : World) => Tryd.szWays w a0x a0y w0x w0y _ rfl)
  by_cases hsum : a0x.size + a0y.size ≤ 1048576
  case neg =>
    rw [if_neg hsum] at SZ
    go_enter Tryd.func9, Tryd.ntmps9
    go_wp2_with (first | (go_at_call 13; refine (SZ.out _).mono ?_; rintro e w1 ⟨rfl, hbW⟩; have hcW := (bcell hbW.below).1; have hfW := (bcell hbW.below).2; (try have hzW : w.heap.size < w1.heap.size := by have hq := hbW.below.size; (try simp at hq); omega); (try have hyW : w.heap.size + 1 < w1.heap.size := by have hq := hbW.below.size; (try simp at hq); omega); (try have hxW : w.heap.size + 2 < w1.heap.size := by have hq := hbW.below.size; (try simp at hq); omega)))
    go_ret
    exact ⟨rfl, Gr.below (by repeat (first | exact Gr.refl _ | refine Gr.alloc ?_ _ | refine Gr.trans ?_ (by assumption) | refine Gr.drew ?_ | refine Gr.drewN ?_ _ | refine Gr.grow ?_ _ | refine Gr.setCell ?_ (by (try simp); (try omega)) _))⟩
  rw [if_pos hsum] at SZ
  have zz : ¬ (1048576 : Int) - (a0x.size : Int) - (a0y.size : Int) < 0 := by omega
  have HS := Lib.hid (fun (w : World) => Tryd.sTurnWay w a0x a0y w0x w0y a1)
  have HI := Lib.hid (fun (w : World) => Tryd.iTurnWay w a0x a0y (by omega) (by omega) a1)
  generalize tw1 a0x a0y a1 = v1 at *
  generalize tw2 a0x a0y a1 = v2 at *
  generalize twB a0x a0y a1 = b at *
  go_enter Tryd.func9, Tryd.ntmps9
  go_wp2_with fail
  refine (SZ.out _).mono ?_
  rintro e wv1 ⟨rfl, g1⟩
  have f1_0 : wv1.cell? ⟨w.heap.size, 0, none⟩ = some (.string a0x) := g1.keep0 (by simp [go_sem])
  have f1_1 : wv1.cell? ⟨w.heap.size, 1, none⟩ = some (.string a0y) := g1.keep0 (by simp [go_sem])
  have G1 : Gr w wv1 := Gr.trans (Gr.alloc (Gr.refl _) _) g1
  go_wp2_with fail
  refine (Tryd.toWays _ _ _).mono ?_
  rintro e wv2 ⟨rfl, g2⟩
  have f2_0 : wv2.cell? ⟨w.heap.size, 0, none⟩ = some (.string a0x) := g2.keep0 (f1_0)
  have f2_1 : wv2.cell? ⟨w.heap.size, 1, none⟩ = some (.string a0y) := g2.keep0 (f1_1)
  clear f1_0 f1_1
  have G2 : Gr w wv2 := Gr.trans (G1) g2
  go_wp2_with fail
  refine (HS.out _).mono ?_
  rintro e wv3 ⟨rfl, g3⟩
  have f3_0 : wv3.cell? ⟨w.heap.size, 0, none⟩ = some (.string a0x) := g3.keep0 (f2_0)
  have f3_1 : wv3.cell? ⟨w.heap.size, 1, none⟩ = some (.string a0y) := g3.keep0 (f2_1)
  clear f2_0 f2_1
  have G3 : Gr w wv3 := Gr.trans (G2) g3
  have h3_0 := (Gr.alloc (Gr.refl wv3) (.cells #[.string v1, .string v2] 26)).keep0 f3_0
  have h3_1 := (Gr.alloc (Gr.refl wv3) (.cells #[.string v1, .string v2] 26)).keep0 f3_1
  clear f3_0 f3_1
  have h3_2 : (wv3.alloc (.cells #[.string v1, .string v2] 26)).cell? ⟨wv3.heap.size, 0, none⟩ = some (.string v1) := by simp [go_sem]
  have h3_3 : (wv3.alloc (.cells #[.string v1, .string v2] 26)).cell? ⟨wv3.heap.size, 1, none⟩ = some (.string v2) := by simp [go_sem]
  go_wp2_with fail
  refine (Tryd.toWays _ _ _).mono ?_
  rintro e wv4 ⟨rfl, g4⟩
  have f4_0 : wv4.cell? ⟨w.heap.size, 0, none⟩ = some (.string a0x) := g4.keep0 (h3_0)
  have f4_1 : wv4.cell? ⟨w.heap.size, 1, none⟩ = some (.string a0y) := g4.keep0 (h3_1)
  have f4_2 : wv4.cell? ⟨wv3.heap.size, 0, none⟩ = some (.string v1) := g4.keep0 (h3_2)
  have f4_3 : wv4.cell? ⟨wv3.heap.size, 1, none⟩ = some (.string v2) := g4.keep0 (h3_3)
  clear h3_0 h3_1 h3_2 h3_3
  have G4 : Gr w wv4 := Gr.trans (Gr.alloc G3 (.cells #[.string v1, .string v2] 26)) g4
  go_wp2_with fail
  refine (HI.out _).mono ?_
  rintro e wv5 ⟨rfl, g5⟩
  have f5_0 : wv5.cell? ⟨w.heap.size, 0, none⟩ = some (.string a0x) := g5.keep0 (f4_0)
  have f5_1 : wv5.cell? ⟨w.heap.size, 1, none⟩ = some (.string a0y) := g5.keep0 (f4_1)
  have f5_2 : wv5.cell? ⟨wv3.heap.size, 0, none⟩ = some (.string v1) := g5.keep0 (f4_2)
  have f5_3 : wv5.cell? ⟨wv3.heap.size, 1, none⟩ = some (.string v2) := g5.keep0 (f4_3)
  clear f4_0 f4_1 f4_2 f4_3
  have G5 : Gr w wv5 := Gr.trans (G4) g5
  have h5_0 := (Gr.alloc (Gr.refl wv5) (.cells #[.string v1, .string v2] 26)).keep0 f5_0
  have h5_1 := (Gr.alloc (Gr.refl wv5) (.cells #[.string v1, .string v2] 26)).keep0 f5_1
  have h5_2 := (Gr.alloc (Gr.refl wv5) (.cells #[.string v1, .string v2] 26)).keep0 f5_2
  have h5_3 := (Gr.alloc (Gr.refl wv5) (.cells #[.string v1, .string v2] 26)).keep0 f5_3
  clear f5_0 f5_1 f5_2 f5_3
  have h5_4 : (wv5.alloc (.cells #[.string v1, .string v2] 26)).cell? ⟨wv5.heap.size, 0, none⟩ = some (.string v1) := by simp [go_sem]
  have h5_5 : (wv5.alloc (.cells #[.string v1, .string v2] 26)).cell? ⟨wv5.heap.size, 1, none⟩ = some (.string v2) := by simp [go_sem]
  go_wp2_with fail
  refine (Tryd.eqWays _ _ _).mono ?_
  rintro e wv6 ⟨rfl, g6⟩
  have f6_0 : wv6.cell? ⟨w.heap.size, 0, none⟩ = some (.string a0x) := g6.keep0 (h5_0)
  have f6_1 : wv6.cell? ⟨w.heap.size, 1, none⟩ = some (.string a0y) := g6.keep0 (h5_1)
  have f6_2 : wv6.cell? ⟨wv3.heap.size, 0, none⟩ = some (.string v1) := g6.keep0 (h5_2)
  have f6_3 : wv6.cell? ⟨wv3.heap.size, 1, none⟩ = some (.string v2) := g6.keep0 (h5_3)
  have f6_4 : wv6.cell? ⟨wv5.heap.size, 0, none⟩ = some (.string v1) := g6.keep0 (h5_4)
  have f6_5 : wv6.cell? ⟨wv5.heap.size, 1, none⟩ = some (.string v2) := g6.keep0 (h5_5)
  clear h5_0 h5_1 h5_2 h5_3 h5_4 h5_5
  have G6 : Gr w wv6 := Gr.trans (Gr.alloc G5 (.cells #[.string v1, .string v2] 26)) g6
  go_wp2
  go_ret
  exact ⟨rfl, Gr.below G6⟩

set_option maxRecDepth 100000 in
theorem lifted (os : Os) (started : os.Started) (H : Type) (enc : TypeId × Value → H) :
    ReturnsInHanded {} Tryd.checked os 9 .any (fun w args => (Rows.fnExactTurnWaySpec.pre enc Tryd.prog Tryd.f9 [] false w args ∧ laidMetH Tryd.prog laidL w) ∧ sizedMet enc Tryd.prog Tryd.f9 (OpenSpec.ofChange Rows.fnExactTurnWaySpec) false w args)
      (Rows.fnExactTurnWaySpec.post enc Tryd.prog Tryd.f9 false true false false) := by
  refine returnsInHanded_of_change_and (C := Tryd.checked) (X := fun w _ => laidMetH Tryd.prog laidL w) (fun _ _ _ hh h => h.of_heap hh) own started (by kernel_rfl) Tryd.func9
    (ChangeSpec.witness_shaped (enc := enc) (C := Tryd.checked) (os := os) (X := fun w _ => laidMetH Tryd.prog laidL w) false (World.laidAll Tryd.prog os laidL) #[.agg #[.string ⟨#[]⟩, .string ⟨#[]⟩], .int .i64 0] 8 (World.laidAll_os _ _ _) (World.shaped_of_ZipB (by kernel_rfl) (by kernel_rfl)) (by kernel_rfl) (by kernel_rfl) (by kernel_rfl) (door_met os _)) ?_
  intro W base args ds gs before hval0 hW _ _ hL _
  have hval : ∀ (j : Nat) t v, Tryd.f9.params[j]? = some t → args[j]? = some v → Value.okWide Tryd.prog W .any base t v := hval0
  have hW' := hW
  obtain ⟨p, q, hA0, hV, rfl, hfz, hnd⟩ := hW
  have hA : DataW.TrodAll enc Tryd.prog W 0 (fun _ => true) true Tryd.f9.params.toList args.toList ds p := hA0
  rw [Tryd.params9] at hA hval
  obtain ⟨v0, vs0, d0, ds0, p0, q0, hargs, rfl, rfl, h0, r0⟩ := trodAll_cons hA
  obtain ⟨v1, vs1, d1, ds1, p1, q1, rfl, rfl, rfl, h1, r1⟩ := trodAll_cons r0
  obtain ⟨rfl, rfl, rfl⟩ := trodAll_nil r1
  obtain rfl : args = #[v0, v1] := by cases args; simp_all
  obtain ⟨rfl, rfl⟩ := trodVars_none hV
  obtain ⟨c0x, c0y, y0x, y0y, m0, rfl, rfl, rfl, hy0x, hy0y⟩ := open_agg2 Tryd.underlying23 (by kernel_rfl) (show Tryd.prog.cellsOf 23 = 2 by kernel_rfl) (hval 0 23 v0 rfl rfl) h0
  obtain ⟨a0x, e0x, rfl, w0x⟩ := DataW.trod_string Tryd.underlying9 hy0x
  obtain ⟨a0y, e0y, rfl, w0y⟩ := DataW.trod_string Tryd.underlying9 hy0y
  simp at e0x e0y
  subst e0x e0y
  have sr0 : ∀ (W' : World) (sp : Nat → Bool), DataW.Trod enc Tryd.prog W' 0 sp true 23 (.agg #[.string a0x, .string a0y]) (.agg [.lit (.string a0x.data.toList), .lit (.string a0y.data.toList)]) [] := fun W' sp =>
    shut_agg2 (y0 := (.lit (.string a0x.data.toList), [])) (y1 := (.lit (.string a0y.data.toList), [])) Tryd.underlying23 (by kernel_rfl) (show Tryd.prog.cellsOf 23 = 2 by kernel_rfl) ⟨1, by simp [DataW.trod, Tryd.underlying9, w0x]⟩ ⟨1, by simp [DataW.trod, Tryd.underlying9, w0y]⟩
  obtain ⟨a1, rfl, rfl, rfl, w1⟩ := open_int Tryd.underlying3 (hval 1 3 v1 rfl rfl) h1
  clear hA0 hval0
  simp only [List.append_nil] at hW'
  refine (walk a0x a0y w0x w0y a1 w1 W).mono fun e W' ⟨he, bel⟩ => ?_
  subst he
  exact ⟨_, rfl, _, _, _, [], [], [], hW', trodAll_mk1 (shut_bool Tryd.underlying4 _), (trodAll_cons_mk (sr0 _ _) (trodAll_cons_mk (shut_int Tryd.underlying3 w1) trodAll_mk0)), rfl, bel.frame _, fun h => by cases h⟩

theorem over : Rows.FnExactTurnWaySaid :=
  OpenClaim.holds_of_wide 9 Tryd.f9 rfl rfl rfl rfl rfl rfl rfl ⟨rfl, rfl, rfl, rfl, rfl⟩ rfl rfl rfl rfl rfl (by kernel_rfl) Tryd.func9 (by kernel_rfl)
    (of_decide_eq_true (by kernel_rfl)) (by unfold Func.isWrapper; first | (rw [if_pos (by decide +kernel)]; kernel_rfl) | (rw [if_neg (by decide +kernel)]; exact ⟨rfl, rfl⟩))
    (fun os started H enc _ => lifted os started H enc)

/-- The statement: the tied card. -/
theorem proved : Rows.FnExactTurnWayCardSaid :=
  Claim7.holds_tied_plain_at .later [] [.data, .pinned] true (true, "b45b3f090f36726a08afb2c99e12935b1983a52e6bb89ba9b433d4936a2bc797") false
    over (fun _ h => by cases h) (by kernel_rfl) (fun _ h => by cases h) fnExactTurnWay_row_tie rfl ⟨rfl, rfl⟩ (by kernel_rfl) rfl
    (fun f fn hf hfn => by
      obtain rfl : f = 9 := Option.some.inj ((show Tryd.prog.funcNamed "loop.example/g01336/laws.FnExactTurnWay" = some 9 by kernel_rfl).symm.trans hf) |>.symm
      obtain rfl : fn = Tryd.f9 := (Option.some.inj (Tryd.func9.symm.trans hfn)).symm
      exact ⟨by kernel_rfl, fun j t ht => by
        rw [Tryd.params9] at ht
        have hm : t ∈ [23, 3] := by simpa using Array.mem_of_getElem? ht
        have hall : ([23, 3].all fun u => !Tryd.prog.wantsStandIn u) = true := by kernel_rfl
        exact (show Tryd.prog.wantsStandIn t = false by simpa using List.all_eq_true.1 hall t hm)⟩)
    (by kernel_rfl)
#print axioms proved
end Go.Proofs.YtcmjckipicmmeaaDoor.fnExactTurnWay
