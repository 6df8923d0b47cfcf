/-
  'FnExactCityText' answers true at every argument and leaves its arguments as they were: the function of the program and its model give the same results. What the library's own tables hold is tied to the program's text.
-/
import Derived.Test.YtedkkmnoldghmaaDoorCards
import Derived.Test.YtedkkmnoldghmaaDoorTie
import Derived.WalkKit
import Derived.ProofKit
import Derived.LaidMore
import Derived.OpenShut
import Derived.Stop.Joined
import Derived.SevenTiedAt
import Derived.Lib.SmallJoins
import Derived.Lib.LaidTab
import Derived.Stop.LaidErr
import Derived.Carry
import Derived.Test.YtedkkmnoldghmaaDoorFr
import Derived.Test.YtedkkmnoldghmaaDoorCtY
import Derived.Test.YtedkkmnoldghmaaDoorArgsB
import Derived.Test.YtedkkmnoldghmaaDoorCtK
namespace Go.Proofs.YtedkkmnoldghmaaDoor.fnExactCityText
open Go.ChangeShapes Go.WideShapes Go.ChangeAt Go.RowKit Go.Joins
open Go.WideMaps Go.WideElems
open Go.ChangeMaps (setBlock shut_map_nil open_string shut_string keptBut_setBlock frozen?_setBlock heap_setBlock_same)
set_option linter.unusedVariables false
set_option linter.unusedSimpArgs false

theorem own : ownKnob Tryd.prog.godebug = none := by kernel_rfl
theorem laidOut : laidOutB Tryd.prog = true := by kernel_rfl
theorem g0 : Tryd.prog.globalNamed "math/bits.deBruijn32tab" = some 6 := by kernel_rfl
theorem g1 : Tryd.prog.globalNamed "math/bits.deBruijn64tab" = some 7 := by kernel_rfl
theorem tPow : (Tryd.prog.globals[1]?).map (·.type) = some 112 := by kernel_rfl
def laidL : List (String × DataW Unit) := [("math/bits.deBruijn32tab", Rows.laid_math_bits_deBruijn32tab), ("math/bits.deBruijn64tab", Rows.laid_math_bits_deBruijn64tab), ("internal/strconv.uint64pow10", Rows.laid_internal_strconv_uint64pow10)]
/-- The door's own heap meets the condition. -/
theorem door_met (os : Os) (args : Array Value) : laidMetH Tryd.prog laidL ((World.doorLaid Tryd.prog 400 os).forCall (fun _ _ => 0) ⟨#[], args, []⟩).memory :=
  laidMetH_of_parts3 (fuel := 8) (laidMet_of_run' 8 (by kernel_rfl) (by kernel_rfl)) (by kernel_rfl) (by kernel_rfl)
theorem of_laid {W : World} (h : laidMetH Tryd.prog laidL W) : Tab W := by
  rw [MakeChecks.laidMetH_plain _ _ _ (by kernel_rfl)] at h
  obtain ⟨ps, ⟨_, _, _, _, _, _, _, _, _, _, ⟨_, _, _, _, _, _, _, _, _, _, ⟨g2, t2, cs2, f2, p2, q2, hg2, ht2, hv2, hd2, _, _⟩, _⟩, _⟩, _, _⟩ := h
  obtain rfl := Option.some.inj (Tryd.gPow.symm.trans hg2)
  obtain rfl := Option.some.inj (tPow.symm.trans ht2)
  have e : (Rows.laid_internal_strconv_uint64pow10 : DataW Unit) = Lib.tabData .u64 Lib.pow10Tab := by kernel_rfl
  rw [e] at hd2
  unfold Tab Lib.TabIs
  rw [hv2, ← Lib.cells_of_tab Tryd.underlying112 Tryd.underlying94 (by kernel_rfl) (by kernel_rfl) hd2]

set_option maxRecDepth 100000 in
set_option maxHeartbeats 1000000 in
theorem walk (a0x a0y : Int) (a0 : Option Addr) (len0 cap0 : Nat) (z0 : List Av.Blk) (w : World) (w0 : ArgB w a0 len0 cap0 z0) (ht : Tab w) :
    Calls Tryd.prog 3 #[.agg #[.int .i64 a0x, .int .i64 a0y, .slice a0 len0 cap0]] w fun e w' => e = .returned (.bool true) ∧ Below w.heap.size w w' := by
  have wl0 : len0 ≤ maxLen := Nat.le_trans w0.2.1 w0.2.2.1
  by_cases hsum : len0 ≤ 1048576
  case neg =>
    have SZ := Lib.hid (fun (w : World) => Tryd.szCity w a0x a0y a0 len0 cap0 wl0)
    rw [if_pos (by omega)] at SZ
    clear w0
    go_enter Tryd.func3, Tryd.ntmps3
    go_wp2_with (first | (go_at_call 5; refine (SZ.out _).mono ?_; rintro e w1 ⟨rfl, hbW⟩; have hcW := (bcell hbW.below).1; have hfW := (bcell hbW.below).2; (try have hzW : w.heap.size < w1.heap.size := by have hq := hbW.below.size; (try simp at hq); omega); (try have hyW : w.heap.size + 1 < w1.heap.size := by have hq := hbW.below.size; (try simp at hq); omega); (try have hxW : w.heap.size + 2 < w1.heap.size := by have hq := hbW.below.size; (try simp at hq); omega)))
    go_ret
    exact ⟨rfl, Gr.below (by repeat (first | exact Gr.refl _ | refine Gr.alloc ?_ _ | refine Gr.trans ?_ (by assumption) | refine Gr.drew ?_ | refine Gr.drewN ?_ _ | refine Gr.grow ?_ _ | refine Gr.setCell ?_ (by (try simp); (try omega)) _))⟩
  have zl0 : z0.length ≤ 1048576 := by have := w0.1; omega
  have HT := Lib.hid ht
  clear ht
  have HS := Lib.hid (fun (w : World) B v h => Tryd.sCityText w a0x a0y B v z0 (Av.okB a0x a0y z0) rfl zl0 h)
  have HI := Lib.hid (fun (w : World) B v h ht => Tryd.iCityText w a0x a0y B v z0 (Av.okB a0x a0y z0) rfl zl0 ht h)
  generalize txC a0x a0y z0 = T at *
  generalize Av.okB a0x a0y z0 = b at *
  have SZ := Lib.hid (fun (w : World) => Tryd.szCity w a0x a0y a0 len0 cap0 wl0)
  rw [if_neg (by omega)] at SZ
  have zz : ¬ (1048576 : Int) - (len0 : Int) < 0 := by omega
  have WA0 := Lib.hid w0
  have HL0 := Lib.hid hsum
  clear w0
  go_enter Tryd.func3, Tryd.ntmps3
  go_wp2_with (first | (go_at_call 5; refine (SZ.out _).mono ?_; rintro e w1 ⟨rfl, g1⟩; have B1 : Below w.heap.size w w1 := (show Gr w w1 from (by repeat (first | exact Gr.refl _ | refine Gr.alloc ?_ _ | refine Gr.trans ?_ (by assumption) | refine Gr.drew ?_ | refine Gr.drewN ?_ _ | refine Gr.grow ?_ _ | refine Gr.setCell ?_ (by (try simp); (try omega)) _))).below; have g2 : Gr (w.alloc (.cells #[.int .i64 a0x, .int .i64 a0y, .slice a0 len0 cap0] 24)) w1 := (by repeat (first | exact Gr.refl _ | refine Gr.alloc ?_ _ | refine Gr.trans ?_ (by assumption) | refine Gr.drew ?_ | refine Gr.drewN ?_ _ | refine Gr.grow ?_ _ | refine Gr.setCell ?_ (by (try simp); (try omega)) _)); have e0 : w1.cell? ⟨w.heap.size, 0, none⟩ = some (.int .i64 a0x) := g2.keep0 (by simp [go_sem]); have e1 : w1.cell? ⟨w.heap.size, 1, none⟩ = some (.int .i64 a0y) := g2.keep0 (by simp [go_sem]); have e2 : w1.cell? ⟨w.heap.size, 2, none⟩ = some (.slice a0 len0 cap0) := g2.keep0 (by simp [go_sem])))
  refine (Tryd.toCity _ _ _ _ _ _ _ HL0.out (ArgE.below WA0.out B1)).mono ?_
  rintro e wv1 ⟨v1, rfl, c1, d1⟩
  obtain ⟨A1, u1, rfl, c1⟩ := OwnE.eta c1
  have f2_0 := cell_k2 (d1) e0
  have f2_1 := cell_k2 (d1) e1
  have f2_2 := cell_k2 (d1) e2
  clear e0 e1 e2
  have D2 := B1.trans ((d1).mono B1.size)
  have s2 := (d1).size
  have Fr1 := c1
  go_wp2_with fail
  refine (HS.out _ _ _ c1).mono ?_
  rintro e wC3 ⟨rfl, dC3⟩
  have f4_0 := cell_k2 (dC3) f2_0
  have f4_1 := cell_k2 (dC3) f2_1
  have f4_2 := cell_k2 (dC3) f2_2
  clear f2_0 f2_1 f2_2
  have o4_r1 := OwnE.below c1 (dC3) (Nat.le_refl _)
  have D4 := D2.trans ((dC3).mono D2.size)
  have s4 := (dC3).size
  go_wp2_with fail
  refine (Tryd.toCity _ _ _ _ _ _ _ HL0.out (ArgE.below WA0.out D4)).mono ?_
  rintro e wv5 ⟨v5, rfl, c5, d5⟩
  obtain ⟨A5, u5, rfl, c5⟩ := OwnE.eta c5
  have f6_0 := cell_k2 (d5) f4_0
  have f6_1 := cell_k2 (d5) f4_1
  have f6_2 := cell_k2 (d5) f4_2
  clear f4_0 f4_1 f4_2
  have D6 := D4.trans ((d5).mono D4.size)
  have s6 := (d5).size
  have Fr2 := c5
  have g7 := Gr.alloc (Gr.refl wv5) (.cells #[.int .i64 a0x, .int .i64 a0y, .slice A5 z0.length u5] 30)
  have f8_0 := cell_k2 (g7.below) f6_0
  have f8_1 := cell_k2 (g7.below) f6_1
  have f8_2 := cell_k2 (g7.below) f6_2
  clear f6_0 f6_1 f6_2
  have o8_r2 := OwnE.below c5 (g7.below) (Nat.le_refl _)
  have D8 := D6.trans ((g7.below).mono D6.size)
  have s8 := (g7.below).size
  have h7_0 : (wv5.alloc (.cells #[.int .i64 a0x, .int .i64 a0y, .slice A5 z0.length u5] 30)).cell? ⟨wv5.heap.size, 0, none⟩ = some (.int .i64 a0x) := by simp [go_sem]
  have h7_1 : (wv5.alloc (.cells #[.int .i64 a0x, .int .i64 a0y, .slice A5 z0.length u5] 30)).cell? ⟨wv5.heap.size, 1, none⟩ = some (.int .i64 a0y) := by simp [go_sem]
  have h7_2 : (wv5.alloc (.cells #[.int .i64 a0x, .int .i64 a0y, .slice A5 z0.length u5] 30)).cell? ⟨wv5.heap.size, 2, none⟩ = some (.slice A5 z0.length u5) := by simp [go_sem]
  go_wp2_with fail
  refine (HI.out _ _ _ o8_r2 (HT.out.below D8)).mono ?_
  rintro e wC9 ⟨rfl, dC9⟩
  have f10_0 := cell_k2 (dC9) f8_0
  have f10_1 := cell_k2 (dC9) f8_1
  have f10_2 := cell_k2 (dC9) f8_2
  have f10_3 := cell_k2 (dC9) h7_0
  have f10_4 := cell_k2 (dC9) h7_1
  have f10_5 := cell_k2 (dC9) h7_2
  clear f8_0 f8_1 f8_2 h7_0 h7_1 h7_2
  have o10_r2 := OwnE.below o8_r2 (dC9) (Nat.le_refl _)
  have D10 := D8.trans ((dC9).mono D8.size)
  have s10 := (dC9).size
  go_upto_region 10 with fail
  go_region_held3 (fun W' => W'.cell? ⟨w.heap.size, 0, none⟩ = some (.int .i64 a0x) ∧ W'.cell? ⟨w.heap.size, 1, none⟩ = some (.int .i64 a0y) ∧ W'.cell? ⟨w.heap.size, 2, none⟩ = some (.slice a0 len0 cap0) ∧ W'.cell? ⟨wv5.heap.size, 0, none⟩ = some (.int .i64 a0x) ∧ W'.cell? ⟨wv5.heap.size, 1, none⟩ = some (.int .i64 a0y) ∧ W'.cell? ⟨wv5.heap.size, 2, none⟩ = some (.slice A5 z0.length u5))
    (first | exact ⟨f10_0, f10_1, f10_2, f10_3, f10_4, f10_5⟩ | exact ⟨cell_k2 (Below.drew (Below.refl _ _)) f10_0, cell_k2 (Below.drew (Below.refl _ _)) f10_1, cell_k2 (Below.drew (Below.refl _ _)) f10_2, cell_k2 (Below.drew (Below.refl _ _)) f10_3, cell_k2 (Below.drew (Below.refl _ _)) f10_4, cell_k2 (Below.drew (Below.refl _ _)) f10_5⟩ | exact keep6 dA11 (by assumption) | exact keep6 dE11.below (by assumption))
    ((first | (go_at_call 7; refine (Tryd.toCity _ _ _ _ _ _ _ HL0.out (ArgE.below WA0.out (by first | exact D10 | exact Below.drew D10))).mono ?_; rintro e wA11 ⟨vA11, rfl, cA11, dA11⟩) | (go_at_call 9; refine (Tryd.eqCity _ _ _ _ _ _ _ _ (OwnE.below (by first | exact o10_r2 | exact OwnE.below o10_r2 (Below.drew (Below.refl _ _)) (Nat.le_refl _)) dA11 (Nat.le_refl _)) cA11).mono ?_; rintro e wE11 ⟨rfl, dE11⟩)))
  have f12_0 := cell_k2 ((show Below wC9.heap.size wC9 _ by first | exact dA11 | exact Below.trans (Below.drew (Below.refl _ _)) dA11)) f10_0
  have f12_1 := cell_k2 ((show Below wC9.heap.size wC9 _ by first | exact dA11 | exact Below.trans (Below.drew (Below.refl _ _)) dA11)) f10_1
  have f12_2 := cell_k2 ((show Below wC9.heap.size wC9 _ by first | exact dA11 | exact Below.trans (Below.drew (Below.refl _ _)) dA11)) f10_2
  have f12_3 := cell_k2 ((show Below wC9.heap.size wC9 _ by first | exact dA11 | exact Below.trans (Below.drew (Below.refl _ _)) dA11)) f10_3
  have f12_4 := cell_k2 ((show Below wC9.heap.size wC9 _ by first | exact dA11 | exact Below.trans (Below.drew (Below.refl _ _)) dA11)) f10_4
  have f12_5 := cell_k2 ((show Below wC9.heap.size wC9 _ by first | exact dA11 | exact Below.trans (Below.drew (Below.refl _ _)) dA11)) f10_5
  clear f10_0 f10_1 f10_2 f10_3 f10_4 f10_5
  have o12_r2 := OwnE.below o10_r2 ((show Below wC9.heap.size wC9 _ by first | exact dA11 | exact Below.trans (Below.drew (Below.refl _ _)) dA11)) (Nat.le_refl _)
  have D12 := D10.trans (((show Below wC9.heap.size wC9 _ by first | exact dA11 | exact Below.trans (Below.drew (Below.refl _ _)) dA11)).mono D10.size)
  have s12 := ((show Below wC9.heap.size wC9 _ by first | exact dA11 | exact Below.trans (Below.drew (Below.refl _ _)) dA11)).size
  have f13_0 := cell_k2 (dE11.below) f12_0
  have f13_1 := cell_k2 (dE11.below) f12_1
  have f13_2 := cell_k2 (dE11.below) f12_2
  have f13_3 := cell_k2 (dE11.below) f12_3
  have f13_4 := cell_k2 (dE11.below) f12_4
  have f13_5 := cell_k2 (dE11.below) f12_5
  clear f12_0 f12_1 f12_2 f12_3 f12_4 f12_5
  have o13_r2 := OwnE.below o12_r2 (dE11.below) (Nat.le_refl _)
  have D13 := D12.trans ((dE11.below).mono D12.size)
  have s13 := (dE11.below).size
  go_wp2_with fail
  go_ret
  exact ⟨rfl, D13⟩

set_option maxRecDepth 100000 in
theorem lifted (os : Os) (started : os.Started) (H : Type) (enc : TypeId × Value → H) :
    ReturnsInHanded {} Tryd.checked os 3 .any (fun w args => (Rows.fnExactCityTextSpec.pre enc Tryd.prog Tryd.f3 [] false w args ∧ laidMetH Tryd.prog laidL w) ∧ sizedMet enc Tryd.prog Tryd.f3 (OpenSpec.ofChange Rows.fnExactCityTextSpec) false w args)
      (Rows.fnExactCityTextSpec.post enc Tryd.prog Tryd.f3 false true false false) := by
  refine returnsInHanded_of_change_and (C := Tryd.checked) (X := fun w _ => laidMetH Tryd.prog laidL w) (fun _ _ _ hh h => h.of_heap hh) own started (by kernel_rfl) Tryd.func3
    (ChangeSpec.witness_shaped (enc := enc) (C := Tryd.checked) (os := os) (X := fun w _ => laidMetH Tryd.prog laidL w) false (World.doorLaid Tryd.prog 400 os) #[.agg #[.int .i64 0, .int .i64 0, .slice none 0 0]] 8 rfl (World.shaped_of_RefB (by kernel_rfl) (by kernel_rfl)) (by kernel_rfl) (by kernel_rfl) (by kernel_rfl) (door_met os _)) ?_
  intro W base args ds gs before hval0 hW _ _ hL _
  have hval : ∀ (j : Nat) t v, Tryd.f3.params[j]? = some t → args[j]? = some v → Value.okWide Tryd.prog W .any base t v := hval0
  have hW' := hW
  obtain ⟨p, q, hA0, hV, rfl, hfz, hnd⟩ := hW
  have hA : DataW.TrodAll enc Tryd.prog W 0 (fun _ => true) true Tryd.f3.params.toList args.toList ds p := hA0
  rw [Tryd.params3] at hA hval
  obtain ⟨v0, vs0, d0, ds0, p0, q0, hargs, rfl, rfl, h0, r0⟩ := trodAll_cons hA
  obtain ⟨rfl, rfl, rfl⟩ := trodAll_nil r0
  obtain rfl : args = #[v0] := by cases args; simp_all
  obtain ⟨rfl, rfl⟩ := trodVars_none hV
  have k0 := h0
  have lt0 : ∀ x ∈ p0, x.block < W.heap.size := by obtain ⟨m, hm⟩ := k0; exact DataW.trod_lt m _ _ _ hm
  obtain ⟨c0x, c0y, c0z, y0x, y0y, y0z, m0, rfl, rfl, rfl, hy0x, hy0y, hy0z⟩ := open_agg3 Tryd.underlying24 (by kernel_rfl) (show Tryd.prog.cellsOf 24 = 3 by kernel_rfl) (hval 0 24 v0 rfl rfl) h0
  obtain ⟨a0x, e0x, rfl, _⟩ := DataW.trod_int Tryd.underlying3 hy0x
  obtain ⟨a0y, e0y, rfl, _⟩ := DataW.trod_int Tryd.underlying3 hy0y
  obtain ⟨a0, len0, cap0, e0z⟩ := slice_form Tryd.underlying22 hy0z
  simp at e0x e0y e0z
  subst e0x e0y e0z
  obtain ⟨z0, w0⟩ := ArgE.of_trod Av.b0 (by decide) bcs_len Tryd.underlying22 (by kernel_rfl) (fun n cs x h => block_of_trod Tryd.underlying61 (by kernel_rfl) rfl rfl rfl (by kernel_rfl) (by kernel_rfl) (by kernel_rfl) Tryd.underlying3 Tryd.underlying3 Tryd.underlying4 n cs x h) hy0z
  have hT := of_laid hL
  clear hA0 hval0
  simp only [List.append_nil] at hW'
  refine (walk a0x a0y a0 len0 cap0 z0 W w0 hT).mono fun e W' ⟨he, bel⟩ => ?_
  subst he
  exact ⟨_, rfl, _, _, _, [], _, [], hW', trodAll_mk1 (shut_bool Tryd.underlying4 _), (trodAll_cons_mk (Below.trod laidOut (by kernel_rfl) (of_decide_eq_true (by kernel_rfl)) k0 bel lt0) trodAll_mk0), rfl, bel.frame _, fun h => by cases h⟩

theorem over : Rows.FnExactCityTextSaid :=
  OpenClaim.holds_of_wide 3 Tryd.f3 rfl rfl rfl rfl rfl rfl rfl ⟨rfl, rfl, rfl, rfl, rfl⟩ rfl rfl rfl rfl rfl (by kernel_rfl) Tryd.func3 (show joinedFacts Tryd.prog 3 Tryd.f3 Rows.fnExactCityTextSpec Rows.fnExactCityTextRow = true by unfold joinedFacts; rw [Tryd.frMake, Tryd.frEnter, Tryd.frLifts]; kernel_rfl)
    (of_decide_eq_true (by kernel_rfl)) (by unfold Func.isWrapper; first | (rw [if_pos (by decide +kernel)]; kernel_rfl) | (rw [if_neg (by decide +kernel)]; exact ⟨rfl, rfl⟩))
    (fun os started H enc _ => lifted os started H enc)

/-- The statement: the tied card. -/
theorem proved : Rows.FnExactCityTextCardSaid :=
  Claim7.holds_tied_plain_at .later [] [.data, .data, .data] true (true, "145bb2db5170646a775c0c713a936a414e999b16acad170fea4ec68cd1b21d4b") true
    over (fun _ h => by cases h) (by kernel_rfl) (fun _ h => by cases h) fnExactCityText_row_tie rfl ⟨rfl, rfl⟩ (by kernel_rfl) rfl
    (fun f fn hf hfn => by
      obtain rfl : f = 3 := Option.some.inj ((show Tryd.prog.funcNamed "loop.example/g01336/laws.FnExactCityText" = some 3 by kernel_rfl).symm.trans hf) |>.symm
      obtain rfl : fn = Tryd.f3 := (Option.some.inj (Tryd.func3.symm.trans hfn)).symm
      exact ⟨by kernel_rfl, fun j t ht => by
        rw [Tryd.params3] at ht
        have hm : t ∈ [24] := by simpa using Array.mem_of_getElem? ht
        have hall : ([24].all fun u => !Tryd.prog.wantsStandIn u) = true := by kernel_rfl
        exact (show Tryd.prog.wantsStandIn t = false by simpa using List.all_eq_true.1 hall t hm)⟩)
    (by kernel_rfl)
#print axioms proved
end Go.Proofs.YtedkkmnoldghmaaDoor.fnExactCityText
