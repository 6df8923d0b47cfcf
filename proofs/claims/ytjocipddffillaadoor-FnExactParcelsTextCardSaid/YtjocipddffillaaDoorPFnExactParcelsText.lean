/-
  'FnExactParcelsText' answers true at every argument and leaves its arguments as they were: the function of the program and its model give the same results. What the library's own tables hold is tied to the program's text.
-/
import Derived.Test.YtjocipddffillaaDoorCards
import Derived.Test.YtjocipddffillaaDoorTie
import Derived.WalkKit
import Derived.ProofKit
import Derived.LaidMore
import Derived.OpenShut
import Derived.Stop.Joined
import Derived.SevenTiedAt
import Derived.Lib.SmallJoins
import Derived.Lib.LaidTab
import Derived.Stop.LaidErr
import Derived.Carry
import Derived.Test.YtjocipddffillaaDoorBgY
namespace Go.Proofs.YtjocipddffillaaDoor.fnExactParcelsText
open Go.ChangeShapes Go.WideShapes Go.ChangeAt Go.RowKit Go.Joins
open Go.WideMaps Go.WideElems
open Go.ChangeMaps (setBlock shut_map_nil open_string shut_string keptBut_setBlock frozen?_setBlock heap_setBlock_same)
set_option linter.unusedVariables false
set_option linter.unusedSimpArgs false

theorem own : ownKnob Tryd.prog.godebug = none := by kernel_rfl
theorem laidOut : laidOutB Tryd.prog = true := by kernel_rfl
theorem g0 : Tryd.prog.globalNamed "math/bits.deBruijn32tab" = some 6 := by kernel_rfl
theorem g1 : Tryd.prog.globalNamed "math/bits.deBruijn64tab" = some 7 := by kernel_rfl
theorem tPow : (Tryd.prog.globals[3]?).map (·.type) = some 97 := by kernel_rfl
def laidL : List (String × DataW Unit) := [("math/bits.deBruijn32tab", Rows.laid_math_bits_deBruijn32tab), ("math/bits.deBruijn64tab", Rows.laid_math_bits_deBruijn64tab), ("internal/strconv.uint64pow10", Rows.laid_internal_strconv_uint64pow10)]
/-- The door's own heap meets the condition. -/
theorem door_met (os : Os) (args : Array Value) : laidMetH Tryd.prog laidL ((World.doorLaid Tryd.prog 400 os).forCall (fun _ _ => 0) ⟨#[], args, []⟩).memory :=
  laidMetH_of_parts3 (fuel := 8) (laidMet_of_run' 8 (by kernel_rfl) (by kernel_rfl)) (by kernel_rfl) (by kernel_rfl)
theorem of_laid {W : World} (h : laidMetH Tryd.prog laidL W) : Tab W := by
  rw [MakeChecks.laidMetH_plain _ _ _ (by kernel_rfl)] at h
  obtain ⟨ps, ⟨_, _, _, _, _, _, _, _, _, _, ⟨_, _, _, _, _, _, _, _, _, _, ⟨g2, t2, cs2, f2, p2, q2, hg2, ht2, hv2, hd2, _, _⟩, _⟩, _⟩, _, _⟩ := h
  obtain rfl := Option.some.inj (Tryd.gPow.symm.trans hg2)
  obtain rfl := Option.some.inj (tPow.symm.trans ht2)
  have e : (Rows.laid_internal_strconv_uint64pow10 : DataW Unit) = Lib.tabData .u64 Lib.pow10Tab := by kernel_rfl
  rw [e] at hd2
  unfold Tab Lib.TabIs
  rw [hv2, ← Lib.cells_of_tab Tryd.underlying97 Tryd.underlying79 (by kernel_rfl) (by kernel_rfl) hd2]

set_option maxRecDepth 100000 in
set_option maxHeartbeats 1000000 in
theorem walk (a0 : Option Addr) (len0 cap0 : Nat) (z0 : List Pi2) (w : World) (w0 : ArgP w a0 len0 cap0 z0) (ht : Tab w) :
    Calls Tryd.prog 3 #[.slice a0 len0 cap0] w fun e w' => e = .returned (.bool true) ∧ Below w.heap.size w w' := by
  by_cases hsum : len0 ≤ 1048576
  case neg =>
    have wl : len0 ≤ maxLen := Nat.le_trans w0.2.1 w0.2.2.1
    have SZ := Lib.hid (fun (w : World) => Tryd.szParcelS w a0 len0 cap0 1048576 (by omega) (by omega) wl)
    rw [if_pos (by omega)] at SZ
    clear w0 ht
    go_enter Tryd.func3, Tryd.ntmps3
    go_wp2_with (first | (go_at_call 5; refine (SZ.out _).mono ?_; rintro e w1 ⟨rfl, rfl⟩))
    go_ret
    exact ⟨rfl, Gr.below (by repeat (first | exact Gr.refl _ | refine Gr.alloc ?_ _ | refine Gr.trans ?_ (by assumption) | refine Gr.drew ?_ | refine Gr.drewN ?_ _ | refine Gr.grow ?_ _ | refine Gr.setCell ?_ (by (try simp); (try omega)) _))⟩
  have hl0 : len0 ≤ 1048576 := by omega
  have zl0 : (z0).length ≤ 1048576 := by have := w0.1; omega
  obtain ⟨b, hb⟩ := exbG (GoodB z0)
  have HS := Lib.hid (fun (w : World) B v h => Tryd.sParcelsText w B v z0 b hb zl0 h)
  have HI := Lib.hid (fun (w : World) B v h ht => Tryd.iParcelsText w B v z0 b hb zl0 ht h)
  generalize txB z0 b = T at *
  have WA0 := Lib.hid w0
  have HL0 := Lib.hid hl0
  have wl0 : len0 ≤ maxLen := Nat.le_trans (WA0.out.2.1) (WA0.out.2.2.1)
  have HT := Lib.hid ht
  clear w0 hl0 ht
  have SZ0 := Lib.hid (fun (w : World) => (Tryd.szParcelS w a0 len0 cap0 (1048576) (by omega) (by omega) wl0))
  rw [if_neg (by have := HL0.out; have := hsum; omega)] at SZ0
  go_enter Tryd.func3, Tryd.ntmps3
  go_wp2_with (first | (go_at_call_of 5 (Value.slice a0 len0 cap0); refine (SZ0.out _).mono ?_; rintro e w1 ⟨rfl, rfl⟩))
  refine (Tryd.toParcelS _ _ _ _ _ HL0.out WA0.out).mono ?_
  rintro e wv1 ⟨v1, rfl, c1, d1⟩
  have b1 := d1
  have s1 := b1.size
  have B1 := b1
  have F1 := c1
  go_wp2_with fail
  refine (HS.out _ _ _ c1).mono ?_
  rintro e wv2 ⟨rfl, d2⟩
  have b2 := d2.below
  have s2 := b2.size
  have o2_1 := c1.below b2 (Nat.le_refl _)
  have B2 := B1.trans (b2.mono B1.size)
  go_wp2_with fail
  refine (Tryd.toParcelS _ _ _ _ _ HL0.out (WA0.out.below B2)).mono ?_
  rintro e wv3 ⟨v3, rfl, c3, d3⟩
  have b3 := d3
  have s3 := b3.size
  have o3_1 := o2_1.below b3 (Nat.le_refl _)
  have B3 := B2.trans (b3.mono B2.size)
  have F2 := c3
  go_wp2_with fail
  refine (HI.out _ _ _ c3 (HT.out.below B3)).mono ?_
  rintro e wv4 ⟨rfl, d4⟩
  have b4 := d4
  have s4 := b4.size
  have o4_1 := o3_1.below b4 (Nat.le_refl _)
  have o4_2 := c3.below b4 (Nat.le_refl _)
  have B4 := B3.trans (b4.mono B3.size)
  go_wp2_with fail
  refine (Tryd.toParcelS _ _ _ _ _ HL0.out (WA0.out.below B4)).mono ?_
  rintro e wv5 ⟨v5, rfl, c5, d5⟩
  have b5 := d5
  have s5 := b5.size
  have o5_1 := o4_1.below b5 (Nat.le_refl _)
  have o5_2 := o4_2.below b5 (Nat.le_refl _)
  have B5 := B4.trans (b5.mono B4.size)
  go_wp2_with fail
  refine (Tryd.eqParcelS _ _ _ _ _ _ o5_2 c5).mono ?_
  rintro e wv6 ⟨rfl, d6⟩
  have b6 := d6.below
  have s6 := b6.size
  have o6_1 := o5_1.below b6 (Nat.le_refl _)
  have o6_2 := o5_2.below b6 (Nat.le_refl _)
  have o6_3 := c5.below b6 (Nat.le_refl _)
  have B6 := B5.trans (b6.mono B5.size)
  go_wp2_with fail
  go_ret
  exact ⟨rfl, B6⟩

set_option maxRecDepth 100000 in
theorem lifted (os : Os) (started : os.Started) (H : Type) (enc : TypeId × Value → H) :
    ReturnsInHanded {} Tryd.checked os 3 .any (fun w args => (Rows.fnExactParcelsTextSpec.pre enc Tryd.prog Tryd.f3 [] false w args ∧ laidMetH Tryd.prog laidL w) ∧ sizedMet enc Tryd.prog Tryd.f3 (OpenSpec.ofChange Rows.fnExactParcelsTextSpec) false w args)
      (Rows.fnExactParcelsTextSpec.post enc Tryd.prog Tryd.f3 false true false false) := by
  refine returnsInHanded_of_change_and (C := Tryd.checked) (X := fun w _ => laidMetH Tryd.prog laidL w) (fun _ _ _ hh h => h.of_heap hh) own started (by kernel_rfl) Tryd.func3
    (ChangeSpec.witness_shaped (enc := enc) (C := Tryd.checked) (os := os) (X := fun w _ => laidMetH Tryd.prog laidL w) false (World.doorLaid Tryd.prog 400 os) #[.slice none 0 0] 8 rfl (World.shaped_of_RefB (by kernel_rfl) (by kernel_rfl)) (by kernel_rfl) (by kernel_rfl) (by kernel_rfl) (door_met os _)) ?_
  intro W base args ds gs before hval0 hW _ _ hL _
  have hval : ∀ (j : Nat) t v, Tryd.f3.params[j]? = some t → args[j]? = some v → Value.okWide Tryd.prog W .any base t v := hval0
  have hW' := hW
  obtain ⟨p, q, hA0, hV, rfl, hfz, hnd⟩ := hW
  have hA : DataW.TrodAll enc Tryd.prog W 0 (fun _ => true) true Tryd.f3.params.toList args.toList ds p := hA0
  rw [Tryd.params3] at hA hval
  obtain ⟨v0, vs0, d0, ds0, p0, q0, hargs, rfl, rfl, h0, r0⟩ := trodAll_cons hA
  obtain ⟨rfl, rfl, rfl⟩ := trodAll_nil r0
  obtain rfl : args = #[v0] := by cases args; simp_all
  obtain ⟨rfl, rfl⟩ := trodVars_none hV
  obtain ⟨a0, len0, cap0, rfl⟩ := okWide_slice Tryd.underlying22 (hval 0 22 v0 rfl rfl)
  have k0 := h0
  have lt0 : ∀ x ∈ p0, x.block < W.heap.size := by obtain ⟨m, hm⟩ := k0; exact DataW.trod_lt m _ _ _ hm
  obtain ⟨z0, w0⟩ : ∃ zs, ArgP W a0 len0 cap0 zs := by
    obtain ⟨fuel, hf⟩ := h0
    exact ArgP.of_trod Tryd.underlying22 Tryd.underlying39 (by kernel_rfl) rfl rfl (by kernel_rfl) (by kernel_rfl) Tryd.underlying3 Tryd.underlying3 hf
  have hT := of_laid hL
  clear hA0 hval0
  simp only [List.append_nil] at hW'
  refine (walk a0 len0 cap0 z0 W w0 hT).mono fun e W' ⟨he, bel⟩ => ?_
  subst he
  exact ⟨_, rfl, _, _, _, [], _, [], hW', trodAll_mk1 (shut_bool Tryd.underlying4 _), (trodAll_cons_mk (Below.trod laidOut (by kernel_rfl) (of_decide_eq_true (by kernel_rfl)) k0 bel lt0) trodAll_mk0), rfl, bel.frame _, fun h => by cases h⟩

theorem over : Rows.FnExactParcelsTextSaid :=
  OpenClaim.holds_of_wide 3 Tryd.f3 rfl rfl rfl rfl rfl rfl rfl ⟨rfl, rfl, rfl, rfl, rfl⟩ rfl rfl rfl rfl rfl (by kernel_rfl) Tryd.func3 (by kernel_rfl)
    (of_decide_eq_true (by kernel_rfl)) (by unfold Func.isWrapper; first | (rw [if_pos (by decide +kernel)]; kernel_rfl) | (rw [if_neg (by decide +kernel)]; exact ⟨rfl, rfl⟩))
    (fun os started H enc _ => lifted os started H enc)

/-- The statement: the tied card. -/
theorem proved : Rows.FnExactParcelsTextCardSaid :=
  Claim7.holds_tied_plain_at .later [] [.data, .data, .data] true (true, "ba7e4230d95cfe80b565d3bf6f00b3c97c81531159b2506810ddaf3a6630f369") true
    over (fun _ h => by cases h) (by kernel_rfl) (fun _ h => by cases h) fnExactParcelsText_row_tie rfl ⟨rfl, rfl⟩ (by kernel_rfl) rfl
    (fun f fn hf hfn => by
      obtain rfl : f = 3 := Option.some.inj ((show Tryd.prog.funcNamed "loop.example/g01336/laws.FnExactParcelsText" = some 3 by kernel_rfl).symm.trans hf) |>.symm
      obtain rfl : fn = Tryd.f3 := (Option.some.inj (Tryd.func3.symm.trans hfn)).symm
      exact ⟨by kernel_rfl, fun j t ht => by
        rw [Tryd.params3] at ht
        have hm : t ∈ [22] := by simpa using Array.mem_of_getElem? ht
        have hall : ([22].all fun u => !Tryd.prog.wantsStandIn u) = true := by kernel_rfl
        exact (show Tryd.prog.wantsStandIn t = false by simpa using List.all_eq_true.1 hall t hm)⟩)
    (by kernel_rfl)
#print axioms proved
end Go.Proofs.YtjocipddffillaaDoor.fnExactParcelsText
