/-
  'FnExactLongestDrive' answers true at every argument and leaves its arguments as they were: the function of the program and its model give the same results. What the library's own tables hold is tied to the program's text.
-/
import Derived.Test.YtmklniikhdfaiaaDoorCards
import Derived.Test.YtmklniikhdfaiaaDoorTie
import Derived.WalkKit
import Derived.ProofKit
import Derived.LaidMore
import Derived.OpenShut
import Derived.Stop.Joined
import Derived.SevenTiedAt
import Derived.Lib.SmallJoins
import Derived.Carry
import Derived.Lay
import Derived.Test.YtmklniikhdfaiaaDoorLgB
import Derived.Test.YtmklniikhdfaiaaDoorArgs
import Derived.Test.YtmklniikhdfaiaaDoorLiT
namespace Go.Proofs.YtmklniikhdfaiaaDoor.fnExactLongestDrive
open Go.ChangeShapes Go.WideShapes Go.ChangeAt Go.RowKit Go.Joins
open Go.WideMaps Go.WideElems
open Go.ChangeMaps (setBlock shut_map_nil open_string shut_string keptBut_setBlock frozen?_setBlock heap_setBlock_same)
set_option linter.unusedVariables false
set_option linter.unusedSimpArgs false

theorem own : ownKnob Tryd.prog.godebug = none := by kernel_rfl
def laidL : List (String × DataW Unit) := [("unicode/utf8.acceptRanges", Rows.laid_unicode_utf8_acceptRanges), ("unicode/utf8.first", Rows.laid_unicode_utf8_first)]
/-- A heap that holds the listed variables meets the condition. -/
theorem door_met (os : Os) (args : Array Value) : laidMetH Tryd.prog laidL ((World.laidAll Tryd.prog os laidL).forCall (fun _ _ => 0) ⟨#[], args, []⟩).memory := by
  rw [MakeChecks.laidMetH_plain _ _ _ (by kernel_rfl)]
  exact laidMet_laidAll _ (by kernel_rfl) (by kernel_rfl)

theorem cell_gb {w w' : World} {row : Option Nat} (d : w.grownBy w' row) {b o : Nat} {v : Value} (h : w.cell? ⟨b, o, none⟩ = some v) (hne : some b ≠ row) : w'.cell? ⟨b, o, none⟩ = some v := by
  have hb := World.block_lt_of_cell? _ _ h
  have e := d.block b hb hne
  unfold World.cell? at *
  simp only at *
  rw [e]
  exact h
set_option maxRecDepth 100000 in
set_option maxHeartbeats 1000000 in
theorem walk (a0x a0y : ByteArray) (w0x : a0x.size ≤ maxLen) (w0y : a0y.size ≤ maxLen) (w : World) :
    Calls Tryd.prog 3 #[.agg #[.string a0x, .string a0y]] w fun e w' => e = .returned (.bool true) ∧ Below w.heap.size w w' := by
  by_cases hsum : a0x.size + a0y.size ≤ 1048576
  case neg =>
    have SZ := Lib.hid (fun (w : World) => Tryd.szWays w a0x a0y w0x w0y _ rfl)
    rw [if_neg hsum] at SZ
    go_enter Tryd.func3, Tryd.ntmps3
    go_wp2_with (first | (go_at_call 5; refine (SZ.out _).mono ?_; rintro e w1 ⟨rfl, hbW⟩; have hcW := (bcell hbW.below).1; have hfW := (bcell hbW.below).2; (try have hzW : w.heap.size < w1.heap.size := by have hq := hbW.below.size; (try simp at hq); omega); (try have hyW : w.heap.size + 1 < w1.heap.size := by have hq := hbW.below.size; (try simp at hq); omega); (try have hxW : w.heap.size + 2 < w1.heap.size := by have hq := hbW.below.size; (try simp at hq); omega)))
    go_ret
    exact ⟨rfl, Gr.below (by repeat (first | exact Gr.refl _ | refine Gr.alloc ?_ _ | refine Gr.trans ?_ (by assumption) | refine Gr.drew ?_ | refine Gr.drewN ?_ _ | refine Gr.grow ?_ _ | refine Gr.setCell ?_ (by (try simp); (try omega)) _))⟩
  obtain ⟨b, hb⟩ : ∃ b, whW a0x a0y = b := ⟨_, rfl⟩
  have HS := Lib.hid (fun (w : World) => Tryd.sLongestDrive w a0x a0y w0x w0y b hb)
  have HI := Lib.hid (fun (w : World) => Tryd.iLongestDrive w a0x a0y (by omega) (by omega) b hb)
  have hlA : (lgA a0x a0y).length ≤ 2 := by unfold lgA; split <;> simp
  have hlen0 : (lgA a0x a0y).length ≤ 1000000000 := (by unfold lgA; split <;> simp)
  have hlen1 : (lgB a0x a0y).length ≤ 1000000000 := (by unfold lgB; split <;> simp)
  generalize lgA a0x a0y = zA at *
  generalize lgB a0x a0y = zB at *
  generalize lgD a0x a0y = zD at *
  have SZ := Lib.hid (fun (w : World) => Tryd.szWays w a0x a0y w0x w0y _ rfl)
  rw [if_pos hsum] at SZ
  have zz : ¬ (1048576 : Int) - (a0x.size : Int) - (a0y.size : Int) < 0 := by omega
  go_enter Tryd.func3, Tryd.ntmps3
  have B0 : Below w.heap.size w (w.alloc (.cells #[.string a0x, .string a0y] 23)) := (Gr.alloc (Gr.refl _) _).below
  have e0_0 : (w.alloc (.cells #[.string a0x, .string a0y] 23)).cell? ⟨w.heap.size, 0, none⟩ = some (.string a0x) := by simp [go_sem]
  have e0_1 : (w.alloc (.cells #[.string a0x, .string a0y] 23)).cell? ⟨w.heap.size, 1, none⟩ = some (.string a0y) := by simp [go_sem]
  have sA0 : (w.alloc (.cells #[.string a0x, .string a0y] 23)).heap.size = w.heap.size + 1 := by simp
  go_wp2_with fail
  refine (SZ.out _).mono ?_
  rintro e wv1 ⟨rfl, d1⟩
  have b1 := d1.below
  have s1 := b1.size
  have e1_0 := cell_k2 b1 e0_0
  have e1_1 := cell_k2 b1 e0_1
  clear e0_0 e0_1
  have B1 := B0.trans (b1.mono B0.size)
  clear B0 b1
  go_wp2_with fail
  refine (Tryd.toWays _ _ _).mono ?_
  rintro e wv2 ⟨rfl, d2⟩
  have b2 := d2.below
  have s2 := b2.size
  have e2_0 := cell_k2 b2 e1_0
  have e2_1 := cell_k2 b2 e1_1
  clear e1_0 e1_1
  have B2 := B1.trans (b2.mono B1.size)
  clear B1 b2
  go_wp2_with fail
  refine (HS.out _ ).mono ?_
  rintro e wv3 ⟨v3_0, v3_1, rfl, c3_0, c3_1, d3⟩
  have b3 := d3
  have s3 := b3.size
  have e3_0 := cell_k2 b3 e2_0
  have e3_1 := cell_k2 b3 e2_1
  clear e2_0 e2_1
  have B3 := B2.trans (b3.mono B2.size)
  clear B2 b3
  have F1 := c3_0
  have F2 := c3_1
  go_wp2_with fail
  refine (Tryd.toWays _ _ _).mono ?_
  rintro e wv4 ⟨rfl, d4⟩
  have b4 := d4.below
  have s4 := b4.size
  have e4_0 := cell_k2 b4 e3_0
  have e4_1 := cell_k2 b4 e3_1
  clear e3_0 e3_1
  have o4_1 := c3_0.below b4 (Nat.le_refl _)
  have o4_2 := c3_1.below b4 (Nat.le_refl _)
  have B4 := B3.trans (b4.mono B3.size)
  clear c3_0 c3_1 B3 b4
  go_wp2_with fail
  refine (HI.out _ ).mono ?_
  rintro e wv5 ⟨v5_0, v5_1, rfl, c5_0, c5_1, hNE, d5⟩
  have b5 := d5
  have s5 := b5.size
  have e5_0 := cell_k2 b5 e4_0
  have e5_1 := cell_k2 b5 e4_1
  clear e4_0 e4_1
  have o5_1 := o4_1.below b5 (Nat.le_refl _)
  have o5_2 := o4_2.below b5 (Nat.le_refl _)
  have B5 := B4.trans (b5.mono B4.size)
  clear o4_1 o4_2 B4 b5
  have F3 := c5_0
  have F4 := c5_1
  go_wp2_with fail
  refine (Tryd.eqIntT _ _ _ _ _ _ c5_0 o5_1).mono ?_
  rintro e wv6 ⟨rfl, d6⟩
  have b6 := d6.below
  have s6 := b6.size
  have e6_0 := cell_k2 b6 e5_0
  have e6_1 := cell_k2 b6 e5_1
  clear e5_0 e5_1
  have o6_1 := o5_1.below b6 (Nat.le_refl _)
  have o6_2 := o5_2.below b6 (Nat.le_refl _)
  have o6_3 := c5_0.below b6 (Nat.le_refl _)
  have o6_4 := c5_1.below b6 (Nat.le_refl _)
  have B6 := B5.trans (b6.mono B5.size)
  clear o5_1 o5_2 c5_0 c5_1 B5 b6
  go_wp2_with fail
  refine (Tryd.eqIntT _ _ _ _ _ _ o6_4 o6_2).mono ?_
  rintro e wv7 ⟨rfl, d7⟩
  have b7 := d7.below
  have s7 := b7.size
  have e7_0 := cell_k2 b7 e6_0
  have e7_1 := cell_k2 b7 e6_1
  clear e6_0 e6_1
  have o7_1 := o6_1.below b7 (Nat.le_refl _)
  have o7_2 := o6_2.below b7 (Nat.le_refl _)
  have o7_3 := o6_3.below b7 (Nat.le_refl _)
  have o7_4 := o6_4.below b7 (Nat.le_refl _)
  have B7 := B6.trans (b7.mono B6.size)
  clear o6_1 o6_2 o6_3 o6_4 B6 b7
  go_wp2_with fail
  refine (Tryd.markIntT _ _ _ _ (1) (by omega) (by omega) hlen0 o7_3).mono ?_
  rintro e wv8 ⟨rfl, c8, d8⟩
  have s8 := d8.size
  have o8_1 := o7_1.grown d8 (own_ne' F1 F3 (by omega))
  have o8_2 := o7_2.grown d8 (own_ne' F2 F3 (by omega))
  have o8_4 := o7_4.grown d8 hNE.2
  have e8_0 := cell_gb d8 e7_0 (fun q => by have := (World.ownsRow.lt F3 _ q.symm).1; omega)
  have e8_1 := cell_gb d8 e7_1 (fun q => by have := (World.ownsRow.lt F3 _ q.symm).1; omega)
  clear e7_0 e7_1
  have b8 := Below.grown (Below.refl w.heap.size _) d8 (by omega) (fun j hj => by have := (World.ownsRow.lt F3 j hj).1; omega)
  have B8 := B7.trans b8
  go_wp2_with fail
  refine (Tryd.markIntT _ _ _ _ (1 + ((zA).length : Int)) (by omega) (by omega) hlen1 o8_4).mono ?_
  rintro e wv9 ⟨rfl, c9, d9⟩
  have s9 := d9.size
  have o9_1 := o8_1.grown d9 (own_ne' F1 F4 (by omega))
  have o9_2 := o8_2.grown d9 (own_ne' F2 F4 (by omega))
  have o9_3 := c8.grown d9 hNE.1
  have e9_0 := cell_gb d9 e8_0 (fun q => by have := (World.ownsRow.lt F4 _ q.symm).1; omega)
  have e9_1 := cell_gb d9 e8_1 (fun q => by have := (World.ownsRow.lt F4 _ q.symm).1; omega)
  clear e8_0 e8_1
  have b9 := Below.grown (Below.refl w.heap.size _) d9 (by omega) (fun j hj => by have := (World.ownsRow.lt F4 j hj).1; omega)
  have B9 := B8.trans b9
  go_wp2_with fail
  refine (Tryd.heldIntT _ _ _ _ (1) (by omega) (by omega) hlen0 o9_3).mono ?_
  rintro e wv10 ⟨rfl, rfl⟩
  go_wp2_with fail
  refine (Tryd.heldIntT _ _ _ _ (1 + ((zA).length : Int)) (by omega) (by omega) hlen1 c9).mono ?_
  rintro e wv11 ⟨rfl, rfl⟩
  go_wp2_with fail
  refine (Tryd.toWays _ _ _).mono ?_
  rintro e wv12 ⟨rfl, d12⟩
  have b12 := d12.below
  have s12 := b12.size
  have e12_0 := cell_k2 b12 e9_0
  have e12_1 := cell_k2 b12 e9_1
  clear e9_0 e9_1
  have o12_1 := o9_1.below b12 (Nat.le_refl _)
  have o12_2 := o9_2.below b12 (Nat.le_refl _)
  have o12_3 := o9_3.below b12 (Nat.le_refl _)
  have o12_4 := c9.below b12 (Nat.le_refl _)
  have B12 := B9.trans (b12.mono B9.size)
  clear o9_1 o9_2 o9_3 c9 B9 b12
  go_wp2_with fail
  refine (HI.out _ ).mono ?_
  rintro e wv13 ⟨v13_0, v13_1, rfl, c13_0, c13_1, hNE2, d13⟩
  have b13 := d13
  have s13 := b13.size
  have e13_0 := cell_k2 b13 e12_0
  have e13_1 := cell_k2 b13 e12_1
  clear e12_0 e12_1
  have o13_1 := o12_1.below b13 (Nat.le_refl _)
  have o13_2 := o12_2.below b13 (Nat.le_refl _)
  have o13_3 := o12_3.below b13 (Nat.le_refl _)
  have o13_4 := o12_4.below b13 (Nat.le_refl _)
  have B13 := B12.trans (b13.mono B12.size)
  clear o12_1 o12_2 o12_3 o12_4 B12 b13
  go_wp2_with fail
  refine (Tryd.eqIntT _ _ _ _ _ _ c13_0 o13_1).mono ?_
  rintro e wv14 ⟨rfl, d14⟩
  have b14 := d14.below
  have s14 := b14.size
  have e14_0 := cell_k2 b14 e13_0
  have e14_1 := cell_k2 b14 e13_1
  clear e13_0 e13_1
  have o14_1 := o13_1.below b14 (Nat.le_refl _)
  have o14_2 := o13_2.below b14 (Nat.le_refl _)
  have o14_3 := o13_3.below b14 (Nat.le_refl _)
  have o14_4 := o13_4.below b14 (Nat.le_refl _)
  have o14_5 := c13_0.below b14 (Nat.le_refl _)
  have o14_6 := c13_1.below b14 (Nat.le_refl _)
  have B14 := B13.trans (b14.mono B13.size)
  clear o13_1 o13_2 o13_3 o13_4 c13_0 c13_1 B13 b14
  go_wp2_with fail
  refine (Tryd.eqIntT _ _ _ _ _ _ o14_6 o14_2).mono ?_
  rintro e wv15 ⟨rfl, d15⟩
  have b15 := d15.below
  have s15 := b15.size
  have e15_0 := cell_k2 b15 e14_0
  have e15_1 := cell_k2 b15 e14_1
  clear e14_0 e14_1
  have o15_1 := o14_1.below b15 (Nat.le_refl _)
  have o15_2 := o14_2.below b15 (Nat.le_refl _)
  have o15_3 := o14_3.below b15 (Nat.le_refl _)
  have o15_4 := o14_4.below b15 (Nat.le_refl _)
  have o15_5 := o14_5.below b15 (Nat.le_refl _)
  have o15_6 := o14_6.below b15 (Nat.le_refl _)
  have B15 := B14.trans (b15.mono B14.size)
  clear o14_1 o14_2 o14_3 o14_4 o14_5 o14_6 B14 b15
  go_wp2_with fail
  refine (Tryd.heldIntT _ _ _ _ (1) (by omega) (by omega) hlen0 o15_3).mono ?_
  rintro e wv16 ⟨rfl, rfl⟩
  go_wp2_with fail
  refine (Tryd.heldIntT _ _ _ _ (1 + ((zA).length : Int)) (by omega) (by omega) hlen1 o15_4).mono ?_
  rintro e wv17 ⟨rfl, rfl⟩
  go_wp2_with fail
  go_ret
  exact ⟨rfl, B15⟩

set_option maxRecDepth 100000 in
theorem lifted (os : Os) (started : os.Started) (H : Type) (enc : TypeId × Value → H) :
    ReturnsInHanded {} Tryd.checked os 3 .any (fun w args => (Rows.fnExactLongestDriveSpec.pre enc Tryd.prog Tryd.f3 [] false w args ∧ laidMetH Tryd.prog laidL w) ∧ sizedMet enc Tryd.prog Tryd.f3 (OpenSpec.ofChange Rows.fnExactLongestDriveSpec) false w args)
      (Rows.fnExactLongestDriveSpec.post enc Tryd.prog Tryd.f3 false true false false) := by
  refine returnsInHanded_of_change_and (C := Tryd.checked) (X := fun w _ => laidMetH Tryd.prog laidL w) (fun _ _ _ hh h => h.of_heap hh) own started (by kernel_rfl) Tryd.func3
    (ChangeSpec.witness_shaped (enc := enc) (C := Tryd.checked) (os := os) (X := fun w _ => laidMetH Tryd.prog laidL w) false (World.laidAll Tryd.prog os laidL) #[.agg #[.string ⟨#[]⟩, .string ⟨#[]⟩]] 8 (World.laidAll_os _ _ _) (World.shaped_of_ZipB (by kernel_rfl) (by kernel_rfl)) (by kernel_rfl) (by kernel_rfl) (by kernel_rfl) (door_met os _)) ?_
  intro W base args ds gs before hval0 hW _ _ hL _
  have hval : ∀ (j : Nat) t v, Tryd.f3.params[j]? = some t → args[j]? = some v → Value.okWide Tryd.prog W .any base t v := hval0
  have hW' := hW
  obtain ⟨p, q, hA0, hV, rfl, hfz, hnd⟩ := hW
  have hA : DataW.TrodAll enc Tryd.prog W 0 (fun _ => true) true Tryd.f3.params.toList args.toList ds p := hA0
  rw [Tryd.params3] at hA hval
  obtain ⟨v0, vs0, d0, ds0, p0, q0, hargs, rfl, rfl, h0, r0⟩ := trodAll_cons hA
  obtain ⟨rfl, rfl, rfl⟩ := trodAll_nil r0
  obtain rfl : args = #[v0] := by cases args; simp_all
  obtain ⟨rfl, rfl⟩ := trodVars_none hV
  obtain ⟨c0x, c0y, y0x, y0y, m0, rfl, rfl, rfl, hy0x, hy0y⟩ := open_agg2 Tryd.underlying23 (by kernel_rfl) (show Tryd.prog.cellsOf 23 = 2 by kernel_rfl) (hval 0 23 v0 rfl rfl) h0
  obtain ⟨a0x, e0x, rfl, w0x⟩ := DataW.trod_string Tryd.underlying9 hy0x
  obtain ⟨a0y, e0y, rfl, w0y⟩ := DataW.trod_string Tryd.underlying9 hy0y
  simp at e0x e0y
  subst e0x e0y
  have sr0 : ∀ (W' : World) (sp : Nat → Bool), DataW.Trod enc Tryd.prog W' 0 sp true 23 (.agg #[.string a0x, .string a0y]) (.agg [.lit (.string a0x.data.toList), .lit (.string a0y.data.toList)]) [] := fun W' sp =>
    shut_agg2 (y0 := (.lit (.string a0x.data.toList), [])) (y1 := (.lit (.string a0y.data.toList), [])) Tryd.underlying23 (by kernel_rfl) (show Tryd.prog.cellsOf 23 = 2 by kernel_rfl) ⟨1, by simp [DataW.trod, Tryd.underlying9, w0x]⟩ ⟨1, by simp [DataW.trod, Tryd.underlying9, w0y]⟩
  clear hA0 hval0
  simp only [List.append_nil] at hW'
  refine (walk a0x a0y w0x w0y W).mono fun e W' ⟨he, bel⟩ => ?_
  subst he
  exact ⟨_, rfl, _, _, _, [], [], [], hW', trodAll_mk1 (shut_bool Tryd.underlying4 _), (trodAll_cons_mk (sr0 _ _) trodAll_mk0), rfl, bel.frame _, fun h => by cases h⟩

theorem over : Rows.FnExactLongestDriveSaid :=
  OpenClaim.holds_of_wide 3 Tryd.f3 rfl rfl rfl rfl rfl rfl rfl ⟨rfl, rfl, rfl, rfl, rfl⟩ rfl rfl rfl rfl rfl (by kernel_rfl) Tryd.func3 (by kernel_rfl)
    (of_decide_eq_true (by kernel_rfl)) (by unfold Func.isWrapper; first | (rw [if_pos (by decide +kernel)]; kernel_rfl) | (rw [if_neg (by decide +kernel)]; exact ⟨rfl, rfl⟩))
    (fun os started H enc _ => lifted os started H enc)

/-- The statement: the tied card. -/
theorem proved : Rows.FnExactLongestDriveCardSaid :=
  Claim7.holds_tied_plain_at .later [] [.data, .pinned] true (true, "ae9e4286e020bb813ad2e47ab8488e64c436ecaa860d198895989c4cdcfc57a4") false
    over (fun _ h => by cases h) (by kernel_rfl) (fun _ h => by cases h) fnExactLongestDrive_row_tie rfl ⟨rfl, rfl⟩ (by kernel_rfl) rfl
    (fun f fn hf hfn => by
      obtain rfl : f = 3 := Option.some.inj ((show Tryd.prog.funcNamed "loop.example/g01336/laws.FnExactLongestDrive" = some 3 by kernel_rfl).symm.trans hf) |>.symm
      obtain rfl : fn = Tryd.f3 := (Option.some.inj (Tryd.func3.symm.trans hfn)).symm
      exact ⟨by kernel_rfl, fun j t ht => by
        rw [Tryd.params3] at ht
        have hm : t ∈ [23] := by simpa using Array.mem_of_getElem? ht
        have hall : ([23].all fun u => !Tryd.prog.wantsStandIn u) = true := by kernel_rfl
        exact (show Tryd.prog.wantsStandIn t = false by simpa using List.all_eq_true.1 hall t hm)⟩)
    (by kernel_rfl)
#print axioms proved
end Go.Proofs.YtmklniikhdfaiaaDoor.fnExactLongestDrive
