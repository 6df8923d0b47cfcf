/-
  'FnExactIsWholeWays' answers true at every argument and leaves its arguments as they were: the function of the program and its model give the same results. What the library's own tables hold is tied to the program's text.
-/
import Derived.Test.YtkgfbdbhllakoaaDoorCards
import Derived.Test.YtkgfbdbhllakoaaDoorTie
import Derived.WalkKit
import Derived.ProofKit
import Derived.LaidMore
import Derived.OpenShut
import Derived.Stop.Joined
import Derived.SevenTiedAt
import Derived.Lib.SmallJoins
import Derived.Carry
import Derived.Lay
import Derived.Test.YtkgfbdbhllakoaaDoorArgs
import Derived.Test.YtkgfbdbhllakoaaDoorInts2
import Derived.Test.YtkgfbdbhllakoaaDoorOwY
namespace Go.Proofs.YtkgfbdbhllakoaaDoor.fnExactIsWholeWays
open Go.ChangeShapes Go.WideShapes Go.ChangeAt Go.RowKit Go.Joins
open Go.WideMaps Go.WideElems
open Go.ChangeMaps (setBlock shut_map_nil open_string shut_string keptBut_setBlock frozen?_setBlock heap_setBlock_same)
set_option linter.unusedVariables false
set_option linter.unusedSimpArgs false

theorem own : ownKnob Tryd.prog.godebug = none := by kernel_rfl
def laidL : List (String × DataW Unit) := [("unicode/utf8.acceptRanges", Rows.laid_unicode_utf8_acceptRanges), ("unicode/utf8.first", Rows.laid_unicode_utf8_first)]
/-- A heap that holds the listed variables meets the condition. -/
theorem door_met (os : Os) (args : Array Value) : laidMetH Tryd.prog laidL ((World.laidAll Tryd.prog os laidL).forCall (fun _ _ => 0) ⟨#[], args, []⟩).memory := by
  rw [MakeChecks.laidMetH_plain _ _ _ (by kernel_rfl)]
  exact laidMet_laidAll _ (by kernel_rfl) (by kernel_rfl)

set_option maxRecDepth 100000 in
set_option maxHeartbeats 1000000 in
theorem walk (a0x a0y : ByteArray) (w0x : a0x.size ≤ maxLen) (w0y : a0y.size ≤ maxLen) (w : World) :
    Calls Tryd.prog 9 #[.agg #[.string a0x, .string a0y]] w fun e w' => e = .returned (.bool true) ∧ Below w.heap.size w w' := by
  by_cases hsum : a0x.size + a0y.size ≤ 1048576
  case neg =>
    have SZ := Lib.hid (fun (w : World) => Tryd.szWays w a0x a0y w0x w0y _ rfl)
    rw [if_neg hsum] at SZ
    go_enter Tryd.func9, Tryd.ntmps9
    go_wp2_with (first | (go_at_call 11; refine (SZ.out _).mono ?_; rintro e w1 ⟨rfl, hbW⟩; have hcW := (bcell hbW.below).1; have hfW := (bcell hbW.below).2; (try have hzW : w.heap.size < w1.heap.size := by have hq := hbW.below.size; (try simp at hq); omega); (try have hyW : w.heap.size + 1 < w1.heap.size := by have hq := hbW.below.size; (try simp at hq); omega); (try have hxW : w.heap.size + 2 < w1.heap.size := by have hq := hbW.below.size; (try simp at hq); omega)))
    go_ret
    exact ⟨rfl, Gr.below (by repeat (first | exact Gr.refl _ | refine Gr.alloc ?_ _ | refine Gr.trans ?_ (by assumption) | refine Gr.drew ?_ | refine Gr.drewN ?_ _ | refine Gr.grow ?_ _ | refine Gr.setCell ?_ (by (try simp); (try omega)) _))⟩
  obtain ⟨v, hv⟩ : ∃ v, whW a0x a0y = v := ⟨_, rfl⟩
  obtain ⟨b, hb⟩ : ∃ b, okW a0x a0y = b := ⟨_, rfl⟩
  have HS := Lib.hid (fun (w : World) => Tryd.sIsWholeWays w a0x a0y w0x w0y b v hb hv)
  have HI := Lib.hid (fun (w : World) => Tryd.iIsWholeWays w a0x a0y (by omega) (by omega) b v hb hv)
  have SZ := Lib.hid (fun (w : World) => Tryd.szWays w a0x a0y w0x w0y _ rfl)
  rw [if_pos hsum] at SZ
  have zz : ¬ (1048576 : Int) - (a0x.size : Int) - (a0y.size : Int) < 0 := by omega
  go_enter Tryd.func9, Tryd.ntmps9
  have B0 : Below w.heap.size w (w.alloc (.cells #[.string a0x, .string a0y] 23)) := (Gr.alloc (Gr.refl _) _).below
  have e0_0 : (w.alloc (.cells #[.string a0x, .string a0y] 23)).cell? ⟨w.heap.size, 0, none⟩ = some (.string a0x) := by simp [go_sem]
  have e0_1 : (w.alloc (.cells #[.string a0x, .string a0y] 23)).cell? ⟨w.heap.size, 1, none⟩ = some (.string a0y) := by simp [go_sem]
  go_wp2_with fail
  refine (SZ.out _).mono ?_
  rintro e wv1 ⟨rfl, d1⟩
  have b1 := d1.below
  have s1 := b1.size
  have e1_0 := cell_k2 b1 e0_0
  have e1_1 := cell_k2 b1 e0_1
  clear e0_0 e0_1
  have B1 := B0.trans (b1.mono B0.size)
  go_wp2_with fail
  refine (Tryd.toWays _ _ _).mono ?_
  rintro e wv2 ⟨rfl, d2⟩
  have b2 := d2.below
  have s2 := b2.size
  have e2_0 := cell_k2 b2 e1_0
  have e2_1 := cell_k2 b2 e1_1
  clear e1_0 e1_1
  have B2 := B1.trans (b2.mono B1.size)
  go_wp2_with fail
  refine (HS.out _ ).mono ?_
  rintro e wv3 ⟨rfl, d3⟩
  have b3 := d3
  have s3 := b3.size
  have e3_0 := cell_k2 b3 e2_0
  have e3_1 := cell_k2 b3 e2_1
  clear e2_0 e2_1
  have B3 := B2.trans (b3.mono B2.size)
  go_wp2_with fail
  refine (Tryd.toWays _ _ _).mono ?_
  rintro e wv4 ⟨rfl, d4⟩
  have b4 := d4.below
  have s4 := b4.size
  have e4_0 := cell_k2 b4 e3_0
  have e4_1 := cell_k2 b4 e3_1
  clear e3_0 e3_1
  have B4 := B3.trans (b4.mono B3.size)
  go_wp2_with fail
  refine (HI.out _ ).mono ?_
  rintro e wv5 ⟨rfl, d5⟩
  have b5 := d5
  have s5 := b5.size
  have e5_0 := cell_k2 b5 e4_0
  have e5_1 := cell_k2 b5 e4_1
  clear e4_0 e4_1
  have B5 := B4.trans (b5.mono B4.size)
  go_wp2_with fail
  go_ret
  exact ⟨rfl, B5⟩

set_option maxRecDepth 100000 in
theorem lifted (os : Os) (started : os.Started) (H : Type) (enc : TypeId × Value → H) :
    ReturnsInHanded {} Tryd.checked os 9 .any (fun w args => (Rows.fnExactIsWholeWaysSpec.pre enc Tryd.prog Tryd.f9 [] false w args ∧ laidMetH Tryd.prog laidL w) ∧ sizedMet enc Tryd.prog Tryd.f9 (OpenSpec.ofChange Rows.fnExactIsWholeWaysSpec) false w args)
      (Rows.fnExactIsWholeWaysSpec.post enc Tryd.prog Tryd.f9 false true false false) := by
  refine returnsInHanded_of_change_and (C := Tryd.checked) (X := fun w _ => laidMetH Tryd.prog laidL w) (fun _ _ _ hh h => h.of_heap hh) own started (by kernel_rfl) Tryd.func9
    (ChangeSpec.witness_shaped (enc := enc) (C := Tryd.checked) (os := os) (X := fun w _ => laidMetH Tryd.prog laidL w) false (World.laidAll Tryd.prog os laidL) #[.agg #[.string ⟨#[]⟩, .string ⟨#[]⟩]] 8 (World.laidAll_os _ _ _) (World.shaped_of_ZipB (by kernel_rfl) (by kernel_rfl)) (by kernel_rfl) (by kernel_rfl) (by kernel_rfl) (door_met os _)) ?_
  intro W base args ds gs before hval0 hW _ _ hL _
  have hval : ∀ (j : Nat) t v, Tryd.f9.params[j]? = some t → args[j]? = some v → Value.okWide Tryd.prog W .any base t v := hval0
  have hW' := hW
  obtain ⟨p, q, hA0, hV, rfl, hfz, hnd⟩ := hW
  have hA : DataW.TrodAll enc Tryd.prog W 0 (fun _ => true) true Tryd.f9.params.toList args.toList ds p := hA0
  rw [Tryd.params9] at hA hval
  obtain ⟨v0, vs0, d0, ds0, p0, q0, hargs, rfl, rfl, h0, r0⟩ := trodAll_cons hA
  obtain ⟨rfl, rfl, rfl⟩ := trodAll_nil r0
  obtain rfl : args = #[v0] := by cases args; simp_all
  obtain ⟨rfl, rfl⟩ := trodVars_none hV
  obtain ⟨c0x, c0y, y0x, y0y, m0, rfl, rfl, rfl, hy0x, hy0y⟩ := open_agg2 Tryd.underlying23 (by kernel_rfl) (show Tryd.prog.cellsOf 23 = 2 by kernel_rfl) (hval 0 23 v0 rfl rfl) h0
  obtain ⟨a0x, e0x, rfl, w0x⟩ := DataW.trod_string Tryd.underlying9 hy0x
  obtain ⟨a0y, e0y, rfl, w0y⟩ := DataW.trod_string Tryd.underlying9 hy0y
  simp at e0x e0y
  subst e0x e0y
  have sr0 : ∀ (W' : World) (sp : Nat → Bool), DataW.Trod enc Tryd.prog W' 0 sp true 23 (.agg #[.string a0x, .string a0y]) (.agg [.lit (.string a0x.data.toList), .lit (.string a0y.data.toList)]) [] := fun W' sp =>
    shut_agg2 (y0 := (.lit (.string a0x.data.toList), [])) (y1 := (.lit (.string a0y.data.toList), [])) Tryd.underlying23 (by kernel_rfl) (show Tryd.prog.cellsOf 23 = 2 by kernel_rfl) ⟨1, by simp [DataW.trod, Tryd.underlying9, w0x]⟩ ⟨1, by simp [DataW.trod, Tryd.underlying9, w0y]⟩
  clear hA0 hval0
  simp only [List.append_nil] at hW'
  refine (walk a0x a0y w0x w0y W).mono fun e W' ⟨he, bel⟩ => ?_
  subst he
  exact ⟨_, rfl, _, _, _, [], [], [], hW', trodAll_mk1 (shut_bool Tryd.underlying4 _), (trodAll_cons_mk (sr0 _ _) trodAll_mk0), rfl, bel.frame _, fun h => by cases h⟩

theorem over : Rows.FnExactIsWholeWaysSaid :=
  OpenClaim.holds_of_wide 9 Tryd.f9 rfl rfl rfl rfl rfl rfl rfl ⟨rfl, rfl, rfl, rfl, rfl⟩ rfl rfl rfl rfl rfl (by kernel_rfl) Tryd.func9 (by kernel_rfl)
    (of_decide_eq_true (by kernel_rfl)) (by unfold Func.isWrapper; first | (rw [if_pos (by decide +kernel)]; kernel_rfl) | (rw [if_neg (by decide +kernel)]; exact ⟨rfl, rfl⟩))
    (fun os started H enc _ => lifted os started H enc)

/-- The statement: the tied card. -/
theorem proved : Rows.FnExactIsWholeWaysCardSaid :=
  Claim7.holds_tied_plain_at .later [] [.data, .pinned] true (true, "cad38b3a703673b91e72ae75bc5ccc2af40aa2c6b01f8b347eaf759cd8608843") false
    over (fun _ h => by cases h) (by kernel_rfl) (fun _ h => by cases h) fnExactIsWholeWays_row_tie rfl ⟨rfl, rfl⟩ (by kernel_rfl) rfl
    (fun f fn hf hfn => by
      obtain rfl : f = 9 := Option.some.inj ((show Tryd.prog.funcNamed "loop.example/g01336/laws.FnExactIsWholeWays" = some 9 by kernel_rfl).symm.trans hf) |>.symm
      obtain rfl : fn = Tryd.f9 := (Option.some.inj (Tryd.func9.symm.trans hfn)).symm
      exact ⟨by kernel_rfl, fun j t ht => by
        rw [Tryd.params9] at ht
        have hm : t ∈ [23] := by simpa using Array.mem_of_getElem? ht
        have hall : ([23].all fun u => !Tryd.prog.wantsStandIn u) = true := by kernel_rfl
        exact (show Tryd.prog.wantsStandIn t = false by simpa using List.all_eq_true.1 hall t hm)⟩)
    (by kernel_rfl)
#print axioms proved
end Go.Proofs.YtkgfbdbhllakoaaDoor.fnExactIsWholeWays
