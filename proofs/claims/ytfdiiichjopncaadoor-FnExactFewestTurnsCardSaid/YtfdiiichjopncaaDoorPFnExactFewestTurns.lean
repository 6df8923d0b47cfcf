/-
  'FnExactFewestTurns' answers true at every argument and leaves its arguments as they were: the function of the program and its model give the same results. What the library's own tables hold is tied to the program's text.
-/
import Derived.Test.YtfdiiichjopncaaDoorCards
import Derived.Test.YtfdiiichjopncaaDoorTie
import Derived.WalkKit
import Derived.ProofKit
import Derived.LaidMore
import Derived.OpenShut
import Derived.Stop.Joined
import Derived.SevenTiedAt
import Derived.Lib.SmallJoins
import Derived.Carry
import Derived.Lay
import Derived.Test.YtfdiiichjopncaaDoorArgs
import Derived.Test.YtfdiiichjopncaaDoorInts2
import Derived.Test.YtfdiiichjopncaaDoorOwTs
namespace Go.Proofs.YtfdiiichjopncaaDoor.fnExactFewestTurns
open Go.ChangeShapes Go.WideShapes Go.ChangeAt Go.RowKit Go.Joins
open Go.WideMaps Go.WideElems
open Go.ChangeMaps (setBlock shut_map_nil open_string shut_string keptBut_setBlock frozen?_setBlock heap_setBlock_same)
set_option linter.unusedVariables false
set_option linter.unusedSimpArgs false

theorem own : ownKnob Tryd.prog.godebug = none := by kernel_rfl
theorem laidOut : laidOutB Tryd.prog = true := by kernel_rfl
def laidL : List (String × DataW Unit) := [("unicode/utf8.acceptRanges", Rows.laid_unicode_utf8_acceptRanges), ("unicode/utf8.first", Rows.laid_unicode_utf8_first)]
/-- A heap that holds the listed variables meets the condition. -/
theorem door_met (os : Os) (args : Array Value) : laidMetH Tryd.prog laidL ((World.laidAll Tryd.prog os laidL).forCall (fun _ _ => 0) ⟨#[], args, []⟩).memory := by
  rw [MakeChecks.laidMetH_plain _ _ _ (by kernel_rfl)]
  exact laidMet_laidAll _ (by kernel_rfl) (by kernel_rfl)

set_option maxRecDepth 100000 in
set_option maxHeartbeats 1000000 in
theorem walk (a0x a0y : ByteArray) (w0x : a0x.size ≤ maxLen) (w0y : a0y.size ≤ maxLen) (a1 : Option Addr) (len1 cap1 : Nat) (z1 : List Int) (a2 : Option Addr) (len2 cap2 : Nat) (z2 : List Int) (w : World) (w1 : ArgI w a1 len1 cap1 z1) (w2 : ArgI w a2 len2 cap2 z2) :
    Calls Tryd.prog 3 #[.agg #[.string a0x, .string a0y], .slice a1 len1 cap1, .slice a2 len2 cap2] w fun e w' => e = .returned (.bool true) ∧ Below w.heap.size w w' := by
  by_cases hl1 : len1 ≤ 1048576
  case neg =>
    have hz1 : (1048576 : Int) < (len1 : Int) := by omega
    clear w1 w2
    go_enter Tryd.func3, Tryd.ntmps3
    go_wp2
    go_ret
    exact ⟨rfl, Gr.below (by repeat (first | exact Gr.refl _ | refine Gr.alloc ?_ _ | refine Gr.trans ?_ (by assumption) | refine Gr.drew ?_ | refine Gr.drewN ?_ _ | refine Gr.grow ?_ _ | refine Gr.setCell ?_ (by (try simp); (try omega)) _))⟩
  by_cases hl2 : len2 ≤ 1048576
  case neg =>
    have hz2 : (1048576 : Int) < (len2 : Int) := by omega
    have hz1 : ¬ (1048576 : Int) < (len1 : Int) := by omega
    clear w1 w2
    go_enter Tryd.func3, Tryd.ntmps3
    go_wp2
    go_ret
    exact ⟨rfl, Gr.below (by repeat (first | exact Gr.refl _ | refine Gr.alloc ?_ _ | refine Gr.trans ?_ (by assumption) | refine Gr.drew ?_ | refine Gr.drewN ?_ _ | refine Gr.grow ?_ _ | refine Gr.setCell ?_ (by (try simp); (try omega)) _))⟩
  have hz1 : ¬ (1048576 : Int) < (len1 : Int) := by omega
  have hz2 : ¬ (1048576 : Int) < (len2 : Int) := by omega
  by_cases hsum : a0x.size + a0y.size ≤ 1048576
  case neg =>
    have SZ := Lib.hid (fun (w : World) => Tryd.szWays w a0x a0y w0x w0y _ rfl)
    rw [if_neg hsum] at SZ
    clear w1 w2
    go_enter Tryd.func3, Tryd.ntmps3
    go_wp2_with (first | (go_at_call 4; refine (SZ.out _).mono ?_; rintro e w1 ⟨rfl, hbW⟩; have hcW := (bcell hbW.below).1; have hfW := (bcell hbW.below).2; (try have hzW : w.heap.size < w1.heap.size := by have hq := hbW.below.size; (try simp at hq); omega); (try have hyW : w.heap.size + 1 < w1.heap.size := by have hq := hbW.below.size; (try simp at hq); omega); (try have hxW : w.heap.size + 2 < w1.heap.size := by have hq := hbW.below.size; (try simp at hq); omega)))
    go_ret
    exact ⟨rfl, Gr.below (by repeat (first | exact Gr.refl _ | refine Gr.alloc ?_ _ | refine Gr.trans ?_ (by assumption) | refine Gr.drew ?_ | refine Gr.drewN ?_ _ | refine Gr.grow ?_ _ | refine Gr.setCell ?_ (by (try simp); (try omega)) _))⟩
  have zl1 : (z1).length ≤ 1048576 := by have := w1.1; omega
  have zl2 : (z2).length ≤ 1048576 := by have := w2.1; omega
  obtain ⟨v, hv⟩ : ∃ v, ftV a0x a0y z1 z2 = v := ⟨_, rfl⟩
  obtain ⟨b, hb⟩ : ∃ b, w8B a0x a0y z1 z2 = b := ⟨_, rfl⟩
  have HS := Lib.hid (fun (w : World) B1 v1 h1 B2 v2 h2 => Tryd.sFewestTurns w a0x a0y w0x w0y B1 v1 z1 B2 v2 z2 v b hv hb h1 h2)
  have HI := Lib.hid (fun (w : World) B1 v1 h1 B2 v2 h2 => Tryd.iFewestTurns w a0x a0y w0x w0y B1 v1 z1 B2 v2 z2 v b hv hb (w8V_top a0x a0y z1 z2) h1 h2)
  have WA1 := Lib.hid w1
  have WA2 := Lib.hid w2
  have HL1 := Lib.hid hl1
  have HL2 := Lib.hid hl2
  have wl1 : len1 ≤ maxLen := Nat.le_trans (WA1.out.2.1) (WA1.out.2.2.1)
  have wl2 : len2 ≤ maxLen := Nat.le_trans (WA2.out.2.1) (WA2.out.2.2.1)
  clear w1 hl1 w2 hl2
  have SZ := Lib.hid (fun (w : World) => Tryd.szWays w a0x a0y w0x w0y _ rfl)
  rw [if_pos hsum] at SZ
  have zz : ¬ (1048576 : Int) - (a0x.size : Int) - (a0y.size : Int) < 0 := by omega
  go_enter Tryd.func3, Tryd.ntmps3
  have B0 : Below w.heap.size w (w.alloc (.cells #[.string a0x, .string a0y] 23)) := (Gr.alloc (Gr.refl _) _).below
  have e0_0 : (w.alloc (.cells #[.string a0x, .string a0y] 23)).cell? ⟨w.heap.size, 0, none⟩ = some (.string a0x) := by simp [go_sem]
  have e0_1 : (w.alloc (.cells #[.string a0x, .string a0y] 23)).cell? ⟨w.heap.size, 1, none⟩ = some (.string a0y) := by simp [go_sem]
  go_wp2_with fail
  refine (SZ.out _).mono ?_
  rintro e wv1 ⟨rfl, d1⟩
  have b1 := d1.below
  have s1 := b1.size
  have e1_0 := cell_k2 b1 e0_0
  have e1_1 := cell_k2 b1 e0_1
  clear e0_0 e0_1
  have B1 := B0.trans (b1.mono B0.size)
  go_wp2_with fail
  refine (Tryd.toWays _ _ _).mono ?_
  rintro e wv2 ⟨rfl, d2⟩
  have b2 := d2.below
  have s2 := b2.size
  have e2_0 := cell_k2 b2 e1_0
  have e2_1 := cell_k2 b2 e1_1
  clear e1_0 e1_1
  have B2 := B1.trans (b2.mono B1.size)
  go_wp2_with fail
  refine (Tryd.toIntS _ _ _ _ _ HL1.out (WA1.out.below B2)).mono ?_
  rintro e wv3 ⟨v3, rfl, c3, d3⟩
  have b3 := d3
  have s3 := b3.size
  have e3_0 := cell_k2 b3 e2_0
  have e3_1 := cell_k2 b3 e2_1
  clear e2_0 e2_1
  have B3 := B2.trans (b3.mono B2.size)
  have F1 := c3
  go_wp2_with fail
  refine (Tryd.toIntS _ _ _ _ _ HL2.out (WA2.out.below B3)).mono ?_
  rintro e wv4 ⟨v4, rfl, c4, d4⟩
  have b4 := d4
  have s4 := b4.size
  have e4_0 := cell_k2 b4 e3_0
  have e4_1 := cell_k2 b4 e3_1
  clear e3_0 e3_1
  have o4_1 := c3.below b4 (Nat.le_refl _)
  have B4 := B3.trans (b4.mono B3.size)
  have F2 := c4
  go_wp2_with fail
  refine (HS.out _ _ _ o4_1 _ _ c4).mono ?_
  rintro e wv5 ⟨rfl, d5⟩
  have b5 := d5
  have s5 := b5.size
  have e5_0 := cell_k2 b5 e4_0
  have e5_1 := cell_k2 b5 e4_1
  clear e4_0 e4_1
  have o5_1 := o4_1.below b5 (Nat.le_refl _)
  have o5_2 := c4.below b5 (Nat.le_refl _)
  have B5 := B4.trans (b5.mono B4.size)
  go_wp2_with fail
  refine (Tryd.toIntS _ _ _ _ _ HL1.out (WA1.out.below B5)).mono ?_
  rintro e wv6 ⟨v6, rfl, c6, d6⟩
  have b6 := d6
  have s6 := b6.size
  have e6_0 := cell_k2 b6 e5_0
  have e6_1 := cell_k2 b6 e5_1
  clear e5_0 e5_1
  have o6_1 := o5_1.below b6 (Nat.le_refl _)
  have o6_2 := o5_2.below b6 (Nat.le_refl _)
  have B6 := B5.trans (b6.mono B5.size)
  have F3 := c6
  go_wp2_with fail
  refine (Tryd.toIntS _ _ _ _ _ HL2.out (WA2.out.below B6)).mono ?_
  rintro e wv7 ⟨v7, rfl, c7, d7⟩
  have b7 := d7
  have s7 := b7.size
  have e7_0 := cell_k2 b7 e6_0
  have e7_1 := cell_k2 b7 e6_1
  clear e6_0 e6_1
  have o7_1 := o6_1.below b7 (Nat.le_refl _)
  have o7_2 := o6_2.below b7 (Nat.le_refl _)
  have o7_3 := c6.below b7 (Nat.le_refl _)
  have B7 := B6.trans (b7.mono B6.size)
  have F4 := c7
  go_wp2_with fail
  refine (Tryd.toWays _ _ _).mono ?_
  rintro e wv8 ⟨rfl, d8⟩
  have b8 := d8.below
  have s8 := b8.size
  have e8_0 := cell_k2 b8 e7_0
  have e8_1 := cell_k2 b8 e7_1
  clear e7_0 e7_1
  have o8_1 := o7_1.below b8 (Nat.le_refl _)
  have o8_2 := o7_2.below b8 (Nat.le_refl _)
  have o8_3 := o7_3.below b8 (Nat.le_refl _)
  have o8_4 := c7.below b8 (Nat.le_refl _)
  have B8 := B7.trans (b8.mono B7.size)
  go_wp2_with fail
  refine (HI.out _ _ _ o8_3 _ _ o8_4).mono ?_
  rintro e wv9 ⟨rfl, d9⟩
  have b9 := d9
  have s9 := b9.size
  have e9_0 := cell_k2 b9 e8_0
  have e9_1 := cell_k2 b9 e8_1
  clear e8_0 e8_1
  have o9_1 := o8_1.below b9 (Nat.le_refl _)
  have o9_2 := o8_2.below b9 (Nat.le_refl _)
  have o9_3 := o8_3.below b9 (Nat.le_refl _)
  have o9_4 := o8_4.below b9 (Nat.le_refl _)
  have B9 := B8.trans (b9.mono B8.size)
  go_wp2_with fail
  refine (Tryd.toIntS _ _ _ _ _ HL1.out (WA1.out.below B9)).mono ?_
  rintro e wv10 ⟨v10, rfl, c10, d10⟩
  have b10 := d10
  have s10 := b10.size
  have e10_0 := cell_k2 b10 e9_0
  have e10_1 := cell_k2 b10 e9_1
  clear e9_0 e9_1
  have o10_1 := o9_1.below b10 (Nat.le_refl _)
  have o10_2 := o9_2.below b10 (Nat.le_refl _)
  have o10_3 := o9_3.below b10 (Nat.le_refl _)
  have o10_4 := o9_4.below b10 (Nat.le_refl _)
  have B10 := B9.trans (b10.mono B9.size)
  go_wp2_with fail
  refine (Tryd.eqIntS _ _ _ _ _ _ o10_3 c10).mono ?_
  rintro e wv11 ⟨rfl, d11⟩
  have b11 := d11.below
  have s11 := b11.size
  have e11_0 := cell_k2 b11 e10_0
  have e11_1 := cell_k2 b11 e10_1
  clear e10_0 e10_1
  have o11_1 := o10_1.below b11 (Nat.le_refl _)
  have o11_2 := o10_2.below b11 (Nat.le_refl _)
  have o11_3 := o10_3.below b11 (Nat.le_refl _)
  have o11_4 := o10_4.below b11 (Nat.le_refl _)
  have o11_5 := c10.below b11 (Nat.le_refl _)
  have B11 := B10.trans (b11.mono B10.size)
  go_wp2_with fail
  refine (Tryd.toIntS _ _ _ _ _ HL2.out (WA2.out.below B11)).mono ?_
  rintro e wv12 ⟨v12, rfl, c12, d12⟩
  have b12 := d12
  have s12 := b12.size
  have e12_0 := cell_k2 b12 e11_0
  have e12_1 := cell_k2 b12 e11_1
  clear e11_0 e11_1
  have o12_1 := o11_1.below b12 (Nat.le_refl _)
  have o12_2 := o11_2.below b12 (Nat.le_refl _)
  have o12_3 := o11_3.below b12 (Nat.le_refl _)
  have o12_4 := o11_4.below b12 (Nat.le_refl _)
  have B12 := B11.trans (b12.mono B11.size)
  go_wp2_with fail
  refine (Tryd.eqIntS _ _ _ _ _ _ o12_4 c12).mono ?_
  rintro e wv13 ⟨rfl, d13⟩
  have b13 := d13.below
  have s13 := b13.size
  have e13_0 := cell_k2 b13 e12_0
  have e13_1 := cell_k2 b13 e12_1
  clear e12_0 e12_1
  have o13_1 := o12_1.below b13 (Nat.le_refl _)
  have o13_2 := o12_2.below b13 (Nat.le_refl _)
  have o13_3 := o12_3.below b13 (Nat.le_refl _)
  have o13_4 := o12_4.below b13 (Nat.le_refl _)
  have o13_6 := c12.below b13 (Nat.le_refl _)
  have B13 := B12.trans (b13.mono B12.size)
  go_wp2_with fail
  go_ret
  exact ⟨rfl, B13⟩

set_option maxRecDepth 100000 in
theorem lifted (os : Os) (started : os.Started) (H : Type) (enc : TypeId × Value → H) :
    ReturnsInHanded {} Tryd.checked os 3 .any (fun w args => (Rows.fnExactFewestTurnsSpec.pre enc Tryd.prog Tryd.f3 [] false w args ∧ laidMetH Tryd.prog laidL w) ∧ sizedMet enc Tryd.prog Tryd.f3 (OpenSpec.ofChange Rows.fnExactFewestTurnsSpec) false w args)
      (Rows.fnExactFewestTurnsSpec.post enc Tryd.prog Tryd.f3 false true false false) := by
  refine returnsInHanded_of_change_and (C := Tryd.checked) (X := fun w _ => laidMetH Tryd.prog laidL w) (fun _ _ _ hh h => h.of_heap hh) own started (by kernel_rfl) Tryd.func3
    (ChangeSpec.witness_shaped (enc := enc) (C := Tryd.checked) (os := os) (X := fun w _ => laidMetH Tryd.prog laidL w) false (World.laidAll Tryd.prog os laidL) #[.agg #[.string ⟨#[]⟩, .string ⟨#[]⟩], .slice none 0 0, .slice none 0 0] 8 (World.laidAll_os _ _ _) (World.shaped_of_ZipB (by kernel_rfl) (by kernel_rfl)) (by kernel_rfl) (by kernel_rfl) (by kernel_rfl) (door_met os _)) ?_
  intro W base args ds gs before hval0 hW _ _ hL _
  have hval : ∀ (j : Nat) t v, Tryd.f3.params[j]? = some t → args[j]? = some v → Value.okWide Tryd.prog W .any base t v := hval0
  have hW' := hW
  obtain ⟨p, q, hA0, hV, rfl, hfz, hnd⟩ := hW
  have hA : DataW.TrodAll enc Tryd.prog W 0 (fun _ => true) true Tryd.f3.params.toList args.toList ds p := hA0
  rw [Tryd.params3] at hA hval
  obtain ⟨v0, vs0, d0, ds0, p0, q0, hargs, rfl, rfl, h0, r0⟩ := trodAll_cons hA
  obtain ⟨v1, vs1, d1, ds1, p1, q1, rfl, rfl, rfl, h1, r1⟩ := trodAll_cons r0
  obtain ⟨v2, vs2, d2, ds2, p2, q2, rfl, rfl, rfl, h2, r2⟩ := trodAll_cons r1
  obtain ⟨rfl, rfl, rfl⟩ := trodAll_nil r2
  obtain rfl : args = #[v0, v1, v2] := by cases args; simp_all
  obtain ⟨rfl, rfl⟩ := trodVars_none hV
  obtain ⟨c0x, c0y, y0x, y0y, m0, rfl, rfl, rfl, hy0x, hy0y⟩ := open_agg2 Tryd.underlying23 (by kernel_rfl) (show Tryd.prog.cellsOf 23 = 2 by kernel_rfl) (hval 0 23 v0 rfl rfl) h0
  obtain ⟨a0x, e0x, rfl, w0x⟩ := DataW.trod_string Tryd.underlying9 hy0x
  obtain ⟨a0y, e0y, rfl, w0y⟩ := DataW.trod_string Tryd.underlying9 hy0y
  simp at e0x e0y
  subst e0x e0y
  have sr0 : ∀ (W' : World) (sp : Nat → Bool), DataW.Trod enc Tryd.prog W' 0 sp true 23 (.agg #[.string a0x, .string a0y]) (.agg [.lit (.string a0x.data.toList), .lit (.string a0y.data.toList)]) [] := fun W' sp =>
    shut_agg2 (y0 := (.lit (.string a0x.data.toList), [])) (y1 := (.lit (.string a0y.data.toList), [])) Tryd.underlying23 (by kernel_rfl) (show Tryd.prog.cellsOf 23 = 2 by kernel_rfl) ⟨1, by simp [DataW.trod, Tryd.underlying9, w0x]⟩ ⟨1, by simp [DataW.trod, Tryd.underlying9, w0y]⟩
  obtain ⟨a1, len1, cap1, rfl⟩ := okWide_slice Tryd.underlying24 (hval 1 24 v1 rfl rfl)
  have k1 := h1
  have lt1 : ∀ x ∈ p1, x.block < W.heap.size := by obtain ⟨m, hm⟩ := k1; exact DataW.trod_lt m _ _ _ hm
  obtain ⟨z1, w1⟩ : ∃ zs, ArgI W a1 len1 cap1 zs := by
    obtain ⟨fuel, hf⟩ := h1
    rcases open_ints Tryd.underlying24 Tryd.underlying3 (by kernel_rfl) hf with ⟨hcs, _⟩ | ⟨x, l, c, zs, hcs, _, hl, hm, hz, _, hcell, hwz⟩
    · simp [Value.cells] at hcs
      obtain ⟨rfl, rfl, rfl⟩ := hcs
      exact ⟨[], rfl, Nat.le_refl _, Nat.zero_le _, fun n hn => by simp at hn, .inl rfl⟩
    · simp [Value.cells] at hcs
      obtain ⟨rfl, rfl, rfl⟩ := hcs
      exact ArgI.of_open hl hm (by simpa using hz) hcell hwz
  obtain ⟨a2, len2, cap2, rfl⟩ := okWide_slice Tryd.underlying24 (hval 2 24 v2 rfl rfl)
  have k2 := h2
  have lt2 : ∀ x ∈ p2, x.block < W.heap.size := by obtain ⟨m, hm⟩ := k2; exact DataW.trod_lt m _ _ _ hm
  obtain ⟨z2, w2⟩ : ∃ zs, ArgI W a2 len2 cap2 zs := by
    obtain ⟨fuel, hf⟩ := h2
    rcases open_ints Tryd.underlying24 Tryd.underlying3 (by kernel_rfl) hf with ⟨hcs, _⟩ | ⟨x, l, c, zs, hcs, _, hl, hm, hz, _, hcell, hwz⟩
    · simp [Value.cells] at hcs
      obtain ⟨rfl, rfl, rfl⟩ := hcs
      exact ⟨[], rfl, Nat.le_refl _, Nat.zero_le _, fun n hn => by simp at hn, .inl rfl⟩
    · simp [Value.cells] at hcs
      obtain ⟨rfl, rfl, rfl⟩ := hcs
      exact ArgI.of_open hl hm (by simpa using hz) hcell hwz
  clear hA0 hval0
  simp only [List.append_nil] at hW'
  refine (walk a0x a0y w0x w0y a1 len1 cap1 z1 a2 len2 cap2 z2 W w1 w2).mono fun e W' ⟨he, bel⟩ => ?_
  subst he
  exact ⟨_, rfl, _, _, _, [], _, [], hW', trodAll_mk1 (shut_bool Tryd.underlying4 _), (trodAll_cons_mk (sr0 _ _) (trodAll_cons_mk (Below.trod laidOut (by kernel_rfl) (of_decide_eq_true (by kernel_rfl)) k1 bel lt1) (trodAll_cons_mk (Below.trod laidOut (by kernel_rfl) (of_decide_eq_true (by kernel_rfl)) k2 bel lt2) trodAll_mk0))), rfl, bel.frame _, fun h => by cases h⟩

theorem over : Rows.FnExactFewestTurnsSaid :=
  OpenClaim.holds_of_wide 3 Tryd.f3 rfl rfl rfl rfl rfl rfl rfl ⟨rfl, rfl, rfl, rfl, rfl⟩ rfl rfl rfl rfl rfl (by kernel_rfl) Tryd.func3 (by kernel_rfl)
    (of_decide_eq_true (by kernel_rfl)) (by unfold Func.isWrapper; first | (rw [if_pos (by decide +kernel)]; kernel_rfl) | (rw [if_neg (by decide +kernel)]; exact ⟨rfl, rfl⟩))
    (fun os started H enc _ => lifted os started H enc)

/-- The statement: the tied card. -/
theorem proved : Rows.FnExactFewestTurnsCardSaid :=
  Claim7.holds_tied_plain_at .later [] [.data, .pinned] true (true, "fe1cee5d7c001cec38747360781d947067ae006672075cb1f642286dc32005c7") false
    over (fun _ h => by cases h) (by kernel_rfl) (fun _ h => by cases h) fnExactFewestTurns_row_tie rfl ⟨rfl, rfl⟩ (by kernel_rfl) rfl
    (fun f fn hf hfn => by
      obtain rfl : f = 3 := Option.some.inj ((show Tryd.prog.funcNamed "loop.example/g01336/laws.FnExactFewestTurns" = some 3 by kernel_rfl).symm.trans hf) |>.symm
      obtain rfl : fn = Tryd.f3 := (Option.some.inj (Tryd.func3.symm.trans hfn)).symm
      exact ⟨by kernel_rfl, fun j t ht => by
        rw [Tryd.params3] at ht
        have hm : t ∈ [23, 24, 24] := by simpa using Array.mem_of_getElem? ht
        have hall : ([23, 24, 24].all fun u => !Tryd.prog.wantsStandIn u) = true := by kernel_rfl
        exact (show Tryd.prog.wantsStandIn t = false by simpa using List.all_eq_true.1 hall t hm)⟩)
    (by kernel_rfl)
#print axioms proved
end Go.Proofs.YtfdiiichjopncaaDoor.fnExactFewestTurns
