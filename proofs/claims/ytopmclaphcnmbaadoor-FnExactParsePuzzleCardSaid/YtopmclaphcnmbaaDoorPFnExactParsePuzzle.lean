/-
  'FnExactParsePuzzle' answers true at every argument and leaves its arguments as they were: the function of the program and its model give the same results. What the library's own tables and its two errors hold is tied to the program's text.
-/
import Derived.Test.YtopmclaphcnmbaaDoorCards
import Derived.Test.YtopmclaphcnmbaaDoorTie
import Derived.WalkKit
import Derived.ProofKit
import Derived.LaidMore
import Derived.OpenShut
import Derived.Stop.Joined
import Derived.SevenTiedAt
import Derived.Lib.SmallJoins
import Derived.Lib.LaidTab
import Derived.Stop.LaidErr
import Derived.Carry
import Derived.Lay
import Derived.Test.YtopmclaphcnmbaaDoorPpN
import Derived.Test.YtopmclaphcnmbaaDoorPpP
import Derived.Test.YtopmclaphcnmbaaDoorCtK
import Derived.Test.YtopmclaphcnmbaaDoorPzL
namespace Go.Proofs.YtopmclaphcnmbaaDoor.fnExactParsePuzzle
open Go.ChangeShapes Go.WideShapes Go.ChangeAt Go.RowKit Go.Joins Sp
open Go.WideMaps Go.WideElems
open Go.ChangeMaps (setBlock shut_map_nil open_string shut_string keptBut_setBlock frozen?_setBlock heap_setBlock_same)
set_option linter.unusedVariables false
set_option linter.unusedSimpArgs false

theorem own : ownKnob Tryd.prog.godebug = none := by kernel_rfl
theorem g0 : Tryd.prog.globalNamed "math/bits.deBruijn32tab" = some 6 := by kernel_rfl
theorem g1 : Tryd.prog.globalNamed "math/bits.deBruijn64tab" = some 7 := by kernel_rfl
theorem tPow : (Tryd.prog.globals[5]?).map (·.type) = some 124 := by kernel_rfl
def laidL : List (String × DataW Unit) := [("math/bits.deBruijn32tab", Rows.laid_math_bits_deBruijn32tab), ("math/bits.deBruijn64tab", Rows.laid_math_bits_deBruijn64tab), ("internal/strconv.uint64pow10", Rows.laid_internal_strconv_uint64pow10), ("unicode/utf8.acceptRanges", Rows.laid_unicode_utf8_acceptRanges), ("strconv.ErrRange", Rows.laid_strconv_ErrRange), ("strconv.ErrSyntax", Rows.laid_strconv_ErrSyntax), ("unicode/utf8.first", Rows.laid_unicode_utf8_first)]
/-- A heap that holds the listed variables meets the condition. -/
theorem door_met (os : Os) (args : Array Value) : laidMetH Tryd.prog laidL ((World.laidAll Tryd.prog os laidL).forCall (fun _ _ => 0) ⟨#[], args, []⟩).memory := by
  rw [MakeChecks.laidMetH_plain _ _ _ (by kernel_rfl)]
  exact laidMet_laidAll _ (by kernel_rfl) (by kernel_rfl)
theorem tEr : (Tryd.prog.globals[2]?).map (·.type) = some 53 := by kernel_rfl
theorem tEs : (Tryd.prog.globals[1]?).map (·.type) = some 53 := by kernel_rfl
theorem star : "*" ++ "errors.errorString" = "*errors.errorString" := by decide
theorem rowE (u : TypeId) (h : Tryd.prog.typeName? 3 u = some "*errors.errorString") : u = 120 :=
  typeName_ptr_named (nm := "errors.errorString") (by rw [star]; kernel_rfl) (by kernel_rfl) (by decide) u (by rw [star]; exact h)
theorem of_laid {W : World} (h : laidMetH Tryd.prog laidL W) : Tab W ∧ ErrVars W := by
  rw [MakeChecks.laidMetH_plain _ _ _ (by kernel_rfl)] at h
  obtain ⟨a1, s1, hv1, -, -, -⟩ := laid_sentinel h.tail.tail.tail.tail Tryd.gER tEr Tryd.underlying53 rowE Tryd.underlying120 Tryd.underlying122 rfl rfl Tryd.underlying9 (by kernel_rfl) (by kernel_rfl)
  obtain ⟨a0, s0, hv0, -, -, -⟩ := laid_sentinel h.tail.tail.tail.tail.tail Tryd.gES tEs Tryd.underlying53 rowE Tryd.underlying120 Tryd.underlying122 rfl rfl Tryd.underlying9 (by kernel_rfl) (by kernel_rfl)
  refine ⟨?_, ⟨_, _, hv0⟩, _, _, hv1⟩
  obtain ⟨ps, ⟨_, _, _, _, _, _, _, _, _, _, ⟨_, _, _, _, _, _, _, _, _, _, ⟨g2, t2, cs2, f2, p2, q2, hg2, ht2, hv2, hd2, _, _⟩, _⟩, _⟩, _, _⟩ := h
  obtain rfl := Option.some.inj (Tryd.gPow.symm.trans hg2)
  obtain rfl := Option.some.inj (tPow.symm.trans ht2)
  have e : (Rows.laid_internal_strconv_uint64pow10 : DataW Unit) = Lib.tabData .u64 Lib.pow10Tab := by kernel_rfl
  rw [e] at hd2
  unfold Tab Lib.TabIs
  rw [hv2, ← Lib.cells_of_tab Tryd.underlying124 Tryd.underlying95 (by kernel_rfl) (by kernel_rfl) hd2]

theorem newBz (w : World) (a b c : Value) (T : TypeId) : Bz (w.alloc (.cells #[a, b, c] T)) w.heap.size a b c := ⟨by simp [go_sem], by simp [go_sem], by simp [go_sem], fun o => by simp [go_sem]⟩
set_option maxRecDepth 100000 in
set_option maxHeartbeats 1000000 in
theorem walk (a0 : ByteArray) (w0 : a0.size ≤ maxLen) (w : World) (ht : Tab w) (he : ErrVars w) :
    Calls Tryd.prog 3 #[.string a0] w fun e w' => e = .returned (.bool true) ∧ Below w.heap.size w w' := by
  by_cases hl : (1048576 : Int) < (a0.size : Int)
  · unfold maxLen at w0
    clear ht he
    go_enter Tryd.func3, Tryd.ntmps3
    go_wp2
    go_ret
    exact ⟨rfl, Below.refl _ _⟩
  · have hsz : a0.size ≤ 1048576 := by omega
    have HS := Lib.hid (fun (w : World) => Tryd.sParsePuzzle a0 w hsz)
    have HI := Lib.hid (fun (W : World) (hb : Below w.heap.size w W) => Tryd.iParsePuzzle a0 W hsz (ht.below hb) (he.below hb))
    have hlen0 : (ppR a0).length ≤ 1000000000 := by have := ppR_len a0; omega
    unfold maxLen at w0
    generalize ifP (ppB a0) (ppK a0) = KW at *
    generalize ifP (ppB a0) (ppP a0) = KH at *
    generalize ppR a0 = xs at *
    generalize ppB a0 = b at *
    have HL := Lib.hid hlen0
    clear ht he hlen0
    go_enter Tryd.func3, Tryd.ntmps3
    go_wp2_with fail
    refine (HS.out _).mono ?_
    rintro e wv1 ⟨vS, rfl, c1, d1⟩
    obtain ⟨A1, k1, rfl, c1⟩ := OwnE.eta c1
    have D1 := Lib.hid d1
    have C1 := Lib.hid c1
    clear d1 c1
    go_wp2_with fail
    obtain ⟨U1, hU1⟩ : ∃ U1, wv1.alloc (.cells #[.int .i64 KW, .int .i64 KH, .slice A1 xs.length k1] 26) = U1 := ⟨_, rfl⟩
    rw [hU1]
    have X3 : Bz U1 wv1.heap.size (.int .i64 KW) (.int .i64 KH) (.slice A1 xs.length k1) := by rw [← hU1]; exact newBz _ _ _ _ _
    have g1 : Gr wv1 U1 := by rw [← hU1]; exact Gr.alloc (Gr.refl _) _
    clear hU1
    have B1 := Lib.hid (D1.out.trans (g1.below.mono D1.out.size))
    have O1 := Lib.hid (OwnE.gr C1.out g1)
    refine (HI.out U1 B1.out).mono ?_
    rintro e wv2 ⟨v1, rfl, c2, d2⟩
    obtain ⟨A2, k2, rfl, c2⟩ := OwnE.eta c2
    have z12 := X3.lt
    have H3 := Lib.hid (X3.bel d2 z12)
    have z2 := d2.size
    have z13 : wv1.heap.size < wv2.heap.size := H3.out.lt
    have B2 := Lib.hid (B1.out.trans (d2.mono B1.out.size))
    have P1 := Lib.hid (OwnE.below O1.out d2 (Nat.le_refl _))
    have C2 := Lib.hid c2
    have cc2 := C2
    have zw : w.heap.size ≤ U1.heap.size := B1.out.size
    obtain ⟨f0, f1, f2, ff⟩ := H3.out
    clear c2 d2 X3
    go_wp2_with fail
    obtain ⟨U2, hU2⟩ : ∃ U2, wv2.alloc (.cells #[.int .i64 KW, .int .i64 KH, .slice A2 xs.length k2] 26) = U2 := ⟨_, rfl⟩
    rw [hU2]
    have X5 : Bz U2 wv2.heap.size (.int .i64 KW) (.int .i64 KH) (.slice A2 xs.length k2) := by rw [← hU2]; exact newBz _ _ _ _ _
    have g2 : Gr wv2 U2 := by rw [← hU2]; exact Gr.alloc (Gr.refl _) _
    clear hU2 f0 f1 f2 ff
    refine (Tryd.eqPuzzle U2 KW KH _ _ _ _ xs (OwnE.gr C2.out g2) (OwnE.gr P1.out g2)).mono ?_
    rintro e wv3 ⟨rfl, g3⟩
    have G3 := g2.trans g3
    have H3 := Lib.hid (H3.out.gr G3)
    have H5 := Lib.hid (X5.gr g3)
    have P1 := Lib.hid (OwnE.gr P1.out G3)
    have C2 := Lib.hid (OwnE.gr C2.out G3)
    have B3 := Lib.hid (B2.out.trans (G3.below.mono B2.out.size))
    have z5 : wv2.heap.size < wv3.heap.size := H5.out.lt
    have nO : (Value.slice A1 xs.length k1).ownBlock = none ∨ (Value.slice A1 xs.length k1).ownBlock ≠ (Value.slice A2 xs.length k2).ownBlock := by
      cases A1 with
      | none => exact .inl rfl
      | some a => exact .inr fun e => by have h1 := (World.ownsRow.lt O1.out a.block rfl).2; have h2 := (World.ownsRow.lt C2.out a.block (e.symm.trans rfl)).1; omega
    have n5 : some wv2.heap.size ≠ (Value.slice A2 xs.length k2).ownBlock := fun e => by have h1 := (World.ownsRow.lt cc2.out _ e.symm).2; omega
    have n3 : some wv1.heap.size ≠ (Value.slice A2 xs.length k2).ownBlock := fun e => by have h1 := (World.ownsRow.lt C2.out _ e.symm).1; omega
    obtain ⟨f0, f1, f2, ff⟩ := H5.out
    clear g2 g3 G3 X5
    go_wp2_with fail
    refine (Tryd.markPuzzle _ KW KH _ _ xs HL.out C2.out).mono ?_
    rintro e wv4 ⟨rfl, c4, d4⟩
    have H3 := Lib.hid (H3.out.kept d4 n3)
    have H5 := Lib.hid (H5.out.kept d4 n5)
    have P1 := Lib.hid (OwnE.grown P1.out d4 nO)
    have C4 := Lib.hid c4
    have B4 := Lib.hid (Below.grown B3.out d4 B3.out.size (fun j hj => by have := (World.ownsRow.lt C2.out j hj).1; omega))
    have z4 := d4.size
    clear f0 f1 f2 ff c4 d4
    obtain ⟨f0, f1, f2, ff⟩ := H5.out
    go_wp2_with fail
    refine (Tryd.heldPuzzle _ KW KH _ _ xs HL.out C4.out).mono ?_
    rintro e wv5 ⟨rfl, g5⟩
    have H3 := Lib.hid (H3.out.gr g5)
    have H5 := Lib.hid (H5.out.gr g5)
    have P1 := Lib.hid (OwnE.gr P1.out g5)
    have C4 := Lib.hid (OwnE.gr C4.out g5)
    have B5 := Lib.hid (B4.out.trans (g5.below.mono B4.out.size))
    clear f0 f1 f2 ff g5
    have zl : (xs.length : Int) ≤ 1000000000 := by have := HL.out; omega
    go_wp2_with fail
    refine (HI.out wv5 B5.out).mono ?_
    rintro e wv6 ⟨v6, rfl, c6, d6⟩
    obtain ⟨A6, k6, rfl, c6⟩ := OwnE.eta c6
    have H3 := Lib.hid (H3.out.bel d6 H3.out.lt)
    have H5 := Lib.hid (H5.out.bel d6 H5.out.lt)
    have P1 := Lib.hid (OwnE.below P1.out d6 (Nat.le_refl _))
    have C4 := Lib.hid (OwnE.below C4.out d6 (Nat.le_refl _))
    have C6 := Lib.hid c6
    have B6 := Lib.hid (B5.out.trans (d6.mono B5.out.size))
    have z3 : wv1.heap.size < wv6.heap.size := H3.out.lt
    obtain ⟨f0, f1, f2, ff⟩ := H3.out
    clear c6 d6
    go_wp2_with fail
    obtain ⟨U6, hU6⟩ : ∃ U6, wv6.alloc (.cells #[.int .i64 KW, .int .i64 KH, .slice A6 xs.length k6] 26) = U6 := ⟨_, rfl⟩
    rw [hU6]
    have g6 : Gr wv6 U6 := by rw [← hU6]; exact Gr.alloc (Gr.refl _) _
    clear hU6 f0 f1 f2 ff
    refine (Tryd.eqPuzzle U6 KW KH _ _ _ _ xs (OwnE.gr C6.out g6) (OwnE.gr P1.out g6)).mono ?_
    rintro e wv7 ⟨rfl, g7⟩
    have G7 := g6.trans g7
    have H5 := Lib.hid (H5.out.gr G7)
    have C4 := Lib.hid (OwnE.gr C4.out G7)
    have B7 := Lib.hid (B6.out.trans (G7.below.mono B6.out.size))
    obtain ⟨f0, f1, f2, ff⟩ := H5.out
    clear g6 g7 G7
    go_wp2_with fail
    refine (Tryd.heldPuzzle _ KW KH _ _ xs HL.out C4.out).mono ?_
    rintro e wv8 ⟨rfl, g8⟩
    have B8 := Lib.hid (B7.out.trans (g8.below.mono B7.out.size))
    clear g8
    go_wp2_with fail
    go_ret
    exact ⟨rfl, B8.out⟩

set_option maxRecDepth 100000 in
theorem lifted (os : Os) (started : os.Started) (H : Type) (enc : TypeId × Value → H) :
    ReturnsInHanded {} Tryd.checked os 3 .any (fun w args => (Rows.fnExactParsePuzzleSpec.pre enc Tryd.prog Tryd.f3 [] false w args ∧ laidMetH Tryd.prog laidL w) ∧ sizedMet enc Tryd.prog Tryd.f3 (OpenSpec.ofChange Rows.fnExactParsePuzzleSpec) false w args)
      (Rows.fnExactParsePuzzleSpec.post enc Tryd.prog Tryd.f3 false true false false) := by
  refine returnsInHanded_of_change_and (C := Tryd.checked) (X := fun w _ => laidMetH Tryd.prog laidL w) (fun _ _ _ hh h => h.of_heap hh) own started (by kernel_rfl) Tryd.func3
    (ChangeSpec.witness_shaped (enc := enc) (C := Tryd.checked) (os := os) (X := fun w _ => laidMetH Tryd.prog laidL w) false (World.laidAll Tryd.prog os laidL) #[.string ⟨#[]⟩] 8 (World.laidAll_os _ _ _) (World.shaped_of_ZipB (by kernel_rfl) (by kernel_rfl)) (by kernel_rfl) (by kernel_rfl) (by kernel_rfl) (door_met os _)) ?_
  intro W base args ds gs before hval0 hW _ _ hL _
  have hval : ∀ (j : Nat) t v, Tryd.f3.params[j]? = some t → args[j]? = some v → Value.okWide Tryd.prog W .any base t v := hval0
  have hW' := hW
  obtain ⟨p, q, hA0, hV, rfl, hfz, hnd⟩ := hW
  have hA : DataW.TrodAll enc Tryd.prog W 0 (fun _ => true) true Tryd.f3.params.toList args.toList ds p := hA0
  rw [Tryd.params3] at hA hval
  obtain ⟨v0, vs0, d0, ds0, p0, q0, hargs, rfl, rfl, h0, r0⟩ := trodAll_cons hA
  obtain ⟨rfl, rfl, rfl⟩ := trodAll_nil r0
  obtain rfl : args = #[v0] := by cases args; simp_all
  obtain ⟨rfl, rfl⟩ := trodVars_none hV
  obtain ⟨a0, rfl, rfl, rfl, w0⟩ := open_string Tryd.underlying9 (hval 0 9 v0 rfl rfl) h0
  have hT := of_laid hL
  clear hA0 hval0
  simp only [List.append_nil] at hW'
  refine (walk a0 w0 W hT.1 hT.2).mono fun e W' ⟨he, bel⟩ => ?_
  subst he
  exact ⟨_, rfl, _, _, _, [], [], [], hW', trodAll_mk1 (shut_bool Tryd.underlying4 _), (trodAll_cons_mk (shut_string Tryd.underlying9 w0) trodAll_mk0), rfl, bel.frame _, fun h => by cases h⟩

theorem over : Rows.FnExactParsePuzzleSaid :=
  OpenClaim.holds_of_wide 3 Tryd.f3 rfl rfl rfl rfl rfl rfl rfl ⟨rfl, rfl, rfl, rfl, rfl⟩ rfl rfl rfl rfl rfl (by kernel_rfl) Tryd.func3 (by kernel_rfl)
    (of_decide_eq_true (by kernel_rfl)) (by unfold Func.isWrapper; first | (rw [if_pos (by decide +kernel)]; kernel_rfl) | (rw [if_neg (by decide +kernel)]; exact ⟨rfl, rfl⟩))
    (fun os started H enc _ => lifted os started H enc)

/-- The statement: the tied card. -/
theorem proved : Rows.FnExactParsePuzzleCardSaid :=
  Claim7.holds_tied_plain_at .later [] [.data, .data, .data, .data, .sentinel, .sentinel, .pinned] true (true, "947d3e3919e37a03b3e367272865c876c27cf6f5edb7b3e136eef61f0574e85e") true
    over (fun _ h => by cases h) (by kernel_rfl) (fun _ h => by cases h) fnExactParsePuzzle_row_tie rfl ⟨rfl, rfl⟩ (by kernel_rfl) rfl
    (fun f fn hf hfn => by
      obtain rfl : f = 3 := Option.some.inj ((show Tryd.prog.funcNamed "loop.example/g01336/laws.FnExactParsePuzzle" = some 3 by kernel_rfl).symm.trans hf) |>.symm
      obtain rfl : fn = Tryd.f3 := (Option.some.inj (Tryd.func3.symm.trans hfn)).symm
      exact ⟨by kernel_rfl, fun j t ht => by
        rw [Tryd.params3] at ht
        have hm : t ∈ [9] := by simpa using Array.mem_of_getElem? ht
        have hall : ([9].all fun u => !Tryd.prog.wantsStandIn u) = true := by kernel_rfl
        exact (show Tryd.prog.wantsStandIn t = false by simpa using List.all_eq_true.1 hall t hm)⟩)
    (by kernel_rfl)
#print axioms proved
end Go.Proofs.YtopmclaphcnmbaaDoor.fnExactParsePuzzle
