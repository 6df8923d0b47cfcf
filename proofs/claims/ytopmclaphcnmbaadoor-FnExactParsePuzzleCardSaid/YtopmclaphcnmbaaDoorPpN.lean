/-
  Chapter 9: numbers around a mark; a clue's numbers; the model's ParsePuzzle.
-/
import Derived.Test.YtopmclaphcnmbaaDoorPpS
import Derived.Test.YtopmclaphcnmbaaDoorSqIt
import Derived.Test.YtopmclaphcnmbaaDoorPzY
namespace Go.Proofs
open Go.RowKit Go.Shelf Sp
set_option linter.unusedVariables false
set_option linter.unusedSimpArgs false
/-- a puzzle that a call hands back -/
def RetK (w : World) (W H : Int) (cs : List Clu) (b : Bool) (e : Ending) (w' : World) : Prop := ∃ v', e = .returned (.tuple #[.agg #[.int .i64 W, .int .i64 H, v'], .bool b]) ∧ OwnC w' w.heap.size v' cs ∧ Below w.heap.size w w'
set_option maxRecDepth 100000 in
set_option maxHeartbeats 800000 in
theorem Tryd.sParsePuzzle (t : ByteArray) (w : World) (ht : t.size ≤ 1048576) :
    Calls Tryd.prog 4 #[.string t] w (RetK w (ifP (ppB t) (ppK t)) (ifP (ppB t) (ppP t)) (ppR t) (ppB t)) := by
  have AP := Lib.hid (fun (X : World) => Tryd.pzParse t X ht)
  unfold RetQ at AP
  unfold ifP ppR
  cases hb : ppB t
  · rw [hb] at AP
    simp only [Bool.false_eq_true, if_false]
    clear hb
    go_enter Tryd.func4, Tryd.ntmps4
    go_wp2_with (first | (go_at_call 9; refine (AP.out _).mono ?_; rintro e W1 ⟨W, H, A, n, c, rfl, hq, hbl⟩; have r0 : W1.cell? ⟨w.heap.size, 0, none⟩ = some (.int .i64 0) := cell_k2 hbl (by simp [go_sem]); have r1 : W1.cell? ⟨w.heap.size, 1, none⟩ = some (.int .i64 0) := cell_k2 hbl (by simp [go_sem]); have r2 : W1.cell? ⟨w.heap.size, 2, none⟩ = some (.slice none 0 0) := cell_k2 hbl (by simp [go_sem]); have rf : ∀ o, W1.frozen? ⟨w.heap.size, o, none⟩ = false := (fun o => ((bcell hbl).2 _ _ (by simp)).trans (by simp [go_sem])); have zz := World.block_lt_of_cell? _ _ r0; clear hq))
    have HB : Below w.heap.size w W1 := ((Gr.alloc (Gr.refl w) _).below).trans (hbl.mono (by simp))
    refine bodyPost_ret (v := .tuple #[.agg #[.int .i64 0, .int .i64 0, .slice none 0 0], .bool false]) (by simp [results, Tryd.results4, go_sem, r0, r1, r2, zz]) rfl ⟨_, rfl, OwnE.nil _ _ _ _ _, (Below.set3s HB (Nat.le_refl _)).alloc (by simp; exact HB.size) _⟩
  · rw [hb] at AP
    simp only [if_true]
    clear hb
    generalize ppK t = pW at *
    generalize ppP t = pH at *
    generalize ppL t = pC at *
    go_enter Tryd.func4, Tryd.ntmps4
    go_wp2_with (first | (go_at_call 9; refine (AP.out _).mono ?_; rintro e W1 ⟨W, H, A, n, c, rfl, hq, hbl⟩; have HQ := Lib.hid (hq rfl); obtain ⟨rfl, rfl, _⟩ := hq rfl; have r0 : W1.cell? ⟨w.heap.size, 0, none⟩ = some (.int .i64 0) := cell_k2 hbl (by simp [go_sem]); have r1 : W1.cell? ⟨w.heap.size, 1, none⟩ = some (.int .i64 0) := cell_k2 hbl (by simp [go_sem]); have r2 : W1.cell? ⟨w.heap.size, 2, none⟩ = some (.slice none 0 0) := cell_k2 hbl (by simp [go_sem]); have rf : ∀ o, W1.frozen? ⟨w.heap.size, o, none⟩ = false := (fun o => ((bcell hbl).2 _ _ (by simp)).trans (by simp [go_sem])); have zz := World.block_lt_of_cell? _ _ r0; clear hq))
    have HB : Below w.heap.size w W1 := ((Gr.alloc (Gr.refl w) _).below).trans (hbl.mono (by simp))
    refine bodyPost_ret (v := .tuple #[.agg #[.int .i64 W, .int .i64 H, .slice A n c], .bool true]) (by simp [results, Tryd.results4, go_sem, r0, r1, r2, zz]) rfl ⟨_, rfl, ?_, (Below.set3s HB (Nat.le_refl _)).alloc (by simp; exact HB.size) _⟩
    exact OwnE.mono (OwnE.gr (OwnC.set3s HQ.out.2.2 (by simp)) (Gr.alloc (Gr.refl _) _)) (by simp)
theorem Tryd.atoiRv (D : ByteArray) (W : World) (hz : D.size ≤ 1048576) (hW : ErrVars W) :
    Calls Tryd.prog 25 #[.string D] W fun e w' => ∃ x v, e = .returned (.tuple #[.int .i64 x, v]) ∧ Rv D x ∧ Below W.heap.size W w' := by
  cases h : atB D
  · exact (Tryd.atoiBad D W hz hW h).mono fun _ _ ⟨N, x, e, hb⟩ => ⟨x, _, e, fun q => absurd (h.symm.trans q) (by decide), hb⟩
  · exact (Tryd.atoiOk D W hz h).mono fun _ _ ⟨e, hb⟩ => ⟨_, _, e, fun _ => rfl, hb⟩
set_option maxRecDepth 100000 in
set_option maxHeartbeats 800000 in
theorem Tryd.numbersAround (x : ByteArray) (sb : UInt8) (w : World) (hx : x.size ≤ 1048576) (hE : ErrVars w) :
    Calls Tryd.prog 29 #[.string x, .string ⟨#[sb]⟩] w fun e w' => ∃ p q, e = .returned (.tuple #[.int .i64 p, .int .i64 q]) ∧ Rv (pw1 sb x) p ∧ Rv (pw2 sb x) q ∧ Below w.heap.size w w' := by
  have HC := Lib.hid (fun (V : World) => Tryd.strCut sb V x (by unfold maxLen; omega))
  have hp1 := (pw_size sb x).1
  have hp2 := (pw_size sb x).2
  have H1 := Lib.hid (fun (V : World) (h : ErrVars V) => Tryd.atoiRv (pw1 sb x) V (by omega) h)
  have H2 := Lib.hid (fun (V : World) (h : ErrVars V) => Tryd.atoiRv (pw2 sb x) V (by omega) h)
  have HE := Lib.hid hE
  generalize pw1 sb x = q1 at *
  generalize pw2 sb x = q2 at *
  clear hE hp1 hp2
  go_enter Tryd.func29, Tryd.ntmps29
  go_wp2_with fail
  refine (HC.out _).mono ?_
  rintro e w1 ⟨⟨bb, rfl⟩, g1⟩
  go_wp2_with fail
  refine (H1.out _ (HE.out.below g1.below)).mono ?_
  rintro e w2 ⟨x1, v1, rfl, rv1, hb2⟩
  have HB2 := g1.below.trans (hb2.mono g1.below.size)
  have R1 := Lib.hid rv1
  clear rv1
  go_wp2_with fail
  refine (H2.out _ (HE.out.below HB2)).mono ?_
  rintro e w3 ⟨x2, v2, rfl, rv2, hb3⟩
  have HB3 := HB2.trans (hb3.mono HB2.size)
  have R2 := Lib.hid rv2
  clear rv2
  go_wp2_with fail
  go_ret2
  exact ⟨_, _, rfl, R1.out, R2.out, HB3⟩
set_option maxRecDepth 100000 in
set_option maxHeartbeats 800000 in
theorem Tryd.clueWithText (x : ByteArray) (w : World) (hx : x.size ≤ 1048576) (hE : ErrVars w) :
    Calls Tryd.prog 13 #[.string x] w fun e w' => ∃ a b c, e = .returned (.agg #[.int .i64 a, .int .i64 b, .int .i64 c]) ∧ RdC x (a, b, c) ∧ Below w.heap.size w w' := by
  have HC := Lib.hid (fun (V : World) => Tryd.strCut 46 V x (by unfold maxLen; omega))
  have hp1 := (pw_size 46 x).1
  have hp2 := (pw_size 46 x).2
  have H1 := Lib.hid (fun (V : World) (h : ErrVars V) => Tryd.atoiRv (pw1 46 x) V (by omega) h)
  have H2 := Lib.hid (fun (V : World) (h : ErrVars V) => Tryd.numbersAround (pw2 46 x) 46 V (by omega) h)
  have HR := Lib.hid (show ∀ a b c, Rv (pw1 46 x) a → Rv (pw1 46 (pw2 46 x)) b → Rv (pw2 46 (pw2 46 x)) c → RdC x (a, b, c) from fun a b c h1 h2 h3 => ⟨h1, h2, h3⟩)
  have HE := Lib.hid hE
  generalize RdC x = RC at *
  generalize pw1 46 x = q1 at *
  generalize pw2 46 x = q2 at *
  clear hE hp1 hp2
  go_enter Tryd.func13, Tryd.ntmps13
  go_wp2_with fail
  refine (HC.out _).mono ?_
  rintro e w1 ⟨⟨bb, rfl⟩, g1⟩
  have r0 : w1.cell? ⟨w.heap.size, 0, none⟩ = some (.int .i64 0) := g1.keep0 (by simp [go_sem])
  have r1 : w1.cell? ⟨w.heap.size, 1, none⟩ = some (.int .i64 0) := g1.keep0 (by simp [go_sem])
  have r2 : w1.cell? ⟨w.heap.size, 2, none⟩ = some (.int .i64 0) := g1.keep0 (by simp [go_sem])
  have rf : ∀ o, w1.frozen? ⟨w.heap.size, o, none⟩ = false := fun o => ((bcell g1.below).2 _ _ (by simp)).trans (by simp [go_sem])
  have R1 : Bz w1 w.heap.size (.int .i64 0) (.int .i64 0) (.int .i64 0) := ⟨r0, r1, r2, rf⟩
  have GA := Lib.hid (Gr.alloc ((Gr.alloc (Gr.refl w) _).trans g1) (.cells #[.int .i64 0, .int .i64 0, .int .i64 0] 40))
  clear r0 r1 r2 rf
  go_wp2_with fail
  refine (H1.out _ (HE.out.below GA.out.below)).mono ?_
  rintro e w2 ⟨x1, v1, rfl, rv1, hb2⟩
  have n0 : w2.cell? ⟨w1.heap.size, 0, none⟩ = some (.int .i64 0) := cell_k2 hb2 (by simp [go_sem])
  have n1 : w2.cell? ⟨w1.heap.size, 1, none⟩ = some (.int .i64 0) := cell_k2 hb2 (by simp [go_sem])
  have n2 : w2.cell? ⟨w1.heap.size, 2, none⟩ = some (.int .i64 0) := cell_k2 hb2 (by simp [go_sem])
  have nf : ∀ o, w2.frozen? ⟨w1.heap.size, o, none⟩ = false := fun o => ((bcell hb2).2 _ _ (by simp)).trans (by simp [go_sem])
  have R2 := (R1.gr (Gr.alloc (Gr.refl w1) (.cells #[.int .i64 0, .int .i64 0, .int .i64 0] 40))).bel hb2 (by have := R1.lt; simp; omega)
  have HB2 := GA.out.below.trans (hb2.mono (by have := R1.lt; simp; omega))
  have zs : w.heap.size < w1.heap.size := R1.lt
  have V1 := Lib.hid rv1
  clear rv1 hb2
  go_wp2_with fail
  have HB2s : Below w.heap.size w (w2.setCell ⟨w1.heap.size, 0, none⟩ (.int .i64 x1)) := HB2.setCell (by simp; omega) _
  refine (H2.out _ (HE.out.below HB2s)).mono ?_
  rintro e w3 ⟨p, q, rfl, rp, rq, hb3⟩
  have m0 : w3.cell? ⟨w1.heap.size, 0, none⟩ = some (.int .i64 x1) := cell_k2 hb3 (World.cell?_setCell_same _ _ _ n0)
  have m1 : w3.cell? ⟨w1.heap.size, 1, none⟩ = some (.int .i64 0) := cell_k2 hb3 ((World.cell?_setCell_other _ _ _ _ (by simp)).trans n1)
  have m2 : w3.cell? ⟨w1.heap.size, 2, none⟩ = some (.int .i64 0) := cell_k2 hb3 ((World.cell?_setCell_other _ _ _ _ (by simp)).trans n2)
  have mf : ∀ o, w3.frozen? ⟨w1.heap.size, o, none⟩ = false := fun o => (hb3.frozen (p := ⟨w1.heap.size, o, none⟩) (by have := World.block_lt_of_cell? _ _ n0; simp; omega)).trans (by simpa using nf o)
  have R3 := (R2.set1 (m := w1.heap.size) (x := .int .i64 x1) (by omega) 0).bel hb3 (by have := R2.lt; simp; omega)
  have HB3 := HB2s.trans (hb3.mono HB2s.size)
  have V2 := Lib.hid rp
  have V3 := Lib.hid rq
  obtain ⟨r0, r1, r2, rf⟩ := R3
  have zs3 := World.block_lt_of_cell? _ _ r0
  have zn3 := World.block_lt_of_cell? _ _ m0
  clear rp rq hb3 n0 n1 n2 nf R1 R2 HB2 HB2s
  go_wp2_with fail
  refine bodyPost_ret (v := .agg #[.int .i64 x1, .int .i64 p, .int .i64 q]) (by simp [results, Tryd.results13, go_sem, r0, r1, r2, m0, m1, m2]) rfl ⟨x1, p, q, rfl, HR.out _ _ _ V1.out V2.out V3.out, ?_⟩
  exact Below.set3s (((HB3.setCell (by simp; omega) _).setCell (by simp; omega) _)) (Nat.le_refl _)
end Go.Proofs
