/-
  Chapter 4: numbers around a sign; whether a text has a bar; the model's ParseCity.
-/
import Derived.Test.YtnpkhoiblemodaaDoorPcS
import Derived.Test.YtnpkhoiblemodaaDoorSqIt
import Derived.Test.YtnpkhoiblemodaaDoorCtY
namespace Go.Proofs
open Go.RowKit Go.Shelf Av Sp
set_option linter.unusedVariables false
set_option linter.unusedSimpArgs false
/-- a city that a call hands back -/
def RetK (w : World) (W H : Int) (cs : List Blk) (b : Bool) (e : Ending) (w' : World) : Prop := ∃ v', e = .returned (.tuple #[.agg #[.int .i64 W, .int .i64 H, v'], .bool b]) ∧ OwnB w' w.heap.size v' cs ∧ Below w.heap.size w w'
set_option maxRecDepth 100000 in
set_option maxHeartbeats 800000 in
theorem Tryd.sParseCity (t : ByteArray) (w : World) (ht : t.size ≤ 1048576) :
    Calls Tryd.prog 10 #[.string t] w (RetK w (ifP (pcB t) (pcW t)) (ifP (pcB t) (pcH t)) (pcL t) (pcB t)) := by
  have AP := Lib.hid (fun (X : World) => Tryd.avParse t X ht)
  unfold RetQ at AP
  unfold ifP pcL
  cases hb : pcB t
  · rw [hb] at AP
    simp only [Bool.false_eq_true, if_false]
    clear hb
    go_enter Tryd.func10, Tryd.ntmps10
    go_wp2_with (first | (go_at_call 22; refine (AP.out _).mono ?_; rintro e W1 ⟨W, H, A, n, c, rfl, hq, hbl⟩; have r0 : W1.cell? ⟨w.heap.size, 0, none⟩ = some (.int .i64 0) := cell_k2 hbl (by simp [go_sem]); have r1 : W1.cell? ⟨w.heap.size, 1, none⟩ = some (.int .i64 0) := cell_k2 hbl (by simp [go_sem]); have r2 : W1.cell? ⟨w.heap.size, 2, none⟩ = some (.slice none 0 0) := cell_k2 hbl (by simp [go_sem]); have rf : ∀ o, W1.frozen? ⟨w.heap.size, o, none⟩ = false := (fun o => ((bcell hbl).2 _ _ (by simp)).trans (by simp [go_sem])); have zz := World.block_lt_of_cell? _ _ r0; clear hq))
    have HB : Below w.heap.size w W1 := ((Gr.alloc (Gr.refl w) _).below).trans (hbl.mono (by simp))
    refine bodyPost_ret (v := .tuple #[.agg #[.int .i64 0, .int .i64 0, .slice none 0 0], .bool false]) (by simp [results, Tryd.results10, go_sem, r0, r1, r2, zz]) rfl ⟨_, rfl, OwnE.nil _ _ _ _ _, (Below.set3s HB (Nat.le_refl _)).alloc (by simp; exact HB.size) _⟩
  · rw [hb] at AP
    simp only [if_true]
    clear hb
    generalize pcW t = pW at *
    generalize pcH t = pH at *
    generalize pcC t = pC at *
    go_enter Tryd.func10, Tryd.ntmps10
    go_wp2_with (first | (go_at_call 22; refine (AP.out _).mono ?_; rintro e W1 ⟨W, H, A, n, c, rfl, hq, hbl⟩; have HQ := Lib.hid (hq rfl); obtain ⟨rfl, rfl, _⟩ := hq rfl; have r0 : W1.cell? ⟨w.heap.size, 0, none⟩ = some (.int .i64 0) := cell_k2 hbl (by simp [go_sem]); have r1 : W1.cell? ⟨w.heap.size, 1, none⟩ = some (.int .i64 0) := cell_k2 hbl (by simp [go_sem]); have r2 : W1.cell? ⟨w.heap.size, 2, none⟩ = some (.slice none 0 0) := cell_k2 hbl (by simp [go_sem]); have rf : ∀ o, W1.frozen? ⟨w.heap.size, o, none⟩ = false := (fun o => ((bcell hbl).2 _ _ (by simp)).trans (by simp [go_sem])); have zz := World.block_lt_of_cell? _ _ r0; clear hq))
    have HB : Below w.heap.size w W1 := ((Gr.alloc (Gr.refl w) _).below).trans (hbl.mono (by simp))
    refine bodyPost_ret (v := .tuple #[.agg #[.int .i64 W, .int .i64 H, .slice A n c], .bool true]) (by simp [results, Tryd.results10, go_sem, r0, r1, r2, zz]) rfl ⟨_, rfl, ?_, (Below.set3s HB (Nat.le_refl _)).alloc (by simp; exact HB.size) _⟩
    exact OwnE.mono (OwnE.gr (OwnB.set3s HQ.out.2.2 (by simp)) (Gr.alloc (Gr.refl _) _)) (by simp)
theorem Tryd.atoiRv (D : ByteArray) (W : World) (hz : D.size ≤ 1048576) (hW : ErrVars W) :
    Calls Tryd.prog 45 #[.string D] W fun e w' => ∃ x v, e = .returned (.tuple #[.int .i64 x, v]) ∧ Rv D x ∧ Below W.heap.size W w' := by
  cases h : atB D
  · exact (Tryd.atoiBad D W hz hW h).mono fun _ _ ⟨N, x, e, hb⟩ => ⟨x, _, e, fun q => absurd (h.symm.trans q) (by decide), hb⟩
  · exact (Tryd.atoiOk D W hz h).mono fun _ _ ⟨e, hb⟩ => ⟨_, _, e, fun _ => rfl, hb⟩
set_option maxRecDepth 100000 in
set_option maxHeartbeats 800000 in
theorem Tryd.numbersAround (x : ByteArray) (sb : UInt8) (w : World) (hx : x.size ≤ 1048576) (hE : ErrVars w) :
    Calls Tryd.prog 24 #[.string x, .string ⟨#[sb]⟩] w fun e w' => ∃ p q, e = .returned (.tuple #[.int .i64 p, .int .i64 q]) ∧ Rv (pw1 sb x) p ∧ Rv (pw2 sb x) q ∧ Below w.heap.size w w' := by
  have HC := Lib.hid (fun (V : World) => Tryd.strCut sb V x (by unfold maxLen; omega))
  have hp1 := (pw_size sb x).1
  have hp2 := (pw_size sb x).2
  have H1 := Lib.hid (fun (V : World) (h : ErrVars V) => Tryd.atoiRv (pw1 sb x) V (by omega) h)
  have H2 := Lib.hid (fun (V : World) (h : ErrVars V) => Tryd.atoiRv (pw2 sb x) V (by omega) h)
  have HE := Lib.hid hE
  generalize pw1 sb x = q1 at *
  generalize pw2 sb x = q2 at *
  clear hE hp1 hp2
  go_enter Tryd.func24, Tryd.ntmps24
  go_wp2_with fail
  refine (HC.out _).mono ?_
  rintro e w1 ⟨⟨bb, rfl⟩, g1⟩
  go_wp2_with fail
  refine (H1.out _ (HE.out.below g1.below)).mono ?_
  rintro e w2 ⟨x1, v1, rfl, rv1, hb2⟩
  have HB2 := g1.below.trans (hb2.mono g1.below.size)
  have R1 := Lib.hid rv1
  clear rv1
  go_wp2_with fail
  refine (H2.out _ (HE.out.below HB2)).mono ?_
  rintro e w3 ⟨x2, v2, rfl, rv2, hb3⟩
  have HB3 := HB2.trans (hb3.mono HB2.size)
  have R2 := Lib.hid rv2
  clear rv2
  go_wp2_with fail
  go_ret2
  exact ⟨_, _, rfl, R1.out, R2.out, HB3⟩
theorem Tryd.hasBarC (x : ByteArray) (w : World) :
    Calls Tryd.prog 26 #[.string x, .string ⟨#[124]⟩] w fun e w' => e = .returned (.bool (hasBar x)) ∧ w' = w := by
  have HI := Lib.hid (fun (W : World) => Tryd.stringslite_Index_one x 124 W)
  change Hid (∀ W, Calls Tryd.prog 56 #[.string x, .string ⟨#[124]⟩] W fun e w' => e = .returned (.int .i64 (ixc 124 x)) ∧ w' = W) at HI
  have HX : Calls Tryd.prog 47 #[.string x, .string ⟨#[124]⟩] w fun e w' => e = .returned (.int .i64 (ixc 124 x)) ∧ w' = w := by
    generalize ixc 124 x = r at *
    go_enter Tryd.func47, Tryd.ntmps47
    go_wp2_with (first | (go_at_call 56; refine (HI.out _).mono ?_; rintro e w1 ⟨rfl, rfl⟩))
    go_ret
    exact ⟨rfl, rfl⟩
  unfold hasBar
  generalize ixc 124 x = r at *
  have HY := Lib.hid HX
  clear HX HI
  go_enter Tryd.func26, Tryd.ntmps26
  go_wp2_with (first | (go_at_call 47; refine HY.out.mono ?_; rintro e w1 ⟨rfl, rfl⟩))
  go_ret
  exact ⟨by simp, rfl⟩
end Go.Proofs
