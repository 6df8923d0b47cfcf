/-
  Chapter 9: a puzzle out of a text, the program's (impl.ParsePuzzle).
-/
import Derived.Test.YtopmclaphcnmbaaDoorPpN
namespace Go.Proofs
open Go.RowKit Go.Shelf Sp
set_option linter.unusedVariables false
set_option linter.unusedSimpArgs false
attribute [local go_sem] Oper.semAt_some
def spW (w : World) (t : ByteArray) : World := ((w.alloc (.cells #[.string t] 9)).alloc (.cells #[.string ⟨#[44]⟩] 9)).alloc (.cells #[.int .i64 0] 3)
def spF (M : Nat) : Value := .func (.func 45) #[] #[.pointer (some ⟨M + 1, 0, none⟩), .pointer (some ⟨M, 0, none⟩), .pointer (some ⟨M + 1 + 1, 0, none⟩)]
theorem Tryd.splitSeq_c (t : ByteArray) (w : World) :
    Calls Tryd.prog 28 #[.string t, .string ⟨#[44]⟩, .int .i64 0] w fun e w' => e = .returned (spF w.heap.size) ∧ w' = spW w t := by
  go_enter Tryd.func28, Tryd.ntmps28
  go_wp2
  go_ret
  exact ⟨rfl, rfl⟩
theorem Tryd.SplitSeq_c (t : ByteArray) (w : World) :
    Calls Tryd.prog 12 #[.string t, .string ⟨#[44]⟩] w fun e w' => e = .returned (spF w.heap.size) ∧ w' = spW w t := by
  go_enter Tryd.func12, Tryd.ntmps12
  go_wp2_with (first | (go_at_call 28; refine (Tryd.splitSeq_c t _).mono ?_; rintro e w1 ⟨rfl, rfl⟩))
  go_ret
  exact ⟨rfl, rfl⟩
theorem pw2_lt (sb : UInt8) (t : ByteArray) : (pw2 sb t).size = 0 ∨ (pw2 sb t).size + 1 ≤ t.size := by
  unfold pw2
  split
  · exact .inl rfl
  · rw [ByteArray.size_extract]; omega
def NoCells (C : Nat) (A : World) (row : Option Nat) : Prop := ∀ r, row = some r → C ≤ r ∧ ∃ o : Obj, A.heap[r]? = some o ∧ o.isCells = false
theorem rowNeE {α : Type} {T : TypeId} {k : Nat} {enc : α → List Value} {C B : Nat} {A : World} {row : Option Nat} {v : Value} {ps : List α} (h : OwnE T k enc A B v ps) (hr : NoCells C A row) : v.ownBlock = none ∨ v.ownBlock ≠ row := by
  rcases h.2 with ⟨rfl, _⟩ | ⟨g, cap, cur, rfl, _, hg, _⟩
  · exact .inl rfl
  · refine .inr fun e => ?_
    obtain ⟨o, ho, hc⟩ := (hr g e.symm).2
    rw [hg] at ho; cases ho; cases hc
theorem ownNeE {α : Type} {T : TypeId} {k : Nat} {enc : α → List Value} {B b : Nat} {A : World} {v : Value} {ps : List α} (h : OwnE T k enc A B v ps) (hb : b < B) : v.ownBlock = none ∨ v.ownBlock ≠ some b := by
  rcases h.2 with ⟨rfl, _⟩ | ⟨g, cap, cur, rfl, hgb, _⟩
  · exact .inl rfl
  · exact .inr (fun e => by simp [Value.ownBlock] at e; omega)
theorem rowCellsE {α : Type} {T : TypeId} {k : Nat} {enc : α → List Value} {B : Nat} {A : World} {v : Value} {ps : List α} (h : OwnE T k enc A B v ps) : ∀ (j : Nat) (o : Obj), v.ownBlock = some j → A.heap[j]? = some o → o.isCells = true := by
  intro j o e ho
  rcases h.2 with ⟨rfl, _⟩ | ⟨g, cap, cur, rfl, _, hg, _⟩
  · simp [Value.ownBlock] at e
  · simp [Value.ownBlock] at e; subst e; rw [hg] at ho; cases ho; rfl
theorem Bz.kept {w w' : World} {n : Nat} {a b c : Value} {row : Option Nat} (h : Bz w n a b c) (g : w.grownBy w' row) (hne : some n ≠ row) : Bz w' n a b c := by
  have e := g.block n h.lt hne
  exact ⟨(World.cell?_of_block e).trans h.1, (World.cell?_of_block e).trans h.2.1, (World.cell?_of_block e).trans h.2.2.1, fun o => (World.frozen?_of_block e).trans (h.2.2.2 o)⟩
theorem Bz.keep1 {w w' : World} {n : Nat} {a b c : Value} (h : Bz w n a b c) (e : w'.heap[n]? = w.heap[n]?) : Bz w' n a b c :=
  ⟨(World.cell?_of_block e).trans h.1, (World.cell?_of_block e).trans h.2.1, (World.cell?_of_block e).trans h.2.2.1, fun o => (World.frozen?_of_block e).trans (h.2.2.2 o)⟩
theorem keeps_below {W W' : World} (h : Below W.heap.size W W') : KeepsOthers W W' := KeepsOthers.of_grownBy (row := none) ⟨h.os, h.tape, h.output, h.size, fun j hj _ => h.block j hj⟩ (fun j o e _ => by cases e)
def PpI (N M : Nat) (w : World) (W H : Int) (pre : List ByteArray) (V : World) : Prop := ∃ A n c cs, RdL pre cs ∧ OwnC V (M + 3) (.slice A n c) cs ∧ Bz V N (.int .i64 W) (.int .i64 H) (.slice A n c) ∧ Bz V w.heap.size (.int .i64 0) (.int .i64 0) (.slice none 0 0) ∧ Below w.heap.size w V ∧ M + 3 ≤ V.heap.size
theorem stepIn_appC {F : Fence} {n : Nat} {P : Program} {ops : Array Oper} {o : Oper} {a : Act} {K : Act → World → Prop} {Q : Exit → Act → World → Prop} {W : World} {E : Prop} (hgd : o.guard = none) (s x : Operand) (t : TypeId)
    (ho : o.op = .call { callee := .builtin .append, args := #[s, x], argTypes := #[t, t] }) (ht : P.underlying t = some (.slice 40))
    (hinfo : (P.info? 40).map (fun i => (i.zero, i.size, i.bytes)) = some (some (.agg #[.int .i64 0, .int .i64 0, .int .i64 0]), 3, 24)) (B : Nat) (v : Value) (ps : List Clu) (hs : a.eval s = v) (h : OwnC W B v ps)
    (p q u : Int) (ad : Addr) (hx : a.eval x = .slice (some ad) 1 1) (hq : ∀ j y, ([.int .i64 p, .int .i64 q, .int .i64 u] : List Value)[j]? = some y → W.cell? (ad.add j) = some y) (hl : ps.length ≤ 1000000000) (hB : B ≤ W.heap.size)
    (k : ∀ v' w', OwnC w' B v' (ps ++ [(p, q, u)]) → Below B W w' → W.grownBy w' v.ownBlock → K (a.put o.dst v') w') :
    if Region.wanted o (yielded ops a.tmps) = true then Oper.wpIn F n P o a W K Q else E := by
  rw [if_pos (show Region.wanted o (yielded ops a.tmps) = true by simp [Region.wanted, hgd])]
  obtain ⟨i0, hi, hz0, hz1, hz2⟩ := info_parts hinfo
  obtain ⟨v', w', hrun, r1, r2, r3⟩ := run_append_own (P := P) W B t o.type 40 i0 _ 3 24 ht hi hz0 hz1 hz2 rfl (by decide) v ps.length (ecs ccs ps) h ad 1 1 [.int .i64 p, .int .i64 q, .int .i64 u] rfl hq (fun y hu => by simp at hu; rcases hu with rfl | rfl | rfl <;> rfl) (by unfold maxLen; omega) (by omega) hB
  unfold Oper.wpIn
  refine ⟨?_, ?_⟩
  · simp [Oper.about, ho, resolve, Target.leads, Sem.run_pure]
  · rw [Oper.semAt_plain F _ _ (by rw [ho]; intro c hc'; cases hc')]
    simp [execOp, ho, resolve, invoke, builtin, hs, hx, hrun, Result.andThen]
    refine k v' w' ?_ (Below.grown (Below.refl _ _) r2 hB fun j hj => (World.ownsRow.lt h j hj).1) r2
    show OwnE _ _ _ _ _ _ _
    unfold OwnE
    rw [ecs_append, List.length_append]
    exact r1
def PpX (c : Code) (pre : List ByteArray) (V : World) : Prop := False
theorem PpI.own {N M C : Nat} {w : World} {W H : Int} (hN : N < C) (hs : w.heap.size < C) : OwnFrom C (PpI N M w W H) := fun pre A B row h hg hr => by
  obtain ⟨A', n, c, cs, h1, h2, h3, h4, h5, h6⟩ := h
  have hne : ∀ b, b < C → some b ≠ row := fun b hb e => by have := (hr b e.symm).1; omega
  exact ⟨A', n, c, cs, h1, h2.grown hg (rowNeE h2 hr), h3.kept hg (hne _ hN), h4.kept hg (hne _ hs), h5.grown hg (Nat.le_of_lt h4.lt) (fun k e => Nat.le_trans (Nat.le_of_lt hs) (hr k e).1), Nat.le_trans h6 hg.size⟩
theorem PpX.own {C : Nat} (c : Code) : OwnFrom C (PpX c) := fun pre A B row h hg hr => h.elim
theorem PpI.store {N M : Nat} {w : World} {W H : Int} {pre : List ByteArray} {V : World} (v : Value) (hN : N ≠ M) (hs : w.heap.size < M) (h : PpI N M w W H pre V) : PpI N M w W H pre (V.setCell ⟨M, 0, none⟩ v) := by
  obtain ⟨A', n, c, cs, h1, h2, h3, h4, h5, h6⟩ := h
  exact ⟨A', n, c, cs, h1, OwnE.setOther (a := ⟨M, 0, none⟩) h2 (by simp) _, h3.set1 hN _, h4.set1 (by omega) _, h5.setCell (p := ⟨M, 0, none⟩) (Nat.le_of_lt hs) _, by simpa using h6⟩
set_option maxRecDepth 100000 in
set_option maxHeartbeats 1600000 in
theorem Tryd.iParsePuzzle (t : ByteArray) (w : World) (ht : t.size ≤ 1048576) (hT : Tab w) (hE : ErrVars w) :
    Calls Tryd.prog 5 #[.string t] w (RetK w (ifP (ppB t) (ppK t)) (ifP (ppB t) (ppP t)) (ppR t) (ppB t)) := by
  refine (callsIn_wide (n := 4)).1 ?_
  refine callsIn_of_wp_marks Tryd.func5 rfl trivial ?_ rfl
  simp only [Tryd.ntmps5, List.size_toArray, List.length_cons, List.length_nil, Nat.reduceAdd, Nat.reduceSub, Array.replicate_succ, Array.replicate_zero, List.push_toArray, List.append_toArray, List.nil_append, List.cons_append]
  have HC59 := Lib.hid (fun (V : World) => Tryd.strCut 59 V t (by unfold maxLen; omega))
  have hp := pw_size 59 t
  have HNA := Lib.hid (fun (V : World) (h : Tab V) (he : ErrVars V) => Tryd.iParseStreet (pw1 59 t) V (by omega) h he)
  have HSQ := Lib.hid (fun (V : World) => Tryd.SplitSeq_c (pw2 59 t) V)
  have HPP := Lib.hid (fun (cs : List Clu) => @pp_prog t cs)
  have HE := Lib.hid hE
  have HTB := Lib.hid hT
  have hq2 : (pw2 59 t).size ≤ 1048576 := by omega
  have hq3 : (pw2 59 t).size = 0 ∨ (pw2 59 t).size + 1 ≤ 1048576 := by rcases pw2_lt 59 t with h | h <;> omega
  obtain ⟨q2, hq⟩ : ∃ q2, pw2 59 t = q2 := ⟨_, rfl⟩
  obtain ⟨q1, hq'⟩ : ∃ q1, pw1 59 t = q1 := ⟨_, rfl⟩
  rw [hq, hq'] at HC59
  rw [hq'] at HNA
  rw [hq] at HSQ hq2 hq3
  rw [hq, hq'] at HPP
  generalize psK q1.data.toList = W at *
  generalize psP q1.data.toList = H at *
  generalize psB q1.data.toList = sb at *
  clear hE hT hp hq hq'
  gi_wp2_with (fail)
  refine ⟨trivial, ?_⟩
  refine (callsIn_wide.2 (HC59.out _)).mono ?_
  rintro e w1 ⟨⟨bb, rfl⟩, g1⟩
  have GA : Gr w w1 := (Gr.alloc (Gr.refl w) _).trans g1
  have R1 := Lib.hid (show Bz w1 w.heap.size (.int .i64 0) (.int .i64 0) (.slice none 0 0) from ⟨g1.keep0 (by simp [go_sem]), g1.keep0 (by simp [go_sem]), g1.keep0 (by simp [go_sem]), fun o => ((bcell g1.below).2 _ _ (by simp)).trans (by simp [go_sem])⟩)
  have GB := Lib.hid (Gr.alloc GA (.cells #[.int .i64 0, .int .i64 0, .slice none 0 0] 26))
  clear g1 GA
  gi_wp2_with (fail)
  refine ⟨trivial, ?_⟩
  refine (callsIn_wide.2 (HNA.out _ (HTB.out.below GB.out.below) (HE.out.below GB.out.below))).mono ?_
  rintro e w2 ⟨rfl, hb2⟩
  have n0 : w2.cell? ⟨w1.heap.size, 0, none⟩ = some (.int .i64 0) := cell_k2 hb2 (by simp [go_sem])
  have n1 : w2.cell? ⟨w1.heap.size, 1, none⟩ = some (.int .i64 0) := cell_k2 hb2 (by simp [go_sem])
  have n2 : w2.cell? ⟨w1.heap.size, 2, none⟩ = some (.slice none 0 0) := cell_k2 hb2 (by simp [go_sem])
  have nf : ∀ o, w2.frozen? ⟨w1.heap.size, o, none⟩ = false := fun o => ((bcell hb2).2 _ _ (by simp)).trans (by simp [go_sem])
  have sN : w1.heap.size < w2.heap.size := World.block_lt_of_cell? _ _ n0
  have ss : w.heap.size < w1.heap.size := R1.out.lt
  have HB2 := Lib.hid (show Below w.heap.size w w2 from GB.out.below.trans (hb2.mono (by simp; omega)))
  have R2 := Lib.hid (((R1.out.gr (Gr.alloc (Gr.refl w1) (.cells #[.int .i64 0, .int .i64 0, .slice none 0 0] 26))).bel hb2 (by simp; omega)))
  clear hb2 GB R1
  by_cases hz : q2.size = 0
  · have hQ2 : q2 = ⟨#[]⟩ := by apply ByteArray.ext; exact Array.eq_empty_of_size_eq_zero hz
    have HPQ := Lib.hid (HPP.out [] (fun _ => rfl) (fun q => absurd hz q))
    subst hQ2
    clear hz HPP HSQ hq2 hq3
    have HLL := Lib.hid (show ([] : List Clu).length ≤ 1048576 by simp)
    obtain ⟨V, hV⟩ : ∃ V, (w2.setCell ⟨w1.heap.size, 0, none⟩ (.int .i64 W)).setCell ⟨w1.heap.size, 1, none⟩ (.int .i64 H) = V := ⟨_, rfl⟩
    have HV := Lib.hid (show Bz V w1.heap.size (.int .i64 W) (.int .i64 H) (.slice none 0 0) ∧ Bz V w.heap.size (.int .i64 0) (.int .i64 0) (.slice none 0 0) from by
        rw [← hV]
        exact ⟨⟨(World.cell?_setCell_other _ _ _ _ (by simp)).trans (World.cell?_setCell_same _ _ _ n0), World.cell?_setCell_same _ _ _ ((World.cell?_setCell_other _ _ _ _ (by simp)).trans n1), (World.cell?_setCell_other _ _ _ _ (by simp)).trans ((World.cell?_setCell_other _ _ _ _ (by simp)).trans n2), fun o => by simpa using nf o⟩, (R2.out.set1 (by omega) _).set1 (by omega) _⟩)
    have HBV := Lib.hid (show Below w.heap.size w V from by rw [← hV]; exact (HB2.out.setCell (by simp; omega) _).setCell (by simp; omega) _)
    have HO := Lib.hid (show OwnC V (w.heap.size + 1) (.slice none 0 0) [] from OwnE.nil _ _ _ _ _)
    have HVE := Lib.hid hV
    clear hV
    have z0 : w.heap.size < V.heap.size := HV.out.2.lt
    generalize ([] : List Clu) = cs at *
    cases hok : pgood W H cs
    · have HT := Lib.hid (Tryd.iPuzzleText V W H (.slice none 0 0) cs false hok (HTB.out.below HBV.out) (OwnC.row HO.out (by have := HLL.out; unfold maxLen; omega)))
      rw [show txZ W H cs = ⟨#[]⟩ by simp [txZ, hok]] at HT
      have hB : ppB t = false := by rw [← HPQ.out.1]; simp [hok]
      have HR := Lib.hid (show ifP (ppB t) (ppK t) = 0 ∧ ifP (ppB t) (ppP t) = 0 ∧ ppR t = [] ∧ ppB t = false from ⟨by simp [ifP, hB], by simp [ifP, hB], by simp [ppR, hB], hB⟩)
      clear hok hB HPQ
      gi_wp2_with (fail)
      rw [HVE.out]
      refine ⟨trivial, ?_⟩
      refine (callsIn_wide.2 HT.out).mono ?_
      rintro e w4 ⟨rfl, hb4⟩
      have X1 := HV.out.1.bel hb4 HV.out.1.lt
      have X2 := HV.out.2.bel hb4 HV.out.2.lt
      obtain ⟨k0, k1, k2, kf⟩ := X1
      obtain ⟨r0, r1, r2, rf⟩ := X2
      have zs4 := World.block_lt_of_cell? _ _ r0
      have zk4 := World.block_lt_of_cell? _ _ k0
      gi_wp2
      have U1 : Bz (((w4.setCell ⟨w.heap.size, 0, none⟩ (.int .i64 0)).setCell ⟨w.heap.size, 1, none⟩ (.int .i64 0)).setCell ⟨w.heap.size, 2, none⟩ (.slice none 0 0)) w.heap.size (.int .i64 0) (.int .i64 0) (.slice none 0 0) := Bz.own (x := .int .i64 0) (y := .int .i64 0) (z := .slice none 0 0) ⟨r0, r1, r2, rf⟩
      obtain ⟨c0, c1, c2, _⟩ := U1
      refine ⟨.tuple #[.agg #[.int .i64 0, .int .i64 0, .slice none 0 0], .bool false], ?_, ?_⟩
      · simp [results, Tryd.results5, go_sem, c0, c1, c2]
      · rw [HR.out.1, HR.out.2.1, HR.out.2.2.1, HR.out.2.2.2]
        refine ⟨_, rfl, ?_, ?_⟩
        · exact OwnE.nil _ _ _ _ _
        · exact Below.set3s (HBV.out.trans (hb4.mono HBV.out.size)) (Nat.le_refl _)
    · have HT := Lib.hid (Tryd.iPuzzleText V W H (.slice none 0 0) cs true hok (HTB.out.below HBV.out) (OwnC.row HO.out (by have := HLL.out; unfold maxLen; omega)))
      rw [show txZ W H cs = ZtT W H cs by simp [txZ, hok, ZtT]] at HT
      by_cases hJ : ZtT W H cs = t
      · have hB : ppB t = true := by rw [← HPQ.out.1]; simp [hok, hJ]
        obtain ⟨eW, eH, eC⟩ := HPQ.out.2 hB
        have HR := Lib.hid (show ifP (ppB t) (ppK t) = W ∧ ifP (ppB t) (ppP t) = H ∧ ppR t = cs ∧ ppB t = true from ⟨by simp [ifP, hB, eW], by simp [ifP, hB, eH], by simp [ppR, hB, eC], hB⟩)
        rw [hJ] at HT
        clear hok hB hJ eW eH eC HPQ
        gi_wp2_with (fail)
        rw [HVE.out]
        refine ⟨trivial, ?_⟩
        refine (callsIn_wide.2 HT.out).mono ?_
        rintro e w4 ⟨rfl, hb4⟩
        have X1 := HV.out.1.bel hb4 HV.out.1.lt
        have X2 := HV.out.2.bel hb4 HV.out.2.lt
        obtain ⟨k0, k1, k2, kf⟩ := X1
        obtain ⟨r0, r1, r2, rf⟩ := X2
        have zs4 := World.block_lt_of_cell? _ _ r0
        have zk4 := World.block_lt_of_cell? _ _ k0
        gi_wp2
        have U1 : Bz (((w4.setCell ⟨w.heap.size, 0, none⟩ (.int .i64 W)).setCell ⟨w.heap.size, 1, none⟩ (.int .i64 H)).setCell ⟨w.heap.size, 2, none⟩ (.slice none 0 0)) w.heap.size (.int .i64 W) (.int .i64 H) (.slice none 0 0) := Bz.own (x := .int .i64 W) (y := .int .i64 H) (z := .slice none 0 0) ⟨r0, r1, r2, rf⟩
        obtain ⟨c0, c1, c2, _⟩ := U1
        refine ⟨.tuple #[.agg #[.int .i64 W, .int .i64 H, .slice none 0 0], .bool true], ?_, ?_⟩
        · simp [results, Tryd.results5, go_sem, c0, c1, c2]
        · rw [HR.out.1, HR.out.2.1, HR.out.2.2.1, HR.out.2.2.2]
          refine ⟨_, rfl, ?_, ?_⟩
          · exact OwnE.mono (OwnC.set3s (m := w.heap.size) (OwnE.below HO.out hb4 (Nat.le_refl _)) (by omega)) (by omega)
          · exact Below.set3s (HBV.out.trans (hb4.mono HBV.out.size)) (Nat.le_refl _)
      · have hB : ppB t = false := by rw [← HPQ.out.1]; simp [hok, hJ]
        have HR := Lib.hid (show ifP (ppB t) (ppK t) = 0 ∧ ifP (ppB t) (ppP t) = 0 ∧ ppR t = [] ∧ ppB t = false from ⟨by simp [ifP, hB], by simp [ifP, hB], by simp [ppR, hB], hB⟩)
        have d3 : ((ZtT W H cs).toList == t.toList) = false := ne_txt hJ
        generalize ZtT W H cs = TT at *
        clear hok hB hJ HPQ
        gi_wp2_with (fail)
        rw [HVE.out]
        refine ⟨trivial, ?_⟩
        refine (callsIn_wide.2 HT.out).mono ?_
        rintro e w4 ⟨rfl, hb4⟩
        have X1 := HV.out.1.bel hb4 HV.out.1.lt
        have X2 := HV.out.2.bel hb4 HV.out.2.lt
        obtain ⟨k0, k1, k2, kf⟩ := X1
        obtain ⟨r0, r1, r2, rf⟩ := X2
        have zs4 := World.block_lt_of_cell? _ _ r0
        have zk4 := World.block_lt_of_cell? _ _ k0
        gi_wp2
        have U1 : Bz (((w4.setCell ⟨w.heap.size, 0, none⟩ (.int .i64 0)).setCell ⟨w.heap.size, 1, none⟩ (.int .i64 0)).setCell ⟨w.heap.size, 2, none⟩ (.slice none 0 0)) w.heap.size (.int .i64 0) (.int .i64 0) (.slice none 0 0) := Bz.own (x := .int .i64 0) (y := .int .i64 0) (z := .slice none 0 0) ⟨r0, r1, r2, rf⟩
        obtain ⟨c0, c1, c2, _⟩ := U1
        refine ⟨.tuple #[.agg #[.int .i64 0, .int .i64 0, .slice none 0 0], .bool false], ?_, ?_⟩
        · simp [results, Tryd.results5, go_sem, c0, c1, c2]
        · rw [HR.out.1, HR.out.2.1, HR.out.2.2.1, HR.out.2.2.2]
          refine ⟨_, rfl, ?_, ?_⟩
          · exact OwnE.nil _ _ _ _ _
          · exact Below.set3s (HBV.out.trans (hb4.mono HBV.out.size)) (Nat.le_refl _)
  · have d5 : q2.toList.isEmpty = false := by
        cases hq : q2.toList with
        | nil => exfalso; apply hz; rw [Lib.toList_data] at hq; have := congrArg List.length hq; simpa using this
        | cons a r => rfl
    have HPQ0 := Lib.hid (fun cs (h : RdL (spl 44 q2) cs) => HPP.out cs (fun q => absurd q hz) (fun _ => h))
    have hq4 : q2.size + 1 ≤ 1048576 := by rcases hq3 with h | h; exact absurd h hz; exact h
    clear hz HPP hq3
    gi_wp2_with (refine ⟨trivial, ?_⟩; gi_at_call 12; refine (callsIn_wide.2 (HSQ.out _)).mono ?_; rintro e w3 ⟨rfl, rfl⟩)
    obtain ⟨U, hU⟩ : ∃ U, (w2.setCell ⟨w1.heap.size, 0, none⟩ (.int .i64 W)).setCell ⟨w1.heap.size, 1, none⟩ (.int .i64 H) = U := ⟨_, rfl⟩
    rw [hU]
    have HV0 : Bz U w1.heap.size (.int .i64 W) (.int .i64 H) (.slice none 0 0) ∧ Bz U w.heap.size (.int .i64 0) (.int .i64 0) (.slice none 0 0) := by
        rw [← hU]
        exact ⟨⟨(World.cell?_setCell_other _ _ _ _ (by simp)).trans (World.cell?_setCell_same _ _ _ n0), World.cell?_setCell_same _ _ _ ((World.cell?_setCell_other _ _ _ _ (by simp)).trans n1), (World.cell?_setCell_other _ _ _ _ (by simp)).trans ((World.cell?_setCell_other _ _ _ _ (by simp)).trans n2), fun o => by simpa using nf o⟩, (R2.out.set1 (by omega) _).set1 (by omega) _⟩
    have HBU : Below w.heap.size w U := by rw [← hU]; exact (HB2.out.setCell (by simp; omega) _).setCell (by simp; omega) _
    have hUs : U.heap.size = w2.heap.size := by rw [← hU]; simp
    clear hU n0 n1 n2 nf R2 HB2
    obtain ⟨W0, hW0⟩ : ∃ W0, spW U q2 = W0 := ⟨_, rfl⟩
    rw [hW0]
    have hsz : W0.heap.size = w2.heap.size + 3 := by rw [← hW0]; simp [spW, hUs]
    have gW : Gr U W0 := by rw [← hW0]; exact Gr.alloc (Gr.alloc (Gr.alloc (Gr.refl _) _) _) _
    have y0 : W0.cell? ⟨w2.heap.size, 0, none⟩ = some (.string q2) := by rw [← hUs, ← hW0]; simp [spW, go_sem]
    have yf : W0.frozen? ⟨w2.heap.size, 0, none⟩ = false := by rw [← hUs, ← hW0]; simp [spW, go_sem]
    have y1 : W0.cell? ⟨w2.heap.size + 1, 0, none⟩ = some (.string ⟨#[44]⟩) := by rw [← hUs, ← hW0]; simp [spW, go_sem]
    have y2 : W0.cell? ⟨w2.heap.size + 1 + 1, 0, none⟩ = some (.int .i64 0) := by rw [← hUs, ← hW0]; simp [spW, go_sem]
    have HV1 := HV0.1.gr gW
    have HV2 := HV0.2.gr gW
    have HBW := HBU.trans (gW.below.mono HBU.size)
    clear hW0 hUs HV0 HBU gW
    generalize hM : w2.heap.size = M at *
    generalize hN : w1.heap.size = N at *
    clear hM hN
    refine rf_cell (n := 4) (by omega) (gf := 45) rfl (enters_of Tryd.func45 (by kernel_rfl) rfl)
      (Tryd.split_it 3 (by omega) M (M + 1) (M + 1 + 1) M (M + 3) q2 hq2 W0 (by omega) (by omega) (by omega) (by omega) (by omega) (by omega) y0 yf y1 y2)
      KpB.trans (KpB.put (N := W0.heap.size) (by omega)) rfl (PpI N M w W H) PpX (PpI.own (by omega) (by omega)) (fun c => PpX.own c) (fun pre V v h => h.store v (by omega) (by omega))
      ⟨none, 0, 0, [], RdL.nil, OwnE.nil _ _ _ _ _, HV1, HV2, HBW, by omega⟩
      (fun x => { tmps := #[.string t, undef, .pointer (some ⟨w.heap.size, 0, none⟩), .bool false, .string q1, .string q2, .bool bb, .pointer (some ⟨N, 0, none⟩), .string x, undef, undef, .tuple #[.string q1, .string q2, .bool bb], .string t, .tuple #[.string q1, .string q2, .bool bb], .string q1, .string q2, .bool bb, .tuple #[.agg #[.int .i64 W, .int .i64 H], .bool sb], .string q1, .tuple #[.agg #[.int .i64 W, .int .i64 H], .bool sb], .agg #[.int .i64 W, .int .i64 H], .bool sb, .pointer (some ⟨N, 0, none⟩), .string q2, .bool true, .string q2, spF M, .string x, undef, undef, undef, undef, undef, undef, undef, undef, undef, undef, undef, undef, undef, undef, undef, undef, undef, undef, undef, undef, undef], defers := [] }) ?assign ?body ?done ?stop
    case assign =>
      intro l x V K hK
      gi_wp2
      exact hK
    case body =>
      rintro l pre x V ⟨A, n, c, cs, h1, h2, h3, h4, h5, h6⟩ hlen hx
      have HCL := Lib.hid (show cs.length ≤ 1000000000 by rw [h1.len]; have := spl_len 44 q2; omega)
      have HCW := Lib.hid (fun (X : World) (h : ErrVars X) => Tryd.clueWithText x X hx h)
      obtain ⟨k0, k1, k2, kf⟩ := (show Bz V N (.int .i64 W) (.int .i64 H) (.slice A n c) from h3)
      have HV := Lib.hid (And.intro h3 h4)
      have HO := Lib.hid h2
      have HB5 := Lib.hid h5
      have HRD := Lib.hid h1
      have zN : N < V.heap.size := h3.lt
      clear h1 h2 h3 h4 h5 hlen HPQ0 HV1 HV2 HBW y0 y1 y2 yf d5
      skip
      have z2V := zN
      gi_wp2_with (fail)
      refine wpIn_region_any (by kernel_rfl) ?_
      (try (change wpAnyIn _ _ _ _ _ _ _ _ _ (World.drew _)))
      refine wpAnyIn_ready (rs := [0, 2]) (by kernel_rfl) (by simp) (AllReadyIn.cons (by simp only [List.getElem?_toArray, List.getElem?_cons_succ, List.getElem?_cons_zero]; exact rfl) (fun K' hK => ?_) (AllReadyIn.cons (by simp only [List.getElem?_toArray, List.getElem?_cons_succ, List.getElem?_cons_zero]; exact rfl) (fun K' hK => ?_) AllReadyIn.nil))
      · go_simp
        (refine hK _ _ ?_; clear hK K'; try simp only [Act.put, List.setIfInBounds_toArray, List.set_cons_zero, List.set_cons_succ])
        refine wpAnyIn_ready (rs := [1, 2]) (by kernel_rfl) (by simp) (AllReadyIn.cons (by simp only [List.getElem?_toArray, List.getElem?_cons_succ, List.getElem?_cons_zero]; exact rfl) (fun K' hK => ?_) (AllReadyIn.cons (by simp only [List.getElem?_toArray, List.getElem?_cons_succ, List.getElem?_cons_zero]; exact rfl) (fun K' hK => ?_) AllReadyIn.nil))
        · go_simp
          (refine hK _ _ ?_; clear hK K'; try simp only [Act.put, List.setIfInBounds_toArray, List.set_cons_zero, List.set_cons_succ])
          refine wpAnyIn_ready (rs := [2]) (by kernel_rfl) (by simp) (AllReadyIn.cons (by simp only [List.getElem?_toArray, List.getElem?_cons_succ, List.getElem?_cons_zero]; exact rfl) (fun K' hK => ?_) AllReadyIn.nil)
          go_simp
          (refine hK _ _ ?_; clear hK K'; try simp only [Act.put, List.setIfInBounds_toArray, List.set_cons_zero, List.set_cons_succ])
          refine wpAnyIn_ready (rs := [3]) (by kernel_rfl) (by simp) (AllReadyIn.cons (by simp only [List.getElem?_toArray, List.getElem?_cons_succ, List.getElem?_cons_zero]; exact rfl) (fun K' hK => ?_) AllReadyIn.nil)
          go_simp
          gi_wp2_with (refine ⟨trivial, ?_⟩; gi_at_call 13; refine (CallsIn.inRound l (callsIn_wide.2 (HCW.out _ (HE.out.below (HB5.out.trans ((Gr.drew (Gr.refl V)).below.mono HB5.out.size)))))).mono ?_; rintro e w3 ⟨p, q, u, rfl, rp, hb3⟩; have HRP := Lib.hid rp; have HB3 := Lib.hid ((Gr.drew (Gr.refl V)).below.trans hb3); clear rp hb3)
          have N3 := HV.out.1.bel HB3.out zN
          obtain ⟨j0, j1, j2, jf⟩ := N3
          have zN3 : N < w3.heap.size := World.block_lt_of_cell? _ _ j0
          (first | (refine hK _ _ ?_; clear hK K'; try simp only [Act.put, List.setIfInBounds_toArray, List.set_cons_zero, List.set_cons_succ]) | skip)
          refine wpAnyIn_ready (rs := [4]) (by kernel_rfl) (by simp) (AllReadyIn.cons (by simp only [List.getElem?_toArray, List.getElem?_cons_succ, List.getElem?_cons_zero]; exact rfl) (fun K' hK => ?_) AllReadyIn.nil)
          go_simp
          (refine hK _ _ ?_; clear hK K'; try simp only [Act.put, List.setIfInBounds_toArray, List.set_cons_zero, List.set_cons_succ])
          refine wpAnyIn_ready (rs := [5]) (by kernel_rfl) (by simp) (AllReadyIn.cons (by simp only [List.getElem?_toArray, List.getElem?_cons_succ, List.getElem?_cons_zero]; exact rfl) (fun K' hK => ?_) AllReadyIn.nil)
          refine stepIn_appC rfl (.tmp 29) (.tmp 32) 24 rfl Tryd.underlying24 Tryd.infoC (M + 3) _ _ rfl (OwnE.gr (OwnE.below HO.out HB3.out (Nat.le_refl _)) (Gr.alloc (Gr.refl _) _)) p q u ⟨w3.heap.size, 0, none⟩ rfl (fun j y hy => alloc_cells (by simpa using hy)) HCL.out (by have := HB3.out.size; simp; omega) ?_
          intro v4 w4 ho4 hb4 gb4
          obtain ⟨A', c', rfl, ho4⟩ := OwnE.eta ho4
          rw [List.length_append, List.length_cons, List.length_nil, Nat.zero_add] at ho4 ⊢
          have H4 := Lib.hid (And.intro ho4 (And.intro hb4 gb4))
          have G3 := Lib.hid (HB3.out.trans ((Gr.alloc (Gr.refl w3) (.cells #[.int .i64 p, .int .i64 q, .int .i64 u] 40)).below.mono HB3.out.size))
          have HN4 := Lib.hid (And.intro ((HV.out.1.bel G3.out zN).bel hb4 (by omega)) ((HV.out.2.bel G3.out (by omega)).bel hb4 (by omega)))
          obtain ⟨m0, m1, m2, mf⟩ := HN4.out.1
          have zN4 : N < w4.heap.size := World.block_lt_of_cell? _ _ m0
          clear ho4 hb4 gb4
          (refine hK _ _ ?_; clear hK K'; try simp only [Act.put, List.setIfInBounds_toArray, List.set_cons_zero, List.set_cons_succ])
          refine wpAnyIn_ready (rs := [6]) (by kernel_rfl) (by simp) (AllReadyIn.cons (by simp only [List.getElem?_toArray, List.getElem?_cons_succ, List.getElem?_cons_zero]; exact rfl) (fun K' hK => ?_) AllReadyIn.nil)
          go_simp
          (refine hK _ _ ?_; clear hK K'; try simp only [Act.put, List.setIfInBounds_toArray, List.set_cons_zero, List.set_cons_succ])
          refine wpAnyIn_ready (rs := [7]) (by kernel_rfl) (by simp) (AllReadyIn.cons (by simp only [List.getElem?_toArray, List.getElem?_cons_succ, List.getElem?_cons_zero]; exact rfl) (fun K' hK => ?_) AllReadyIn.nil)
          go_simp
          (refine hK _ _ ?_; clear hK K'; try simp only [Act.put, List.setIfInBounds_toArray, List.set_cons_zero, List.set_cons_succ])
          refine wpAnyIn_done (by kernel_rfl) ?_ _
          gi_wp2
          have sw4 : M + 3 ≤ w4.heap.size := Nat.le_trans (Nat.le_trans h6 G3.out.size) H4.out.2.2.size
          refine ⟨(keeps_below G3.out).trans ((KeepsOthers.of_grownBy H4.out.2.2 (rowCellsE (OwnE.below HO.out G3.out (Nat.le_refl _)))).trans (KeepsOthers.setCell _ _ _)), ?_, ⟨A', cs.length + 1, c', cs ++ [(p, q, u)], RdL.snoc HRD.out HRP.out, OwnE.setOther (a := ⟨N, 2, none⟩) H4.out.1 (by simp; omega) _, Bz.own2 HN4.out.1, Bz.set1 HN4.out.2 (by omega) _, ((HB5.out.trans (G3.out.mono HB5.out.size)).trans (H4.out.2.1.mono (by omega))).setCell (by simp; omega) _, by simpa using sw4⟩⟩
          exact (KpB.below G3.out h6).trans ((KpB.below H4.out.2.1 (Nat.le_refl _)).trans fun b q1 q2 => heap_setCell_other w4 ⟨N, 2, none⟩ b _ (fun e => by (try simp at e); omega))
        · go_simp
          (refine hK _ _ ?_; clear hK K'; try simp only [Act.put, List.setIfInBounds_toArray, List.set_cons_zero, List.set_cons_succ])
          refine wpAnyIn_ready (rs := [1, 3]) (by kernel_rfl) (by simp) (AllReadyIn.cons (by simp only [List.getElem?_toArray, List.getElem?_cons_succ, List.getElem?_cons_zero]; exact rfl) (fun K' hK => ?_) (AllReadyIn.cons (by simp only [List.getElem?_toArray, List.getElem?_cons_succ, List.getElem?_cons_zero]; exact rfl) (fun K' hK => ?_) AllReadyIn.nil))
          · go_simp
            (refine hK _ _ ?_; clear hK K'; try simp only [Act.put, List.setIfInBounds_toArray, List.set_cons_zero, List.set_cons_succ])
            refine wpAnyIn_ready (rs := [3]) (by kernel_rfl) (by simp) (AllReadyIn.cons (by simp only [List.getElem?_toArray, List.getElem?_cons_succ, List.getElem?_cons_zero]; exact rfl) (fun K' hK => ?_) AllReadyIn.nil)
            go_simp
            gi_wp2_with (refine ⟨trivial, ?_⟩; gi_at_call 13; refine (CallsIn.inRound l (callsIn_wide.2 (HCW.out _ (HE.out.below (HB5.out.trans ((Gr.drew (Gr.refl V)).below.mono HB5.out.size)))))).mono ?_; rintro e w3 ⟨p, q, u, rfl, rp, hb3⟩; have HRP := Lib.hid rp; have HB3 := Lib.hid ((Gr.drew (Gr.refl V)).below.trans hb3); clear rp hb3)
            have N3 := HV.out.1.bel HB3.out zN
            obtain ⟨j0, j1, j2, jf⟩ := N3
            have zN3 : N < w3.heap.size := World.block_lt_of_cell? _ _ j0
            (first | (refine hK _ _ ?_; clear hK K'; try simp only [Act.put, List.setIfInBounds_toArray, List.set_cons_zero, List.set_cons_succ]) | skip)
            refine wpAnyIn_ready (rs := [4]) (by kernel_rfl) (by simp) (AllReadyIn.cons (by simp only [List.getElem?_toArray, List.getElem?_cons_succ, List.getElem?_cons_zero]; exact rfl) (fun K' hK => ?_) AllReadyIn.nil)
            go_simp
            (refine hK _ _ ?_; clear hK K'; try simp only [Act.put, List.setIfInBounds_toArray, List.set_cons_zero, List.set_cons_succ])
            refine wpAnyIn_ready (rs := [5]) (by kernel_rfl) (by simp) (AllReadyIn.cons (by simp only [List.getElem?_toArray, List.getElem?_cons_succ, List.getElem?_cons_zero]; exact rfl) (fun K' hK => ?_) AllReadyIn.nil)
            refine stepIn_appC rfl (.tmp 29) (.tmp 32) 24 rfl Tryd.underlying24 Tryd.infoC (M + 3) _ _ rfl (OwnE.gr (OwnE.below HO.out HB3.out (Nat.le_refl _)) (Gr.alloc (Gr.refl _) _)) p q u ⟨w3.heap.size, 0, none⟩ rfl (fun j y hy => alloc_cells (by simpa using hy)) HCL.out (by have := HB3.out.size; simp; omega) ?_
            intro v4 w4 ho4 hb4 gb4
            obtain ⟨A', c', rfl, ho4⟩ := OwnE.eta ho4
            rw [List.length_append, List.length_cons, List.length_nil, Nat.zero_add] at ho4 ⊢
            have H4 := Lib.hid (And.intro ho4 (And.intro hb4 gb4))
            have G3 := Lib.hid (HB3.out.trans ((Gr.alloc (Gr.refl w3) (.cells #[.int .i64 p, .int .i64 q, .int .i64 u] 40)).below.mono HB3.out.size))
            have HN4 := Lib.hid (And.intro ((HV.out.1.bel G3.out zN).bel hb4 (by omega)) ((HV.out.2.bel G3.out (by omega)).bel hb4 (by omega)))
            obtain ⟨m0, m1, m2, mf⟩ := HN4.out.1
            have zN4 : N < w4.heap.size := World.block_lt_of_cell? _ _ m0
            clear ho4 hb4 gb4
            (refine hK _ _ ?_; clear hK K'; try simp only [Act.put, List.setIfInBounds_toArray, List.set_cons_zero, List.set_cons_succ])
            refine wpAnyIn_ready (rs := [6]) (by kernel_rfl) (by simp) (AllReadyIn.cons (by simp only [List.getElem?_toArray, List.getElem?_cons_succ, List.getElem?_cons_zero]; exact rfl) (fun K' hK => ?_) AllReadyIn.nil)
            go_simp
            (refine hK _ _ ?_; clear hK K'; try simp only [Act.put, List.setIfInBounds_toArray, List.set_cons_zero, List.set_cons_succ])
            refine wpAnyIn_ready (rs := [7]) (by kernel_rfl) (by simp) (AllReadyIn.cons (by simp only [List.getElem?_toArray, List.getElem?_cons_succ, List.getElem?_cons_zero]; exact rfl) (fun K' hK => ?_) AllReadyIn.nil)
            go_simp
            (refine hK _ _ ?_; clear hK K'; try simp only [Act.put, List.setIfInBounds_toArray, List.set_cons_zero, List.set_cons_succ])
            refine wpAnyIn_done (by kernel_rfl) ?_ _
            gi_wp2
            have sw4 : M + 3 ≤ w4.heap.size := Nat.le_trans (Nat.le_trans h6 G3.out.size) H4.out.2.2.size
            refine ⟨(keeps_below G3.out).trans ((KeepsOthers.of_grownBy H4.out.2.2 (rowCellsE (OwnE.below HO.out G3.out (Nat.le_refl _)))).trans (KeepsOthers.setCell _ _ _)), ?_, ⟨A', cs.length + 1, c', cs ++ [(p, q, u)], RdL.snoc HRD.out HRP.out, OwnE.setOther (a := ⟨N, 2, none⟩) H4.out.1 (by simp; omega) _, Bz.own2 HN4.out.1, Bz.set1 HN4.out.2 (by omega) _, ((HB5.out.trans (G3.out.mono HB5.out.size)).trans (H4.out.2.1.mono (by omega))).setCell (by simp; omega) _, by simpa using sw4⟩⟩
            exact (KpB.below G3.out h6).trans ((KpB.below H4.out.2.1 (Nat.le_refl _)).trans fun b q1 q2 => heap_setCell_other w4 ⟨N, 2, none⟩ b _ (fun e => by (try simp at e); omega))
          · go_simp
            gi_wp2_with (refine ⟨trivial, ?_⟩; gi_at_call 13; refine (CallsIn.inRound l (callsIn_wide.2 (HCW.out _ (HE.out.below (HB5.out.trans ((Gr.drew (Gr.refl V)).below.mono HB5.out.size)))))).mono ?_; rintro e w3 ⟨p, q, u, rfl, rp, hb3⟩; have HRP := Lib.hid rp; have HB3 := Lib.hid ((Gr.drew (Gr.refl V)).below.trans hb3); clear rp hb3)
            have N3 := HV.out.1.bel HB3.out zN
            obtain ⟨j0, j1, j2, jf⟩ := N3
            have zN3 : N < w3.heap.size := World.block_lt_of_cell? _ _ j0
            (first | (refine hK _ _ ?_; clear hK K'; try simp only [Act.put, List.setIfInBounds_toArray, List.set_cons_zero, List.set_cons_succ]) | skip)
            refine wpAnyIn_ready (rs := [1, 4]) (by kernel_rfl) (by simp) (AllReadyIn.cons (by simp only [List.getElem?_toArray, List.getElem?_cons_succ, List.getElem?_cons_zero]; exact rfl) (fun K' hK => ?_) (AllReadyIn.cons (by simp only [List.getElem?_toArray, List.getElem?_cons_succ, List.getElem?_cons_zero]; exact rfl) (fun K' hK => ?_) AllReadyIn.nil))
            · go_simp
              (refine hK _ _ ?_; clear hK K'; try simp only [Act.put, List.setIfInBounds_toArray, List.set_cons_zero, List.set_cons_succ])
              refine wpAnyIn_ready (rs := [4]) (by kernel_rfl) (by simp) (AllReadyIn.cons (by simp only [List.getElem?_toArray, List.getElem?_cons_succ, List.getElem?_cons_zero]; exact rfl) (fun K' hK => ?_) AllReadyIn.nil)
              go_simp
              (refine hK _ _ ?_; clear hK K'; try simp only [Act.put, List.setIfInBounds_toArray, List.set_cons_zero, List.set_cons_succ])
              refine wpAnyIn_ready (rs := [5]) (by kernel_rfl) (by simp) (AllReadyIn.cons (by simp only [List.getElem?_toArray, List.getElem?_cons_succ, List.getElem?_cons_zero]; exact rfl) (fun K' hK => ?_) AllReadyIn.nil)
              refine stepIn_appC rfl (.tmp 29) (.tmp 32) 24 rfl Tryd.underlying24 Tryd.infoC (M + 3) _ _ rfl (OwnE.gr (OwnE.below HO.out HB3.out (Nat.le_refl _)) (Gr.alloc (Gr.refl _) _)) p q u ⟨w3.heap.size, 0, none⟩ rfl (fun j y hy => alloc_cells (by simpa using hy)) HCL.out (by have := HB3.out.size; simp; omega) ?_
              intro v4 w4 ho4 hb4 gb4
              obtain ⟨A', c', rfl, ho4⟩ := OwnE.eta ho4
              rw [List.length_append, List.length_cons, List.length_nil, Nat.zero_add] at ho4 ⊢
              have H4 := Lib.hid (And.intro ho4 (And.intro hb4 gb4))
              have G3 := Lib.hid (HB3.out.trans ((Gr.alloc (Gr.refl w3) (.cells #[.int .i64 p, .int .i64 q, .int .i64 u] 40)).below.mono HB3.out.size))
              have HN4 := Lib.hid (And.intro ((HV.out.1.bel G3.out zN).bel hb4 (by omega)) ((HV.out.2.bel G3.out (by omega)).bel hb4 (by omega)))
              obtain ⟨m0, m1, m2, mf⟩ := HN4.out.1
              have zN4 : N < w4.heap.size := World.block_lt_of_cell? _ _ m0
              clear ho4 hb4 gb4
              (refine hK _ _ ?_; clear hK K'; try simp only [Act.put, List.setIfInBounds_toArray, List.set_cons_zero, List.set_cons_succ])
              refine wpAnyIn_ready (rs := [6]) (by kernel_rfl) (by simp) (AllReadyIn.cons (by simp only [List.getElem?_toArray, List.getElem?_cons_succ, List.getElem?_cons_zero]; exact rfl) (fun K' hK => ?_) AllReadyIn.nil)
              go_simp
              (refine hK _ _ ?_; clear hK K'; try simp only [Act.put, List.setIfInBounds_toArray, List.set_cons_zero, List.set_cons_succ])
              refine wpAnyIn_ready (rs := [7]) (by kernel_rfl) (by simp) (AllReadyIn.cons (by simp only [List.getElem?_toArray, List.getElem?_cons_succ, List.getElem?_cons_zero]; exact rfl) (fun K' hK => ?_) AllReadyIn.nil)
              go_simp
              (refine hK _ _ ?_; clear hK K'; try simp only [Act.put, List.setIfInBounds_toArray, List.set_cons_zero, List.set_cons_succ])
              refine wpAnyIn_done (by kernel_rfl) ?_ _
              gi_wp2
              have sw4 : M + 3 ≤ w4.heap.size := Nat.le_trans (Nat.le_trans h6 G3.out.size) H4.out.2.2.size
              refine ⟨(keeps_below G3.out).trans ((KeepsOthers.of_grownBy H4.out.2.2 (rowCellsE (OwnE.below HO.out G3.out (Nat.le_refl _)))).trans (KeepsOthers.setCell _ _ _)), ?_, ⟨A', cs.length + 1, c', cs ++ [(p, q, u)], RdL.snoc HRD.out HRP.out, OwnE.setOther (a := ⟨N, 2, none⟩) H4.out.1 (by simp; omega) _, Bz.own2 HN4.out.1, Bz.set1 HN4.out.2 (by omega) _, ((HB5.out.trans (G3.out.mono HB5.out.size)).trans (H4.out.2.1.mono (by omega))).setCell (by simp; omega) _, by simpa using sw4⟩⟩
              exact (KpB.below G3.out h6).trans ((KpB.below H4.out.2.1 (Nat.le_refl _)).trans fun b q1 q2 => heap_setCell_other w4 ⟨N, 2, none⟩ b _ (fun e => by (try simp at e); omega))
            · go_simp
              (refine hK _ _ ?_; clear hK K'; try simp only [Act.put, List.setIfInBounds_toArray, List.set_cons_zero, List.set_cons_succ])
              refine wpAnyIn_ready (rs := [1]) (by kernel_rfl) (by simp) (AllReadyIn.cons (by simp only [List.getElem?_toArray, List.getElem?_cons_succ, List.getElem?_cons_zero]; exact rfl) (fun K' hK => ?_) AllReadyIn.nil)
              go_simp
              (refine hK _ _ ?_; clear hK K'; try simp only [Act.put, List.setIfInBounds_toArray, List.set_cons_zero, List.set_cons_succ])
              refine wpAnyIn_ready (rs := [5]) (by kernel_rfl) (by simp) (AllReadyIn.cons (by simp only [List.getElem?_toArray, List.getElem?_cons_succ, List.getElem?_cons_zero]; exact rfl) (fun K' hK => ?_) AllReadyIn.nil)
              refine stepIn_appC rfl (.tmp 29) (.tmp 32) 24 rfl Tryd.underlying24 Tryd.infoC (M + 3) _ _ rfl (OwnE.gr (OwnE.below HO.out HB3.out (Nat.le_refl _)) (Gr.alloc (Gr.refl _) _)) p q u ⟨w3.heap.size, 0, none⟩ rfl (fun j y hy => alloc_cells (by simpa using hy)) HCL.out (by have := HB3.out.size; simp; omega) ?_
              intro v4 w4 ho4 hb4 gb4
              obtain ⟨A', c', rfl, ho4⟩ := OwnE.eta ho4
              rw [List.length_append, List.length_cons, List.length_nil, Nat.zero_add] at ho4 ⊢
              have H4 := Lib.hid (And.intro ho4 (And.intro hb4 gb4))
              have G3 := Lib.hid (HB3.out.trans ((Gr.alloc (Gr.refl w3) (.cells #[.int .i64 p, .int .i64 q, .int .i64 u] 40)).below.mono HB3.out.size))
              have HN4 := Lib.hid (And.intro ((HV.out.1.bel G3.out zN).bel hb4 (by omega)) ((HV.out.2.bel G3.out (by omega)).bel hb4 (by omega)))
              obtain ⟨m0, m1, m2, mf⟩ := HN4.out.1
              have zN4 : N < w4.heap.size := World.block_lt_of_cell? _ _ m0
              clear ho4 hb4 gb4
              (refine hK _ _ ?_; clear hK K'; try simp only [Act.put, List.setIfInBounds_toArray, List.set_cons_zero, List.set_cons_succ])
              refine wpAnyIn_ready (rs := [6]) (by kernel_rfl) (by simp) (AllReadyIn.cons (by simp only [List.getElem?_toArray, List.getElem?_cons_succ, List.getElem?_cons_zero]; exact rfl) (fun K' hK => ?_) AllReadyIn.nil)
              go_simp
              (refine hK _ _ ?_; clear hK K'; try simp only [Act.put, List.setIfInBounds_toArray, List.set_cons_zero, List.set_cons_succ])
              refine wpAnyIn_ready (rs := [7]) (by kernel_rfl) (by simp) (AllReadyIn.cons (by simp only [List.getElem?_toArray, List.getElem?_cons_succ, List.getElem?_cons_zero]; exact rfl) (fun K' hK => ?_) AllReadyIn.nil)
              go_simp
              (refine hK _ _ ?_; clear hK K'; try simp only [Act.put, List.setIfInBounds_toArray, List.set_cons_zero, List.set_cons_succ])
              refine wpAnyIn_done (by kernel_rfl) ?_ _
              gi_wp2
              have sw4 : M + 3 ≤ w4.heap.size := Nat.le_trans (Nat.le_trans h6 G3.out.size) H4.out.2.2.size
              refine ⟨(keeps_below G3.out).trans ((KeepsOthers.of_grownBy H4.out.2.2 (rowCellsE (OwnE.below HO.out G3.out (Nat.le_refl _)))).trans (KeepsOthers.setCell _ _ _)), ?_, ⟨A', cs.length + 1, c', cs ++ [(p, q, u)], RdL.snoc HRD.out HRP.out, OwnE.setOther (a := ⟨N, 2, none⟩) H4.out.1 (by simp; omega) _, Bz.own2 HN4.out.1, Bz.set1 HN4.out.2 (by omega) _, ((HB5.out.trans (G3.out.mono HB5.out.size)).trans (H4.out.2.1.mono (by omega))).setCell (by simp; omega) _, by simpa using sw4⟩⟩
              exact (KpB.below G3.out h6).trans ((KpB.below H4.out.2.1 (Nat.le_refl _)).trans fun b q1 q2 => heap_setCell_other w4 ⟨N, 2, none⟩ b _ (fun e => by (try simp at e); omega))
      · go_simp
        (refine hK _ _ ?_; clear hK K'; try simp only [Act.put, List.setIfInBounds_toArray, List.set_cons_zero, List.set_cons_succ])
        refine wpAnyIn_ready (rs := [0, 3]) (by kernel_rfl) (by simp) (AllReadyIn.cons (by simp only [List.getElem?_toArray, List.getElem?_cons_succ, List.getElem?_cons_zero]; exact rfl) (fun K' hK => ?_) (AllReadyIn.cons (by simp only [List.getElem?_toArray, List.getElem?_cons_succ, List.getElem?_cons_zero]; exact rfl) (fun K' hK => ?_) AllReadyIn.nil))
        · go_simp
          (refine hK _ _ ?_; clear hK K'; try simp only [Act.put, List.setIfInBounds_toArray, List.set_cons_zero, List.set_cons_succ])
          refine wpAnyIn_ready (rs := [1, 3]) (by kernel_rfl) (by simp) (AllReadyIn.cons (by simp only [List.getElem?_toArray, List.getElem?_cons_succ, List.getElem?_cons_zero]; exact rfl) (fun K' hK => ?_) (AllReadyIn.cons (by simp only [List.getElem?_toArray, List.getElem?_cons_succ, List.getElem?_cons_zero]; exact rfl) (fun K' hK => ?_) AllReadyIn.nil))
          · go_simp
            (refine hK _ _ ?_; clear hK K'; try simp only [Act.put, List.setIfInBounds_toArray, List.set_cons_zero, List.set_cons_succ])
            refine wpAnyIn_ready (rs := [3]) (by kernel_rfl) (by simp) (AllReadyIn.cons (by simp only [List.getElem?_toArray, List.getElem?_cons_succ, List.getElem?_cons_zero]; exact rfl) (fun K' hK => ?_) AllReadyIn.nil)
            go_simp
            gi_wp2_with (refine ⟨trivial, ?_⟩; gi_at_call 13; refine (CallsIn.inRound l (callsIn_wide.2 (HCW.out _ (HE.out.below (HB5.out.trans ((Gr.drew (Gr.refl V)).below.mono HB5.out.size)))))).mono ?_; rintro e w3 ⟨p, q, u, rfl, rp, hb3⟩; have HRP := Lib.hid rp; have HB3 := Lib.hid ((Gr.drew (Gr.refl V)).below.trans hb3); clear rp hb3)
            have N3 := HV.out.1.bel HB3.out zN
            obtain ⟨j0, j1, j2, jf⟩ := N3
            have zN3 : N < w3.heap.size := World.block_lt_of_cell? _ _ j0
            (first | (refine hK _ _ ?_; clear hK K'; try simp only [Act.put, List.setIfInBounds_toArray, List.set_cons_zero, List.set_cons_succ]) | skip)
            refine wpAnyIn_ready (rs := [4]) (by kernel_rfl) (by simp) (AllReadyIn.cons (by simp only [List.getElem?_toArray, List.getElem?_cons_succ, List.getElem?_cons_zero]; exact rfl) (fun K' hK => ?_) AllReadyIn.nil)
            go_simp
            (refine hK _ _ ?_; clear hK K'; try simp only [Act.put, List.setIfInBounds_toArray, List.set_cons_zero, List.set_cons_succ])
            refine wpAnyIn_ready (rs := [5]) (by kernel_rfl) (by simp) (AllReadyIn.cons (by simp only [List.getElem?_toArray, List.getElem?_cons_succ, List.getElem?_cons_zero]; exact rfl) (fun K' hK => ?_) AllReadyIn.nil)
            refine stepIn_appC rfl (.tmp 29) (.tmp 32) 24 rfl Tryd.underlying24 Tryd.infoC (M + 3) _ _ rfl (OwnE.gr (OwnE.below HO.out HB3.out (Nat.le_refl _)) (Gr.alloc (Gr.refl _) _)) p q u ⟨w3.heap.size, 0, none⟩ rfl (fun j y hy => alloc_cells (by simpa using hy)) HCL.out (by have := HB3.out.size; simp; omega) ?_
            intro v4 w4 ho4 hb4 gb4
            obtain ⟨A', c', rfl, ho4⟩ := OwnE.eta ho4
            rw [List.length_append, List.length_cons, List.length_nil, Nat.zero_add] at ho4 ⊢
            have H4 := Lib.hid (And.intro ho4 (And.intro hb4 gb4))
            have G3 := Lib.hid (HB3.out.trans ((Gr.alloc (Gr.refl w3) (.cells #[.int .i64 p, .int .i64 q, .int .i64 u] 40)).below.mono HB3.out.size))
            have HN4 := Lib.hid (And.intro ((HV.out.1.bel G3.out zN).bel hb4 (by omega)) ((HV.out.2.bel G3.out (by omega)).bel hb4 (by omega)))
            obtain ⟨m0, m1, m2, mf⟩ := HN4.out.1
            have zN4 : N < w4.heap.size := World.block_lt_of_cell? _ _ m0
            clear ho4 hb4 gb4
            (refine hK _ _ ?_; clear hK K'; try simp only [Act.put, List.setIfInBounds_toArray, List.set_cons_zero, List.set_cons_succ])
            refine wpAnyIn_ready (rs := [6]) (by kernel_rfl) (by simp) (AllReadyIn.cons (by simp only [List.getElem?_toArray, List.getElem?_cons_succ, List.getElem?_cons_zero]; exact rfl) (fun K' hK => ?_) AllReadyIn.nil)
            go_simp
            (refine hK _ _ ?_; clear hK K'; try simp only [Act.put, List.setIfInBounds_toArray, List.set_cons_zero, List.set_cons_succ])
            refine wpAnyIn_ready (rs := [7]) (by kernel_rfl) (by simp) (AllReadyIn.cons (by simp only [List.getElem?_toArray, List.getElem?_cons_succ, List.getElem?_cons_zero]; exact rfl) (fun K' hK => ?_) AllReadyIn.nil)
            go_simp
            (refine hK _ _ ?_; clear hK K'; try simp only [Act.put, List.setIfInBounds_toArray, List.set_cons_zero, List.set_cons_succ])
            refine wpAnyIn_done (by kernel_rfl) ?_ _
            gi_wp2
            have sw4 : M + 3 ≤ w4.heap.size := Nat.le_trans (Nat.le_trans h6 G3.out.size) H4.out.2.2.size
            refine ⟨(keeps_below G3.out).trans ((KeepsOthers.of_grownBy H4.out.2.2 (rowCellsE (OwnE.below HO.out G3.out (Nat.le_refl _)))).trans (KeepsOthers.setCell _ _ _)), ?_, ⟨A', cs.length + 1, c', cs ++ [(p, q, u)], RdL.snoc HRD.out HRP.out, OwnE.setOther (a := ⟨N, 2, none⟩) H4.out.1 (by simp; omega) _, Bz.own2 HN4.out.1, Bz.set1 HN4.out.2 (by omega) _, ((HB5.out.trans (G3.out.mono HB5.out.size)).trans (H4.out.2.1.mono (by omega))).setCell (by simp; omega) _, by simpa using sw4⟩⟩
            exact (KpB.below G3.out h6).trans ((KpB.below H4.out.2.1 (Nat.le_refl _)).trans fun b q1 q2 => heap_setCell_other w4 ⟨N, 2, none⟩ b _ (fun e => by (try simp at e); omega))
          · go_simp
            gi_wp2_with (refine ⟨trivial, ?_⟩; gi_at_call 13; refine (CallsIn.inRound l (callsIn_wide.2 (HCW.out _ (HE.out.below (HB5.out.trans ((Gr.drew (Gr.refl V)).below.mono HB5.out.size)))))).mono ?_; rintro e w3 ⟨p, q, u, rfl, rp, hb3⟩; have HRP := Lib.hid rp; have HB3 := Lib.hid ((Gr.drew (Gr.refl V)).below.trans hb3); clear rp hb3)
            have N3 := HV.out.1.bel HB3.out zN
            obtain ⟨j0, j1, j2, jf⟩ := N3
            have zN3 : N < w3.heap.size := World.block_lt_of_cell? _ _ j0
            (first | (refine hK _ _ ?_; clear hK K'; try simp only [Act.put, List.setIfInBounds_toArray, List.set_cons_zero, List.set_cons_succ]) | skip)
            refine wpAnyIn_ready (rs := [1, 4]) (by kernel_rfl) (by simp) (AllReadyIn.cons (by simp only [List.getElem?_toArray, List.getElem?_cons_succ, List.getElem?_cons_zero]; exact rfl) (fun K' hK => ?_) (AllReadyIn.cons (by simp only [List.getElem?_toArray, List.getElem?_cons_succ, List.getElem?_cons_zero]; exact rfl) (fun K' hK => ?_) AllReadyIn.nil))
            · go_simp
              (refine hK _ _ ?_; clear hK K'; try simp only [Act.put, List.setIfInBounds_toArray, List.set_cons_zero, List.set_cons_succ])
              refine wpAnyIn_ready (rs := [4]) (by kernel_rfl) (by simp) (AllReadyIn.cons (by simp only [List.getElem?_toArray, List.getElem?_cons_succ, List.getElem?_cons_zero]; exact rfl) (fun K' hK => ?_) AllReadyIn.nil)
              go_simp
              (refine hK _ _ ?_; clear hK K'; try simp only [Act.put, List.setIfInBounds_toArray, List.set_cons_zero, List.set_cons_succ])
              refine wpAnyIn_ready (rs := [5]) (by kernel_rfl) (by simp) (AllReadyIn.cons (by simp only [List.getElem?_toArray, List.getElem?_cons_succ, List.getElem?_cons_zero]; exact rfl) (fun K' hK => ?_) AllReadyIn.nil)
              refine stepIn_appC rfl (.tmp 29) (.tmp 32) 24 rfl Tryd.underlying24 Tryd.infoC (M + 3) _ _ rfl (OwnE.gr (OwnE.below HO.out HB3.out (Nat.le_refl _)) (Gr.alloc (Gr.refl _) _)) p q u ⟨w3.heap.size, 0, none⟩ rfl (fun j y hy => alloc_cells (by simpa using hy)) HCL.out (by have := HB3.out.size; simp; omega) ?_
              intro v4 w4 ho4 hb4 gb4
              obtain ⟨A', c', rfl, ho4⟩ := OwnE.eta ho4
              rw [List.length_append, List.length_cons, List.length_nil, Nat.zero_add] at ho4 ⊢
              have H4 := Lib.hid (And.intro ho4 (And.intro hb4 gb4))
              have G3 := Lib.hid (HB3.out.trans ((Gr.alloc (Gr.refl w3) (.cells #[.int .i64 p, .int .i64 q, .int .i64 u] 40)).below.mono HB3.out.size))
              have HN4 := Lib.hid (And.intro ((HV.out.1.bel G3.out zN).bel hb4 (by omega)) ((HV.out.2.bel G3.out (by omega)).bel hb4 (by omega)))
              obtain ⟨m0, m1, m2, mf⟩ := HN4.out.1
              have zN4 : N < w4.heap.size := World.block_lt_of_cell? _ _ m0
              clear ho4 hb4 gb4
              (refine hK _ _ ?_; clear hK K'; try simp only [Act.put, List.setIfInBounds_toArray, List.set_cons_zero, List.set_cons_succ])
              refine wpAnyIn_ready (rs := [6]) (by kernel_rfl) (by simp) (AllReadyIn.cons (by simp only [List.getElem?_toArray, List.getElem?_cons_succ, List.getElem?_cons_zero]; exact rfl) (fun K' hK => ?_) AllReadyIn.nil)
              go_simp
              (refine hK _ _ ?_; clear hK K'; try simp only [Act.put, List.setIfInBounds_toArray, List.set_cons_zero, List.set_cons_succ])
              refine wpAnyIn_ready (rs := [7]) (by kernel_rfl) (by simp) (AllReadyIn.cons (by simp only [List.getElem?_toArray, List.getElem?_cons_succ, List.getElem?_cons_zero]; exact rfl) (fun K' hK => ?_) AllReadyIn.nil)
              go_simp
              (refine hK _ _ ?_; clear hK K'; try simp only [Act.put, List.setIfInBounds_toArray, List.set_cons_zero, List.set_cons_succ])
              refine wpAnyIn_done (by kernel_rfl) ?_ _
              gi_wp2
              have sw4 : M + 3 ≤ w4.heap.size := Nat.le_trans (Nat.le_trans h6 G3.out.size) H4.out.2.2.size
              refine ⟨(keeps_below G3.out).trans ((KeepsOthers.of_grownBy H4.out.2.2 (rowCellsE (OwnE.below HO.out G3.out (Nat.le_refl _)))).trans (KeepsOthers.setCell _ _ _)), ?_, ⟨A', cs.length + 1, c', cs ++ [(p, q, u)], RdL.snoc HRD.out HRP.out, OwnE.setOther (a := ⟨N, 2, none⟩) H4.out.1 (by simp; omega) _, Bz.own2 HN4.out.1, Bz.set1 HN4.out.2 (by omega) _, ((HB5.out.trans (G3.out.mono HB5.out.size)).trans (H4.out.2.1.mono (by omega))).setCell (by simp; omega) _, by simpa using sw4⟩⟩
              exact (KpB.below G3.out h6).trans ((KpB.below H4.out.2.1 (Nat.le_refl _)).trans fun b q1 q2 => heap_setCell_other w4 ⟨N, 2, none⟩ b _ (fun e => by (try simp at e); omega))
            · go_simp
              (refine hK _ _ ?_; clear hK K'; try simp only [Act.put, List.setIfInBounds_toArray, List.set_cons_zero, List.set_cons_succ])
              refine wpAnyIn_ready (rs := [1]) (by kernel_rfl) (by simp) (AllReadyIn.cons (by simp only [List.getElem?_toArray, List.getElem?_cons_succ, List.getElem?_cons_zero]; exact rfl) (fun K' hK => ?_) AllReadyIn.nil)
              go_simp
              (refine hK _ _ ?_; clear hK K'; try simp only [Act.put, List.setIfInBounds_toArray, List.set_cons_zero, List.set_cons_succ])
              refine wpAnyIn_ready (rs := [5]) (by kernel_rfl) (by simp) (AllReadyIn.cons (by simp only [List.getElem?_toArray, List.getElem?_cons_succ, List.getElem?_cons_zero]; exact rfl) (fun K' hK => ?_) AllReadyIn.nil)
              refine stepIn_appC rfl (.tmp 29) (.tmp 32) 24 rfl Tryd.underlying24 Tryd.infoC (M + 3) _ _ rfl (OwnE.gr (OwnE.below HO.out HB3.out (Nat.le_refl _)) (Gr.alloc (Gr.refl _) _)) p q u ⟨w3.heap.size, 0, none⟩ rfl (fun j y hy => alloc_cells (by simpa using hy)) HCL.out (by have := HB3.out.size; simp; omega) ?_
              intro v4 w4 ho4 hb4 gb4
              obtain ⟨A', c', rfl, ho4⟩ := OwnE.eta ho4
              rw [List.length_append, List.length_cons, List.length_nil, Nat.zero_add] at ho4 ⊢
              have H4 := Lib.hid (And.intro ho4 (And.intro hb4 gb4))
              have G3 := Lib.hid (HB3.out.trans ((Gr.alloc (Gr.refl w3) (.cells #[.int .i64 p, .int .i64 q, .int .i64 u] 40)).below.mono HB3.out.size))
              have HN4 := Lib.hid (And.intro ((HV.out.1.bel G3.out zN).bel hb4 (by omega)) ((HV.out.2.bel G3.out (by omega)).bel hb4 (by omega)))
              obtain ⟨m0, m1, m2, mf⟩ := HN4.out.1
              have zN4 : N < w4.heap.size := World.block_lt_of_cell? _ _ m0
              clear ho4 hb4 gb4
              (refine hK _ _ ?_; clear hK K'; try simp only [Act.put, List.setIfInBounds_toArray, List.set_cons_zero, List.set_cons_succ])
              refine wpAnyIn_ready (rs := [6]) (by kernel_rfl) (by simp) (AllReadyIn.cons (by simp only [List.getElem?_toArray, List.getElem?_cons_succ, List.getElem?_cons_zero]; exact rfl) (fun K' hK => ?_) AllReadyIn.nil)
              go_simp
              (refine hK _ _ ?_; clear hK K'; try simp only [Act.put, List.setIfInBounds_toArray, List.set_cons_zero, List.set_cons_succ])
              refine wpAnyIn_ready (rs := [7]) (by kernel_rfl) (by simp) (AllReadyIn.cons (by simp only [List.getElem?_toArray, List.getElem?_cons_succ, List.getElem?_cons_zero]; exact rfl) (fun K' hK => ?_) AllReadyIn.nil)
              go_simp
              (refine hK _ _ ?_; clear hK K'; try simp only [Act.put, List.setIfInBounds_toArray, List.set_cons_zero, List.set_cons_succ])
              refine wpAnyIn_done (by kernel_rfl) ?_ _
              gi_wp2
              have sw4 : M + 3 ≤ w4.heap.size := Nat.le_trans (Nat.le_trans h6 G3.out.size) H4.out.2.2.size
              refine ⟨(keeps_below G3.out).trans ((KeepsOthers.of_grownBy H4.out.2.2 (rowCellsE (OwnE.below HO.out G3.out (Nat.le_refl _)))).trans (KeepsOthers.setCell _ _ _)), ?_, ⟨A', cs.length + 1, c', cs ++ [(p, q, u)], RdL.snoc HRD.out HRP.out, OwnE.setOther (a := ⟨N, 2, none⟩) H4.out.1 (by simp; omega) _, Bz.own2 HN4.out.1, Bz.set1 HN4.out.2 (by omega) _, ((HB5.out.trans (G3.out.mono HB5.out.size)).trans (H4.out.2.1.mono (by omega))).setCell (by simp; omega) _, by simpa using sw4⟩⟩
              exact (KpB.below G3.out h6).trans ((KpB.below H4.out.2.1 (Nat.le_refl _)).trans fun b q1 q2 => heap_setCell_other w4 ⟨N, 2, none⟩ b _ (fun e => by (try simp at e); omega))
        · go_simp
          gi_wp2_with (refine ⟨trivial, ?_⟩; gi_at_call 13; refine (CallsIn.inRound l (callsIn_wide.2 (HCW.out _ (HE.out.below (HB5.out.trans ((Gr.drew (Gr.refl V)).below.mono HB5.out.size)))))).mono ?_; rintro e w3 ⟨p, q, u, rfl, rp, hb3⟩; have HRP := Lib.hid rp; have HB3 := Lib.hid ((Gr.drew (Gr.refl V)).below.trans hb3); clear rp hb3)
          have N3 := HV.out.1.bel HB3.out zN
          obtain ⟨j0, j1, j2, jf⟩ := N3
          have zN3 : N < w3.heap.size := World.block_lt_of_cell? _ _ j0
          (first | (refine hK _ _ ?_; clear hK K'; try simp only [Act.put, List.setIfInBounds_toArray, List.set_cons_zero, List.set_cons_succ]) | skip)
          refine wpAnyIn_ready (rs := [0, 4]) (by kernel_rfl) (by simp) (AllReadyIn.cons (by simp only [List.getElem?_toArray, List.getElem?_cons_succ, List.getElem?_cons_zero]; exact rfl) (fun K' hK => ?_) (AllReadyIn.cons (by simp only [List.getElem?_toArray, List.getElem?_cons_succ, List.getElem?_cons_zero]; exact rfl) (fun K' hK => ?_) AllReadyIn.nil))
          · go_simp
            (refine hK _ _ ?_; clear hK K'; try simp only [Act.put, List.setIfInBounds_toArray, List.set_cons_zero, List.set_cons_succ])
            refine wpAnyIn_ready (rs := [1, 4]) (by kernel_rfl) (by simp) (AllReadyIn.cons (by simp only [List.getElem?_toArray, List.getElem?_cons_succ, List.getElem?_cons_zero]; exact rfl) (fun K' hK => ?_) (AllReadyIn.cons (by simp only [List.getElem?_toArray, List.getElem?_cons_succ, List.getElem?_cons_zero]; exact rfl) (fun K' hK => ?_) AllReadyIn.nil))
            · go_simp
              (refine hK _ _ ?_; clear hK K'; try simp only [Act.put, List.setIfInBounds_toArray, List.set_cons_zero, List.set_cons_succ])
              refine wpAnyIn_ready (rs := [4]) (by kernel_rfl) (by simp) (AllReadyIn.cons (by simp only [List.getElem?_toArray, List.getElem?_cons_succ, List.getElem?_cons_zero]; exact rfl) (fun K' hK => ?_) AllReadyIn.nil)
              go_simp
              (refine hK _ _ ?_; clear hK K'; try simp only [Act.put, List.setIfInBounds_toArray, List.set_cons_zero, List.set_cons_succ])
              refine wpAnyIn_ready (rs := [5]) (by kernel_rfl) (by simp) (AllReadyIn.cons (by simp only [List.getElem?_toArray, List.getElem?_cons_succ, List.getElem?_cons_zero]; exact rfl) (fun K' hK => ?_) AllReadyIn.nil)
              refine stepIn_appC rfl (.tmp 29) (.tmp 32) 24 rfl Tryd.underlying24 Tryd.infoC (M + 3) _ _ rfl (OwnE.gr (OwnE.below HO.out HB3.out (Nat.le_refl _)) (Gr.alloc (Gr.refl _) _)) p q u ⟨w3.heap.size, 0, none⟩ rfl (fun j y hy => alloc_cells (by simpa using hy)) HCL.out (by have := HB3.out.size; simp; omega) ?_
              intro v4 w4 ho4 hb4 gb4
              obtain ⟨A', c', rfl, ho4⟩ := OwnE.eta ho4
              rw [List.length_append, List.length_cons, List.length_nil, Nat.zero_add] at ho4 ⊢
              have H4 := Lib.hid (And.intro ho4 (And.intro hb4 gb4))
              have G3 := Lib.hid (HB3.out.trans ((Gr.alloc (Gr.refl w3) (.cells #[.int .i64 p, .int .i64 q, .int .i64 u] 40)).below.mono HB3.out.size))
              have HN4 := Lib.hid (And.intro ((HV.out.1.bel G3.out zN).bel hb4 (by omega)) ((HV.out.2.bel G3.out (by omega)).bel hb4 (by omega)))
              obtain ⟨m0, m1, m2, mf⟩ := HN4.out.1
              have zN4 : N < w4.heap.size := World.block_lt_of_cell? _ _ m0
              clear ho4 hb4 gb4
              (refine hK _ _ ?_; clear hK K'; try simp only [Act.put, List.setIfInBounds_toArray, List.set_cons_zero, List.set_cons_succ])
              refine wpAnyIn_ready (rs := [6]) (by kernel_rfl) (by simp) (AllReadyIn.cons (by simp only [List.getElem?_toArray, List.getElem?_cons_succ, List.getElem?_cons_zero]; exact rfl) (fun K' hK => ?_) AllReadyIn.nil)
              go_simp
              (refine hK _ _ ?_; clear hK K'; try simp only [Act.put, List.setIfInBounds_toArray, List.set_cons_zero, List.set_cons_succ])
              refine wpAnyIn_ready (rs := [7]) (by kernel_rfl) (by simp) (AllReadyIn.cons (by simp only [List.getElem?_toArray, List.getElem?_cons_succ, List.getElem?_cons_zero]; exact rfl) (fun K' hK => ?_) AllReadyIn.nil)
              go_simp
              (refine hK _ _ ?_; clear hK K'; try simp only [Act.put, List.setIfInBounds_toArray, List.set_cons_zero, List.set_cons_succ])
              refine wpAnyIn_done (by kernel_rfl) ?_ _
              gi_wp2
              have sw4 : M + 3 ≤ w4.heap.size := Nat.le_trans (Nat.le_trans h6 G3.out.size) H4.out.2.2.size
              refine ⟨(keeps_below G3.out).trans ((KeepsOthers.of_grownBy H4.out.2.2 (rowCellsE (OwnE.below HO.out G3.out (Nat.le_refl _)))).trans (KeepsOthers.setCell _ _ _)), ?_, ⟨A', cs.length + 1, c', cs ++ [(p, q, u)], RdL.snoc HRD.out HRP.out, OwnE.setOther (a := ⟨N, 2, none⟩) H4.out.1 (by simp; omega) _, Bz.own2 HN4.out.1, Bz.set1 HN4.out.2 (by omega) _, ((HB5.out.trans (G3.out.mono HB5.out.size)).trans (H4.out.2.1.mono (by omega))).setCell (by simp; omega) _, by simpa using sw4⟩⟩
              exact (KpB.below G3.out h6).trans ((KpB.below H4.out.2.1 (Nat.le_refl _)).trans fun b q1 q2 => heap_setCell_other w4 ⟨N, 2, none⟩ b _ (fun e => by (try simp at e); omega))
            · go_simp
              (refine hK _ _ ?_; clear hK K'; try simp only [Act.put, List.setIfInBounds_toArray, List.set_cons_zero, List.set_cons_succ])
              refine wpAnyIn_ready (rs := [1]) (by kernel_rfl) (by simp) (AllReadyIn.cons (by simp only [List.getElem?_toArray, List.getElem?_cons_succ, List.getElem?_cons_zero]; exact rfl) (fun K' hK => ?_) AllReadyIn.nil)
              go_simp
              (refine hK _ _ ?_; clear hK K'; try simp only [Act.put, List.setIfInBounds_toArray, List.set_cons_zero, List.set_cons_succ])
              refine wpAnyIn_ready (rs := [5]) (by kernel_rfl) (by simp) (AllReadyIn.cons (by simp only [List.getElem?_toArray, List.getElem?_cons_succ, List.getElem?_cons_zero]; exact rfl) (fun K' hK => ?_) AllReadyIn.nil)
              refine stepIn_appC rfl (.tmp 29) (.tmp 32) 24 rfl Tryd.underlying24 Tryd.infoC (M + 3) _ _ rfl (OwnE.gr (OwnE.below HO.out HB3.out (Nat.le_refl _)) (Gr.alloc (Gr.refl _) _)) p q u ⟨w3.heap.size, 0, none⟩ rfl (fun j y hy => alloc_cells (by simpa using hy)) HCL.out (by have := HB3.out.size; simp; omega) ?_
              intro v4 w4 ho4 hb4 gb4
              obtain ⟨A', c', rfl, ho4⟩ := OwnE.eta ho4
              rw [List.length_append, List.length_cons, List.length_nil, Nat.zero_add] at ho4 ⊢
              have H4 := Lib.hid (And.intro ho4 (And.intro hb4 gb4))
              have G3 := Lib.hid (HB3.out.trans ((Gr.alloc (Gr.refl w3) (.cells #[.int .i64 p, .int .i64 q, .int .i64 u] 40)).below.mono HB3.out.size))
              have HN4 := Lib.hid (And.intro ((HV.out.1.bel G3.out zN).bel hb4 (by omega)) ((HV.out.2.bel G3.out (by omega)).bel hb4 (by omega)))
              obtain ⟨m0, m1, m2, mf⟩ := HN4.out.1
              have zN4 : N < w4.heap.size := World.block_lt_of_cell? _ _ m0
              clear ho4 hb4 gb4
              (refine hK _ _ ?_; clear hK K'; try simp only [Act.put, List.setIfInBounds_toArray, List.set_cons_zero, List.set_cons_succ])
              refine wpAnyIn_ready (rs := [6]) (by kernel_rfl) (by simp) (AllReadyIn.cons (by simp only [List.getElem?_toArray, List.getElem?_cons_succ, List.getElem?_cons_zero]; exact rfl) (fun K' hK => ?_) AllReadyIn.nil)
              go_simp
              (refine hK _ _ ?_; clear hK K'; try simp only [Act.put, List.setIfInBounds_toArray, List.set_cons_zero, List.set_cons_succ])
              refine wpAnyIn_ready (rs := [7]) (by kernel_rfl) (by simp) (AllReadyIn.cons (by simp only [List.getElem?_toArray, List.getElem?_cons_succ, List.getElem?_cons_zero]; exact rfl) (fun K' hK => ?_) AllReadyIn.nil)
              go_simp
              (refine hK _ _ ?_; clear hK K'; try simp only [Act.put, List.setIfInBounds_toArray, List.set_cons_zero, List.set_cons_succ])
              refine wpAnyIn_done (by kernel_rfl) ?_ _
              gi_wp2
              have sw4 : M + 3 ≤ w4.heap.size := Nat.le_trans (Nat.le_trans h6 G3.out.size) H4.out.2.2.size
              refine ⟨(keeps_below G3.out).trans ((KeepsOthers.of_grownBy H4.out.2.2 (rowCellsE (OwnE.below HO.out G3.out (Nat.le_refl _)))).trans (KeepsOthers.setCell _ _ _)), ?_, ⟨A', cs.length + 1, c', cs ++ [(p, q, u)], RdL.snoc HRD.out HRP.out, OwnE.setOther (a := ⟨N, 2, none⟩) H4.out.1 (by simp; omega) _, Bz.own2 HN4.out.1, Bz.set1 HN4.out.2 (by omega) _, ((HB5.out.trans (G3.out.mono HB5.out.size)).trans (H4.out.2.1.mono (by omega))).setCell (by simp; omega) _, by simpa using sw4⟩⟩
              exact (KpB.below G3.out h6).trans ((KpB.below H4.out.2.1 (Nat.le_refl _)).trans fun b q1 q2 => heap_setCell_other w4 ⟨N, 2, none⟩ b _ (fun e => by (try simp at e); omega))
          · go_simp
            (refine hK _ _ ?_; clear hK K'; try simp only [Act.put, List.setIfInBounds_toArray, List.set_cons_zero, List.set_cons_succ])
            refine wpAnyIn_ready (rs := [0]) (by kernel_rfl) (by simp) (AllReadyIn.cons (by simp only [List.getElem?_toArray, List.getElem?_cons_succ, List.getElem?_cons_zero]; exact rfl) (fun K' hK => ?_) AllReadyIn.nil)
            go_simp
            (refine hK _ _ ?_; clear hK K'; try simp only [Act.put, List.setIfInBounds_toArray, List.set_cons_zero, List.set_cons_succ])
            refine wpAnyIn_ready (rs := [1]) (by kernel_rfl) (by simp) (AllReadyIn.cons (by simp only [List.getElem?_toArray, List.getElem?_cons_succ, List.getElem?_cons_zero]; exact rfl) (fun K' hK => ?_) AllReadyIn.nil)
            go_simp
            (refine hK _ _ ?_; clear hK K'; try simp only [Act.put, List.setIfInBounds_toArray, List.set_cons_zero, List.set_cons_succ])
            refine wpAnyIn_ready (rs := [5]) (by kernel_rfl) (by simp) (AllReadyIn.cons (by simp only [List.getElem?_toArray, List.getElem?_cons_succ, List.getElem?_cons_zero]; exact rfl) (fun K' hK => ?_) AllReadyIn.nil)
            refine stepIn_appC rfl (.tmp 29) (.tmp 32) 24 rfl Tryd.underlying24 Tryd.infoC (M + 3) _ _ rfl (OwnE.gr (OwnE.below HO.out HB3.out (Nat.le_refl _)) (Gr.alloc (Gr.refl _) _)) p q u ⟨w3.heap.size, 0, none⟩ rfl (fun j y hy => alloc_cells (by simpa using hy)) HCL.out (by have := HB3.out.size; simp; omega) ?_
            intro v4 w4 ho4 hb4 gb4
            obtain ⟨A', c', rfl, ho4⟩ := OwnE.eta ho4
            rw [List.length_append, List.length_cons, List.length_nil, Nat.zero_add] at ho4 ⊢
            have H4 := Lib.hid (And.intro ho4 (And.intro hb4 gb4))
            have G3 := Lib.hid (HB3.out.trans ((Gr.alloc (Gr.refl w3) (.cells #[.int .i64 p, .int .i64 q, .int .i64 u] 40)).below.mono HB3.out.size))
            have HN4 := Lib.hid (And.intro ((HV.out.1.bel G3.out zN).bel hb4 (by omega)) ((HV.out.2.bel G3.out (by omega)).bel hb4 (by omega)))
            obtain ⟨m0, m1, m2, mf⟩ := HN4.out.1
            have zN4 : N < w4.heap.size := World.block_lt_of_cell? _ _ m0
            clear ho4 hb4 gb4
            (refine hK _ _ ?_; clear hK K'; try simp only [Act.put, List.setIfInBounds_toArray, List.set_cons_zero, List.set_cons_succ])
            refine wpAnyIn_ready (rs := [6]) (by kernel_rfl) (by simp) (AllReadyIn.cons (by simp only [List.getElem?_toArray, List.getElem?_cons_succ, List.getElem?_cons_zero]; exact rfl) (fun K' hK => ?_) AllReadyIn.nil)
            go_simp
            (refine hK _ _ ?_; clear hK K'; try simp only [Act.put, List.setIfInBounds_toArray, List.set_cons_zero, List.set_cons_succ])
            refine wpAnyIn_ready (rs := [7]) (by kernel_rfl) (by simp) (AllReadyIn.cons (by simp only [List.getElem?_toArray, List.getElem?_cons_succ, List.getElem?_cons_zero]; exact rfl) (fun K' hK => ?_) AllReadyIn.nil)
            go_simp
            (refine hK _ _ ?_; clear hK K'; try simp only [Act.put, List.setIfInBounds_toArray, List.set_cons_zero, List.set_cons_succ])
            refine wpAnyIn_done (by kernel_rfl) ?_ _
            gi_wp2
            have sw4 : M + 3 ≤ w4.heap.size := Nat.le_trans (Nat.le_trans h6 G3.out.size) H4.out.2.2.size
            refine ⟨(keeps_below G3.out).trans ((KeepsOthers.of_grownBy H4.out.2.2 (rowCellsE (OwnE.below HO.out G3.out (Nat.le_refl _)))).trans (KeepsOthers.setCell _ _ _)), ?_, ⟨A', cs.length + 1, c', cs ++ [(p, q, u)], RdL.snoc HRD.out HRP.out, OwnE.setOther (a := ⟨N, 2, none⟩) H4.out.1 (by simp; omega) _, Bz.own2 HN4.out.1, Bz.set1 HN4.out.2 (by omega) _, ((HB5.out.trans (G3.out.mono HB5.out.size)).trans (H4.out.2.1.mono (by omega))).setCell (by simp; omega) _, by simpa using sw4⟩⟩
            exact (KpB.below G3.out h6).trans ((KpB.below H4.out.2.1 (Nat.le_refl _)).trans fun b q1 q2 => heap_setCell_other w4 ⟨N, 2, none⟩ b _ (fun e => by (try simp at e); omega))
    case done =>
      rintro D ys V hD rfl ⟨A, n, c, cs, h1, h2, h3, h4, h5, h6⟩ hK
      have HPQ := Lib.hid (HPQ0.out cs h1)
      have HLL := Lib.hid (show cs.length ≤ 1048576 by rw [h1.len]; have := spl_len 44 q2; omega)
      have HV := Lib.hid (And.intro h3 h4)
      have HO := Lib.hid h2
      have HBV := Lib.hid h5
      obtain ⟨k0, k1, k2, kf⟩ := h3
      have z0 : w.heap.size < V.heap.size := h4.lt
      clear HPQ0 h1 h2 h4 h5
      cases hok : pgood W H cs
      · have HT := Lib.hid (Tryd.iPuzzleText V W H (.slice A n c) cs false hok (HTB.out.below HBV.out) (OwnC.row HO.out (by have := HLL.out; unfold maxLen; omega)))
        rw [show txZ W H cs = ⟨#[]⟩ by simp [txZ, hok]] at HT
        have hB : ppB t = false := by rw [← HPQ.out.1]; simp [hok]
        have HR := Lib.hid (show ifP (ppB t) (ppK t) = 0 ∧ ifP (ppB t) (ppP t) = 0 ∧ ppR t = [] ∧ ppB t = false from ⟨by simp [ifP, hB], by simp [ifP, hB], by simp [ppR, hB], hB⟩)
        clear hok hB HPQ
        gi_wp2_with (refine ⟨trivial, ?_⟩; gi_at_call 14; refine (callsIn_wide.2 HT.out).mono ?_; rintro e w4 ⟨rfl, hb4⟩; have X1 := HV.out.1.bel hb4 HV.out.1.lt; have X2 := HV.out.2.bel hb4 HV.out.2.lt; obtain ⟨k0, k1, k2, kf⟩ := X1; obtain ⟨r0, r1, r2, rf⟩ := X2; have zs4 := World.block_lt_of_cell? _ _ r0; have zk4 := World.block_lt_of_cell? _ _ k0)
        have hKe := ((keeps_below hb4).trans ((KeepsOthers.setCell w4 ⟨w.heap.size, 0, none⟩ (.int .i64 0)).trans ((KeepsOthers.setCell _ ⟨w.heap.size, 1, none⟩ (.int .i64 0)).trans (KeepsOthers.setCell _ ⟨w.heap.size, 2, none⟩ (.slice none 0 0))))).same D _ hK rfl
        refine ⟨by simp, .inl ⟨_, _, rfl, run_takeDeferred hKe, ?_⟩⟩
        have BE : Below w.heap.size w (((w4.setCell ⟨w.heap.size, 0, none⟩ (.int .i64 0)).setCell ⟨w.heap.size, 1, none⟩ (.int .i64 0)).setCell ⟨w.heap.size, 2, none⟩ (.slice none 0 0)) := Below.set3s (HBV.out.trans (hb4.mono HBV.out.size)) (Nat.le_refl _)
        have U1 : Bz (World.putObj (((w4.setCell ⟨w.heap.size, 0, none⟩ (.int .i64 0)).setCell ⟨w.heap.size, 1, none⟩ (.int .i64 0)).setCell ⟨w.heap.size, 2, none⟩ (.slice none 0 0)) D (.deferred none)) w.heap.size (.int .i64 0) (.int .i64 0) (.slice none 0 0) := Bz.keep1 (Bz.own (x := .int .i64 0) (y := .int .i64 0) (z := .slice none 0 0) ⟨r0, r1, r2, rf⟩) (World.putObj_heap_other (by omega))
        obtain ⟨c0, c1, c2, _⟩ := U1
        refine ⟨.tuple #[.agg #[.int .i64 0, .int .i64 0, .slice none 0 0], .bool false], ?_, ?_⟩
        · simp [results, Tryd.results5, go_sem, c0, c1, c2]
        · rw [HR.out.1, HR.out.2.1, HR.out.2.2.1, HR.out.2.2.2]
          refine ⟨_, rfl, ?_, ?_⟩
          · exact OwnE.nil _ _ _ _ _
          · exact BE.trans (belowK_b (w := W0) (n₀ := w.heap.size) (by omega) _ D _ _ (by omega) hKe rfl rfl)
      · have HT := Lib.hid (Tryd.iPuzzleText V W H (.slice A n c) cs true hok (HTB.out.below HBV.out) (OwnC.row HO.out (by have := HLL.out; unfold maxLen; omega)))
        rw [show txZ W H cs = ZtT W H cs by simp [txZ, hok, ZtT]] at HT
        by_cases hJ : ZtT W H cs = t
        · have hB : ppB t = true := by rw [← HPQ.out.1]; simp [hok, hJ]
          obtain ⟨eW, eH, eC⟩ := HPQ.out.2 hB
          have HR := Lib.hid (show ifP (ppB t) (ppK t) = W ∧ ifP (ppB t) (ppP t) = H ∧ ppR t = cs ∧ ppB t = true from ⟨by simp [ifP, hB, eW], by simp [ifP, hB, eH], by simp [ppR, hB, eC], hB⟩)
          rw [hJ] at HT
          clear hok hB hJ eW eH eC HPQ
          gi_wp2_with (refine ⟨trivial, ?_⟩; gi_at_call 14; refine (callsIn_wide.2 HT.out).mono ?_; rintro e w4 ⟨rfl, hb4⟩; have X1 := HV.out.1.bel hb4 HV.out.1.lt; have X2 := HV.out.2.bel hb4 HV.out.2.lt; obtain ⟨k0, k1, k2, kf⟩ := X1; obtain ⟨r0, r1, r2, rf⟩ := X2; have zs4 := World.block_lt_of_cell? _ _ r0; have zk4 := World.block_lt_of_cell? _ _ k0)
          have hKe := ((keeps_below hb4).trans ((KeepsOthers.setCell w4 ⟨w.heap.size, 0, none⟩ (.int .i64 W)).trans ((KeepsOthers.setCell _ ⟨w.heap.size, 1, none⟩ (.int .i64 H)).trans (KeepsOthers.setCell _ ⟨w.heap.size, 2, none⟩ (.slice A n c))))).same D _ hK rfl
          refine ⟨by simp, .inl ⟨_, _, rfl, run_takeDeferred hKe, ?_⟩⟩
          have BE : Below w.heap.size w (((w4.setCell ⟨w.heap.size, 0, none⟩ (.int .i64 W)).setCell ⟨w.heap.size, 1, none⟩ (.int .i64 H)).setCell ⟨w.heap.size, 2, none⟩ (.slice A n c)) := Below.set3s (HBV.out.trans (hb4.mono HBV.out.size)) (Nat.le_refl _)
          have U1 : Bz (World.putObj (((w4.setCell ⟨w.heap.size, 0, none⟩ (.int .i64 W)).setCell ⟨w.heap.size, 1, none⟩ (.int .i64 H)).setCell ⟨w.heap.size, 2, none⟩ (.slice A n c)) D (.deferred none)) w.heap.size (.int .i64 W) (.int .i64 H) (.slice A n c) := Bz.keep1 (Bz.own (x := .int .i64 W) (y := .int .i64 H) (z := .slice A n c) ⟨r0, r1, r2, rf⟩) (World.putObj_heap_other (by omega))
          obtain ⟨c0, c1, c2, _⟩ := U1
          refine ⟨.tuple #[.agg #[.int .i64 W, .int .i64 H, .slice A n c], .bool true], ?_, ?_⟩
          · simp [results, Tryd.results5, go_sem, c0, c1, c2]
          · rw [HR.out.1, HR.out.2.1, HR.out.2.2.1, HR.out.2.2.2]
            refine ⟨_, rfl, ?_, ?_⟩
            · have o3 := OwnC.set3s (x := .int .i64 W) (y := .int .i64 H) (z := .slice A n c) (m := w.heap.size) (OwnE.below HO.out hb4 (Nat.le_refl _)) (by omega)
              have o4 := o3.grown (grownBy_putObj' _ D (.deferred none)) (rowNeE (C := 0) o3 (fun r e => by cases e; exact ⟨Nat.zero_le _, _, hKe, rfl⟩))
              exact OwnE.mono o4 (by omega)
            · exact BE.trans (belowK_b (w := W0) (n₀ := w.heap.size) (by omega) _ D _ _ (by omega) hKe rfl rfl)
        · have hB : ppB t = false := by rw [← HPQ.out.1]; simp [hok, hJ]
          have HR := Lib.hid (show ifP (ppB t) (ppK t) = 0 ∧ ifP (ppB t) (ppP t) = 0 ∧ ppR t = [] ∧ ppB t = false from ⟨by simp [ifP, hB], by simp [ifP, hB], by simp [ppR, hB], hB⟩)
          have d3 : ((ZtT W H cs).toList == t.toList) = false := ne_txt hJ
          generalize ZtT W H cs = TT at *
          clear hok hB hJ HPQ
          gi_wp2_with (refine ⟨trivial, ?_⟩; gi_at_call 14; refine (callsIn_wide.2 HT.out).mono ?_; rintro e w4 ⟨rfl, hb4⟩; have X1 := HV.out.1.bel hb4 HV.out.1.lt; have X2 := HV.out.2.bel hb4 HV.out.2.lt; obtain ⟨k0, k1, k2, kf⟩ := X1; obtain ⟨r0, r1, r2, rf⟩ := X2; have zs4 := World.block_lt_of_cell? _ _ r0; have zk4 := World.block_lt_of_cell? _ _ k0)
          have hKe := ((keeps_below hb4).trans ((KeepsOthers.setCell w4 ⟨w.heap.size, 0, none⟩ (.int .i64 0)).trans ((KeepsOthers.setCell _ ⟨w.heap.size, 1, none⟩ (.int .i64 0)).trans (KeepsOthers.setCell _ ⟨w.heap.size, 2, none⟩ (.slice none 0 0))))).same D _ hK rfl
          refine ⟨by simp, .inl ⟨_, _, rfl, run_takeDeferred hKe, ?_⟩⟩
          have BE : Below w.heap.size w (((w4.setCell ⟨w.heap.size, 0, none⟩ (.int .i64 0)).setCell ⟨w.heap.size, 1, none⟩ (.int .i64 0)).setCell ⟨w.heap.size, 2, none⟩ (.slice none 0 0)) := Below.set3s (HBV.out.trans (hb4.mono HBV.out.size)) (Nat.le_refl _)
          have U1 : Bz (World.putObj (((w4.setCell ⟨w.heap.size, 0, none⟩ (.int .i64 0)).setCell ⟨w.heap.size, 1, none⟩ (.int .i64 0)).setCell ⟨w.heap.size, 2, none⟩ (.slice none 0 0)) D (.deferred none)) w.heap.size (.int .i64 0) (.int .i64 0) (.slice none 0 0) := Bz.keep1 (Bz.own (x := .int .i64 0) (y := .int .i64 0) (z := .slice none 0 0) ⟨r0, r1, r2, rf⟩) (World.putObj_heap_other (by omega))
          obtain ⟨c0, c1, c2, _⟩ := U1
          refine ⟨.tuple #[.agg #[.int .i64 0, .int .i64 0, .slice none 0 0], .bool false], ?_, ?_⟩
          · simp [results, Tryd.results5, go_sem, c0, c1, c2]
          · rw [HR.out.1, HR.out.2.1, HR.out.2.2.1, HR.out.2.2.2]
            refine ⟨_, rfl, ?_, ?_⟩
            · exact OwnE.nil _ _ _ _ _
            · exact BE.trans (belowK_b (w := W0) (n₀ := w.heap.size) (by omega) _ D _ _ (by omega) hKe rfl rfl)
    case stop =>
      rintro D c pre V hD hSp hX hK
      exact hX.elim
end Go.Proofs
