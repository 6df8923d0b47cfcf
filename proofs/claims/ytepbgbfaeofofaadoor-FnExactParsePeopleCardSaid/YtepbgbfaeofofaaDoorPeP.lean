/-
  Chapter 5: people out of a text, the program's (impl.ParseParcels).
-/
import Derived.Test.YtepbgbfaeofofaaDoorPeIt
import Derived.Test.YtepbgbfaeofofaaDoorPeN
namespace Go.Proofs
open Go.RowKit Go.Shelf Sp
set_option linter.unusedVariables false
set_option linter.unusedSimpArgs false
attribute [local go_sem] Oper.semAt_some
def spW (w : World) (t : ByteArray) : World := ((w.alloc (.cells #[.string t] 9)).alloc (.cells #[.string ⟨#[45]⟩] 9)).alloc (.cells #[.int .i64 0] 3)
def spF (w : World) : Value := .func (.func 25) #[] #[.pointer (some ⟨w.heap.size + 1, 0, none⟩), .pointer (some ⟨w.heap.size, 0, none⟩), .pointer (some ⟨w.heap.size + 1 + 1, 0, none⟩)]
theorem Tryd.splitSeq_c (t : ByteArray) (w : World) :
    Calls Tryd.prog 16 #[.string t, .string ⟨#[45]⟩, .int .i64 0] w fun e w' => e = .returned (spF w) ∧ w' = spW w t := by
  go_enter Tryd.func16, Tryd.ntmps16
  go_wp2
  go_ret
  exact ⟨rfl, rfl⟩
theorem Tryd.SplitSeq_c (t : ByteArray) (w : World) :
    Calls Tryd.prog 10 #[.string t, .string ⟨#[45]⟩] w fun e w' => e = .returned (spF w) ∧ w' = spW w t := by
  go_enter Tryd.func10, Tryd.ntmps10
  go_wp2_with (first | (go_at_call 16; refine (Tryd.splitSeq_c t _).mono ?_; rintro e w1 ⟨rfl, rfl⟩))
  go_ret
  exact ⟨rfl, rfl⟩
def NoCells (C : Nat) (A : World) (row : Option Nat) : Prop := ∀ r, row = some r → C ≤ r ∧ ∃ o : Obj, A.heap[r]? = some o ∧ o.isCells = false
theorem boxNe {C B : Nat} {A : World} {row : Option Nat} {T : TypeId} {v : Value} (h : Boxed A B T v) (hr : NoCells C A row) : some B ≠ row := fun e => by
  obtain ⟨o, ho, hc⟩ := (hr B e.symm).2
  rw [show A.heap[B]? = _ from h] at ho; cases ho; cases hc
theorem rowNe {C B : Nat} {A : World} {row : Option Nat} {v : Value} {ps : List Int} (h : OwnI A B v ps) (hr : NoCells C A row) : v.ownBlock = none ∨ v.ownBlock ≠ row := by
  rcases h.2 with ⟨rfl, _⟩ | ⟨g, cap, cur, rfl, _, hg, _⟩
  · exact .inl rfl
  · refine .inr fun e => ?_
    obtain ⟨o, ho, hc⟩ := (hr g e.symm).2
    rw [hg] at ho; cases ho; cases hc
def PiI (s : Nat) (w : World) (pre : List ByteArray) (W : World) : Prop := (∃ v, Boxed W (s + 2) 22 v ∧ OwnI W (s + 6) v (pre.map atV)) ∧
  Boxed W s 22 (.slice none 0 0) ∧ Boxed W (s + 1) 4 (.bool false) ∧ pre.all atB = true ∧ Below s w W ∧ s + 6 ≤ W.heap.size
def PiX (s : Nat) (w : World) (c : Code) (pre : List ByteArray) (W : World) : Prop := c = .ret ∧ Boxed W s 22 (.slice none 0 0) ∧ Boxed W (s + 1) 4 (.bool false) ∧ pre.all atB = false ∧ Below s w W
theorem PiI.own {s C : Nat} {w : World} (hs : s ≤ w.heap.size) (hC : s ≤ C) : OwnFrom C (PiI s w) := fun pre A B row h hg hr => by
  obtain ⟨⟨v, h1, h2⟩, h3, h4, h5, h6, h7⟩ := h
  exact ⟨⟨v, h1.kept hg (boxNe h1 hr), h2.grown hg (rowNe h2 hr)⟩, h3.kept hg (boxNe h3 hr), h4.kept hg (boxNe h4 hr), h5, h6.grown hg (Nat.le_trans hs h6.size) (fun k e => Nat.le_trans hC (hr k e).1), Nat.le_trans h7 hg.size⟩
theorem PiX.own {s C : Nat} {w : World} (hs : s ≤ w.heap.size) (hC : s ≤ C) (c : Code) : OwnFrom C (PiX s w c) := fun pre A B row h hg hr => by
  obtain ⟨h0, h3, h4, h5, h6⟩ := h
  exact ⟨h0, h3.kept hg (boxNe h3 hr), h4.kept hg (boxNe h4 hr), h5, h6.grown hg (Nat.le_trans hs h6.size) (fun k e => Nat.le_trans hC (hr k e).1)⟩
theorem PiI.store {s : Nat} {w : World} {pre : List ByteArray} {W : World} (v : Value) (h : PiI s w pre W) : PiI s w pre (W.setCell ⟨s + 3, 0, none⟩ v) := by
  obtain ⟨⟨v, h1, h2⟩, h3, h4, h5, h6, h7⟩ := h
  refine ⟨⟨v, h1.other (by omega) _, h2.grown (grownBy_setCell' W (s + 3) _) ?_⟩, h3.other (by omega) _, h4.other (by omega) _, h5, h6.setCell (p := ⟨s + 3, 0, none⟩) (by show s ≤ s + 3; omega) _, by simpa using h7⟩
  rcases h2.2 with ⟨rfl, _⟩ | ⟨g, cap, cur, rfl, hb, _⟩
  · exact .inl rfl
  · exact .inr (fun e => by simp [Value.ownBlock] at e; omega)
theorem keeps_below {W W' : World} (h : Below W.heap.size W W') : KeepsOthers W W' := KeepsOthers.of_grownBy (row := none) ⟨h.os, h.tape, h.output, h.size, fun j hj _ => h.block j hj⟩ (fun j o e _ => by cases e)
theorem ownNe {B b : Nat} {A : World} {v : Value} {ps : List Int} (h : OwnI A B v ps) (hb : b < B) : v.ownBlock = none ∨ v.ownBlock ≠ some b := by
  rcases h.2 with ⟨rfl, _⟩ | ⟨g, cap, cur, rfl, hgb, _⟩
  · exact .inl rfl
  · exact .inr (fun e => by simp [Value.ownBlock] at e; omega)
theorem boxPut {W : World} {B D : Nat} {T : TypeId} {v : Value} (h : Boxed W B T v) (hne : B ≠ D) (o : Obj) : Boxed (W.putObj D o) B T v := (World.putObj_heap_other (by omega)).trans h
theorem rowCells {B : Nat} {A : World} {v : Value} {ps : List Int} (h : OwnI A B v ps) : ∀ (j : Nat) (o : Obj), v.ownBlock = some j → A.heap[j]? = some o → o.isCells = true := by
  intro j o e ho
  rcases h.2 with ⟨rfl, _⟩ | ⟨g, cap, cur, rfl, _, hg, _⟩
  · simp [Value.ownBlock] at e
  · simp [Value.ownBlock] at e; subst e; rw [hg] at ho; cases ho; rfl
theorem wpListIn_app1I {F : Fence} {n : Nat} {P : Program} {ops : Array Oper} {rest : List Oper} {o : Oper} {a : Act} {Q : Exit → Act → World → Prop} {W : World} (hgd : o.guard = none) (s x : Operand) (t : TypeId)
    (ho : o.op = .call { callee := .builtin .append, args := #[s, x], argTypes := #[t, t] }) (ht : P.underlying t = some (.slice 3))
    (hinfo : (P.info? 3).map (fun i => (i.zero, i.size, i.bytes)) = some (some (.int .i64 0), 1, 8)) (B : Nat) (v : Value) (ps : List Int) (hs : a.eval s = v) (h : OwnI W B v ps)
    (p : Int) (hx : a.eval x = .slice (some ⟨W.heap.size, 0, none⟩) 1 1) (hl : ps.length ≤ 1000000000) (hB : B ≤ W.heap.size)
    (k : ∀ v' w', OwnI w' B v' (ps ++ [p]) → W.grownBy w' v.ownBlock → wpListIn F n P ops Q rest (a.put o.dst v') w') :
    wpListIn F n P ops Q (o :: rest) a (W.alloc (.cells #[.int .i64 p] 3)) := by
  obtain ⟨i0, hi, hz0, hz1, hz2⟩ := info_parts hinfo
  refine wpListIn_append_own _ hgd s x t ho B 3 i0 _ 1 8 ht hi hz0 hz1 hz2 rfl (by decide) v ps.length (ps.map (Value.int .i64)) hs (World.ownsRow.alloc h _) ⟨W.heap.size, 0, none⟩ 1 1 [.int .i64 p] hx rfl
    (fun j u hu => alloc_cells (by simpa using hu)) (fun u hu => by simp at hu; subst hu; rfl) (by unfold maxLen; omega) (by omega) (by simp; omega) fun v' w' ho' hg _ => ?_
  have g1 := World.grownBy_alloc W (.cells #[.int .i64 p] 3) v.ownBlock
  refine k v' w' ?_ ⟨hg.os.trans g1.os, hg.tape.trans g1.tape, hg.output.trans g1.output, Nat.le_trans g1.size hg.size, fun j hj hne => (hg.block j (Nat.lt_of_lt_of_le hj g1.size) hne).trans (g1.block j hj hne)⟩
  unfold OwnI
  simpa using ho'
set_option maxRecDepth 100000 in
set_option maxHeartbeats 1600000 in
theorem Tryd.iParsePeople (t : ByteArray) (w : World) (ht : t.size ≤ 1048576) (hT : Tab w) (hE : ErrVars w) :
    Calls Tryd.prog 5 #[.string t] w (RetI w (peV t) (peB t)) := by
  refine (callsIn_wide (n := 4)).1 ?_
  refine callsIn_of_wp_marks Tryd.func5 rfl trivial ?_ rfl
  simp only [Tryd.ntmps5, List.size_toArray, List.length_cons, List.length_nil, Nat.reduceAdd, Nat.reduceSub, Array.replicate_succ, Array.replicate_zero, List.push_toArray, List.append_toArray, List.nil_append, List.cons_append]
  have HSQ := Lib.hid (Tryd.SplitSeq_c t)
  gi_wp2_with (refine ⟨trivial, ?_⟩; gi_at_call 10; refine (callsIn_wide.2 (HSQ.out _)).mono ?_; rintro e w1 ⟨rfl, rfl⟩)
  obtain ⟨W0, hW0⟩ : ∃ W0, W0 = spW (((w.alloc (.cells #[.slice none 0 0] 22)).alloc (.cells #[.bool false] 4)).alloc (.cells #[.slice none 0 0] 22)) t := ⟨_, rfl⟩
  have hF : spF (((w.alloc (.cells #[.slice none 0 0] 22)).alloc (.cells #[.bool false] 4)).alloc (.cells #[.slice none 0 0] 22)) = .func (.func 25) #[] #[.pointer (some ⟨w.heap.size + 4, 0, none⟩), .pointer (some ⟨w.heap.size + 3, 0, none⟩), .pointer (some ⟨w.heap.size + 5, 0, none⟩)] := by simp [spF]
  have hsz : W0.heap.size = w.heap.size + 6 := by rw [hW0]; simp [spW]
  have hbl : Below w.heap.size w W0 := by rw [hW0]; exact Gr.below (Gr.alloc (Gr.alloc (Gr.alloc (Gr.alloc (Gr.alloc (Gr.alloc (Gr.refl _) _) _) _) _) _) _)
  have hb0 : Boxed W0 w.heap.size 22 (.slice none 0 0) := by
    rw [hW0]; exact (((((Boxed.new _ _ _).alloc _).alloc _).alloc _).alloc _).alloc _
  have hb1 : Boxed W0 (w.heap.size + 1) 4 (.bool false) := by
    have := Boxed.new (w.alloc (.cells #[.slice none 0 0] 22)) 4 (.bool false)
    rw [World.size_alloc] at this
    rw [hW0]; exact (((this.alloc _).alloc _).alloc _).alloc _
  have hb2 : Boxed W0 (w.heap.size + 2) 22 (.slice none 0 0) := by
    have := Boxed.new ((w.alloc (.cells #[.slice none 0 0] 22)).alloc (.cells #[.bool false] 4)) 22 (.slice none 0 0)
    rw [World.size_alloc, World.size_alloc] at this
    rw [hW0]; exact ((this.alloc _).alloc _).alloc _
  have hb3 : Boxed W0 (w.heap.size + 3) 9 (.string t) := by
    have := Boxed.new (((w.alloc (.cells #[.slice none 0 0] 22)).alloc (.cells #[.bool false] 4)).alloc (.cells #[.slice none 0 0] 22)) 9 (.string t)
    rw [World.size_alloc, World.size_alloc, World.size_alloc] at this
    rw [hW0]; exact (this.alloc _).alloc _
  have hb4 : Boxed W0 (w.heap.size + 4) 9 (.string ⟨#[45]⟩) := by
    have := Boxed.new ((((w.alloc (.cells #[.slice none 0 0] 22)).alloc (.cells #[.bool false] 4)).alloc (.cells #[.slice none 0 0] 22)).alloc (.cells #[.string t] 9)) 9 (.string ⟨#[45]⟩)
    rw [World.size_alloc, World.size_alloc, World.size_alloc, World.size_alloc] at this
    rw [hW0]; exact this.alloc _
  have hb5 : Boxed W0 (w.heap.size + 5) 3 (.int .i64 0) := by
    have := Boxed.new (((((w.alloc (.cells #[.slice none 0 0] 22)).alloc (.cells #[.bool false] 4)).alloc (.cells #[.slice none 0 0] 22)).alloc (.cells #[.string t] 9)).alloc (.cells #[.string ⟨#[45]⟩] 9)) 3 (.int .i64 0)
    rw [World.size_alloc, World.size_alloc, World.size_alloc, World.size_alloc, World.size_alloc] at this
    rw [hW0]; exact this
  rw [← hW0, hF]
  clear hW0 hF HSQ
  generalize hs : w.heap.size = s at *
  refine rf_cell (n := 4) (by omega) (gf := 25) rfl (enters_of Tryd.func25 (by kernel_rfl) rfl)
    (Tryd.split_it 3 (by omega) (s + 3) (s + 4) (s + 5) (s + 3) (s + 6) t ht W0 (by omega) (by omega) (by omega) (by omega) (by omega) (by omega) hb3.cell hb3.frozen hb4.cell hb5.cell)
    KpB.trans (KpB.put (N := W0.heap.size) (by omega)) rfl (PiI s w) (PiX s w) (PiI.own (by omega) (by omega)) (PiX.own (by omega) (by omega)) (fun pre W v h => h.store v)
    ⟨⟨_, hb2, OwnI.nil2 _ _⟩, hb0, hb1, rfl, hbl, by omega⟩
    (fun x => { tmps := #[.string t, undef, .pointer (some ⟨s, 0, none⟩), .pointer (some ⟨s + 1, 0, none⟩), .pointer (some ⟨s + 1 + 1, 0, none⟩), .string x, undef, undef, undef, undef, .string t, .func (.func 25) #[] #[.pointer (some ⟨s + 4, 0, none⟩), .pointer (some ⟨s + 3, 0, none⟩), .pointer (some ⟨s + 5, 0, none⟩)], .string x, undef, undef, undef, undef, undef, undef, undef, undef, undef, undef, undef, undef, undef, undef, undef, undef, undef, undef, undef, undef, undef, undef, undef, undef], defers := [] }) ?assign ?body ?done ?stop
  case assign =>
    intro l x W K hK
    gi_wp2
    exact hK
  case body =>
    rintro l pre x W ⟨⟨v, h1, h2⟩, h3, h4, h5, h6, h7⟩ hlen hx
    obtain ⟨A, c, rfl, h2⟩ := OwnI.eta h2
    simp only [List.length_map] at h1 h2
    have HE := Lib.hid (hE.below (by rw [hs]; exact h6))
    have b0 := h3.cell
    have f0 := h3.frozen
    have b1 := h4.cell
    have f1 := h4.frozen
    have b2 := h1.cell
    have f2 := h1.frozen
    have z2 := h1.lt
    have z1 : s + 1 < W.heap.size := by omega
    have z0 : s < W.heap.size := by omega
    cases k1 : atB x
    · have HA1 := Lib.hid (Tryd.atoiBad x W (by omega) HE.out k1)
      have HK := Lib.hid k1
      have HS := Lib.hid (⟨h3, h4, h6⟩ : Boxed W s 22 (.slice none 0 0) ∧ Boxed W (s + 1) 4 (.bool false) ∧ Below s w W)
      clear h1 h2 h3 h4 h6 k1
      gi_wp2_with (fail)
      refine ⟨trivial, ?_⟩
      refine (CallsIn.inRound l (callsIn_wide.2 HA1.out)).mono ?_
      rintro e w3 ⟨N1, x1, rfl, hb⟩
      have c0 := ((bcell hb).1 s 0 z0).trans b0
      have d0 := ((bcell hb).2 s 0 z0).trans f0
      have c1 := ((bcell hb).1 (s + 1) 0 z1).trans b1
      have d1 := ((bcell hb).2 (s + 1) 0 z1).trans f1
      have c2' := ((bcell hb).1 (s + 2) 0 z2).trans b2
      have d2' := ((bcell hb).2 (s + 2) 0 z2).trans f2
      have zz0 := Nat.lt_of_lt_of_le z0 hb.size
      have zz1 := Nat.lt_of_lt_of_le z1 hb.size
      have zz2 := Nat.lt_of_lt_of_le z2 hb.size
      gi_wp2
      obtain ⟨h3, h4, h6⟩ := HS.out
      refine ⟨(keeps_below hb).trans ((KeepsOthers.setCell _ _ _).trans (KeepsOthers.setCell _ _ _)), rfl, ?_, ?_, by simp [HK.out], ?_⟩
      · exact ((show Boxed w3 s _ _ from (hb.block s z0).trans h3).set _).other (by omega) _
      · exact ((show Boxed w3 (s + 1) _ _ from (hb.block (s + 1) z1).trans h4).other (by omega) _).set _
      · exact ((h6.trans (hb.mono (by omega))).setCell (p := ⟨s, 0, none⟩) (Nat.le_refl _) _).setCell (p := ⟨s + 1, 0, none⟩) (by show s ≤ s + 1; omega) _
    · have HA1 := Lib.hid (Tryd.atoiOk x W (by omega) k1)
      have HK := Lib.hid k1
      have HS := Lib.hid (⟨h3, h4, h5, h6, h7, h1, h2⟩ : Boxed W s 22 (.slice none 0 0) ∧ Boxed W (s + 1) 4 (.bool false) ∧ pre.all atB = true ∧ Below s w W ∧ s + 6 ≤ W.heap.size ∧ Boxed W (s + 2) 22 (.slice A pre.length c) ∧ OwnI W (s + 6) (.slice A pre.length c) (pre.map atV))
      have hlx : (pre.map atV).length ≤ 1000000000 := by have := spl_len 45 t; simp; omega
      have HLX := Lib.hid hlx
      have HXY := Lib.hid (show atV x = atV x from rfl)
      obtain ⟨X, hX⟩ : ∃ X, atV x = X := ⟨_, rfl⟩
      rw [hX] at HA1
      have HX := Lib.hid hX
      clear h1 h2 h3 h4 h5 h6 hlx k1 hX
      gi_wp2_with (fail)
      refine ⟨trivial, ?_⟩
      refine (CallsIn.inRound l (callsIn_wide.2 HA1.out)).mono ?_
      rintro e w3 ⟨rfl, hb⟩
      have c0 := ((bcell hb).1 s 0 z0).trans b0
      have d0 := ((bcell hb).2 s 0 z0).trans f0
      have c1 := ((bcell hb).1 (s + 1) 0 z1).trans b1
      have d1 := ((bcell hb).2 (s + 1) 0 z1).trans f1
      have c2' := ((bcell hb).1 (s + 2) 0 z2).trans b2
      have d2' := ((bcell hb).2 (s + 2) 0 z2).trans f2
      have zz0 := Nat.lt_of_lt_of_le z0 hb.size
      have zz1 := Nat.lt_of_lt_of_le z1 hb.size
      have zz2 := Nat.lt_of_lt_of_le z2 hb.size
      gi_wp2_with (gi_at_builtin; refine wpListIn_app1I rfl _ _ 22 rfl Tryd.underlying22 Tryd.infoI2 (s + 6) _ _ rfl (HS.out.2.2.2.2.2.2.below hb (Nat.le_refl _)) X rfl HLX.out (by have := hb.size; have := HS.out.2.2.2.2.1; omega) ?_; intro v' w4 ho3 hg3; obtain ⟨A', c', rfl, ho3⟩ := OwnI.eta ho3; have q1' : Boxed w3 (s + 2) 22 (.slice A pre.length c) := (hb.block (s + 2) z2).trans HS.out.2.2.2.2.2.1; have p2 := HS.out.2.2.2.2.2.2.below hb (Nat.le_refl _); have r2 := q1'.kept hg3 (Boxed.not_row q1' (by decide) p2); have c2 : w4.cell? ⟨s + 1 + 1, 0, none⟩ = _ := r2.cell; have e2 : w4.frozen? ⟨s + 1 + 1, 0, none⟩ = _ := r2.frozen; have y2 : s + 1 + 1 < w4.heap.size := r2.lt)
      obtain ⟨k3, k4, k5, k6, k7, k1, k2⟩ := HS.out
      have y0 : Boxed w3 s _ _ := (hb.block s z0).trans k3
      have y1 : Boxed w3 (s + 1) _ _ := (hb.block (s + 1) z1).trans k4
      have r0 := y0.kept hg3 (Boxed.not_row y0 (by decide) p2)
      have r1 := y1.kept hg3 (Boxed.not_row y1 (by decide) p2)
      have sw1 : s + 6 ≤ w3.heap.size := Nat.le_trans k7 hb.size
      have B3 : Below (s + 6) w3 w4 := Below.grown (Below.refl _ _) hg3 (by omega) (fun j hj => (World.ownsRow.lt p2 j hj).1)
      have sw3 : s + 6 ≤ w4.heap.size := by have := B3.size; omega
      have ga := grownBy_setCell' w4 (s + 2) (.slice A' (pre.length + 1) c')
      have e5 : (pre ++ [x]).map atV = pre.map atV ++ [X] := by rw [List.map_append]; simp [HX.out]
      refine ⟨(keeps_below hb).trans ((KeepsOthers.of_grownBy hg3 (rowCells p2)).trans (KeepsOthers.setCell _ _ _)), ?_, ⟨_, (show Boxed w4 (s + 2) _ _ from r2).set _, ?_⟩, r0.other (by omega) _, r1.other (by omega) _, ?_, ?_, ?_⟩
      · refine (KpB.below hb k7).trans ((KpB.below B3 (Nat.le_refl _)).trans fun b q1 q2 => ?_)
        exact ga.block b (by omega) (by intro e; cases e; omega)
      · rw [e5]
        have el : (pre.map atV ++ [X]).length = pre.length + 1 := by simp
        rw [el] at ho3
        exact ho3.grown ga (ownNe ho3 (by omega))
      · simp only [List.all_append, List.all_cons, List.all_nil, Bool.and_true] at k5 ⊢
        rw [k5, HK.out]; rfl
      · exact ((k6.trans (hb.mono (by omega))).trans (B3.mono (by omega))).setCell (p := ⟨s + 2, 0, none⟩) (by show s ≤ s + 2; omega) _
      · simpa using sw3
  case done =>
    rintro D ys W hD rfl ⟨⟨v, h1, h2⟩, h3, h4, h5, h6, h7⟩ hK
    obtain ⟨A, c, rfl, h2⟩ := OwnI.eta h2
    simp only [List.length_map] at h1 h2
    have b0 := h3.cell
    have f0 := h3.frozen
    have b1 := h4.cell
    have f1 := h4.frozen
    have b2 : W.cell? ⟨s + 1 + 1, 0, none⟩ = _ := h1.cell
    have z2 : s + 1 + 1 < W.heap.size := by omega
    have z1 : s + 1 < W.heap.size := by omega
    have z0 : s < W.heap.size := by omega
    have hR := (pe_eq t).1
    have hPV := (pe_eq t).2
    have hPN : peB t = false → peV t = [] := fun h => by simp [peV, h]
    have hl : ((spl 45 t).map atV).length ≤ 1048576 := by have h1 := spl_sum 45 t; have h2 := sum_geX _ h5; simp; omega
    have hTW : Tab W := hT.below (by rw [hs]; exact h6)
    have HO := Lib.hid h2
    unfold rdB at hR
    rw [h5, Bool.true_and] at hR
    by_cases hG : GoodP ((spl 45 t).map atV)
    · have HT := Lib.hid (Tryd.iPeopleText W (s + 6) _ _ true ⟨fun _ => hG, fun _ => rfl⟩ hl hTW h2)
      rw [show ptV5 ((spl 45 t).map atV) true = jtT ((spl 45 t).map atV) from rfl] at HT
      rw [(goodB_iff _).2 hG, Bool.true_and] at hR
      by_cases hJ : jtT ((spl 45 t).map atV) = t
      · have hB : peB t = true := by rw [← hR, decide_eq_true hJ]
        have hVV : peV t = (spl 45 t).map atV := (hPV hB).symm
        rw [hJ] at HT
        clear hl h2 hTW hG hJ hR hPV hPN
        gi_wp2_with (refine ⟨trivial, ?_⟩; gi_at_call 12; refine (callsIn_wide.2 HT.out).mono ?_; rintro e w1 ⟨rfl, hb⟩; have hcW := (bcell hb).1; have hfW := (bcell hb).2; have zz0 := Nat.lt_of_lt_of_le z0 hb.size; have zz1 := Nat.lt_of_lt_of_le z1 hb.size; have zz2 := Nat.lt_of_lt_of_le z2 hb.size)
        refine ⟨by simp, .inl ⟨_, _, rfl, run_takeDeferred (((keeps_below hb).trans ((KeepsOthers.setCell _ _ _).trans (KeepsOthers.setCell _ _ _))).same D _ hK rfl), ?_⟩⟩
        have u0 : Boxed w1 s _ _ := (hb.block s z0).trans h3
        have u1 : Boxed w1 (s + 1) _ _ := (hb.block (s + 1) z1).trans h4
        have c0 := (boxPut ((u0.set (.slice A (spl 45 t).length c)).other (B' := s + 1) (by omega) (.bool true)) (D := D) (by omega) (.deferred none)).cell
        have c1 := (boxPut ((u1.other (B' := s) (by omega) (.slice A (spl 45 t).length c)).set (.bool true)) (D := D) (by omega) (.deferred none)).cell
        have hKe := ((keeps_below hb).trans ((KeepsOthers.setCell w1 ⟨s, 0, none⟩ (.slice A (spl 45 t).length c)).trans (KeepsOthers.setCell _ ⟨s + 1, 0, none⟩ (.bool true)))).same D _ hK rfl
        have BE : Below s w ((w1.setCell ⟨s, 0, none⟩ (.slice A (spl 45 t).length c)).setCell ⟨s + 1, 0, none⟩ (.bool true)) := ((h6.trans (hb.mono (by omega))).setCell (p := ⟨s, 0, none⟩) (Nat.le_refl _) _).setCell (p := ⟨s + 1, 0, none⟩) (by show s ≤ s + 1; omega) _
        refine ⟨.tuple #[.slice A (spl 45 t).length c, .bool true], ?_, ?_⟩
        · simp [results, Tryd.results5, go_sem, c0, c1]
        · rw [hB, hVV]
          refine ⟨_, rfl, ?_, ?_⟩
          · rw [hs]
            have o1 := HO.out.below hb (Nat.le_refl _)
            have o2 := o1.grown (grownBy_setCell' w1 s (.slice A (spl 45 t).length c)) (ownNe o1 (by omega))
            have o3 := o2.grown (grownBy_setCell' _ (s + 1) (.bool true)) (ownNe o2 (by omega))
            have o4 := o3.grown (grownBy_putObj' _ D (.deferred none)) (rowNe (C := 0) o3 (fun r e => by cases e; exact ⟨Nat.zero_le _, _, hKe, rfl⟩))
            exact OwnI.mono o4 (by omega)
          · rw [hs]; exact BE.trans (belowK_b (w := W0) (n₀ := s) (by omega) _ D _ _ (by omega) hKe rfl rfl)
      · have hB : peB t = false := by rw [← hR, decide_eq_false hJ]
        have hVV : peV t = [] := hPN hB
        have d3 : ((jtT ((spl 45 t).map atV)).toList == t.toList) = false := ne_txt hJ
        clear hl h2 hTW hG hJ hR hPV hPN
        generalize jtT ((spl 45 t).map atV) = TT at *
        gi_wp2_with (refine ⟨trivial, ?_⟩; gi_at_call 12; refine (callsIn_wide.2 HT.out).mono ?_; rintro e w1 ⟨rfl, hb⟩; have hcW := (bcell hb).1; have hfW := (bcell hb).2; have zz0 := Nat.lt_of_lt_of_le z0 hb.size; have zz1 := Nat.lt_of_lt_of_le z1 hb.size; have zz2 := Nat.lt_of_lt_of_le z2 hb.size)
        refine ⟨by simp, .inl ⟨_, _, rfl, run_takeDeferred (((keeps_below hb).trans ((KeepsOthers.setCell _ _ _).trans (KeepsOthers.setCell _ _ _))).same D _ hK rfl), ?_⟩⟩
        have u0 : Boxed w1 s _ _ := (hb.block s z0).trans h3
        have u1 : Boxed w1 (s + 1) _ _ := (hb.block (s + 1) z1).trans h4
        have c0 := (boxPut ((u0.set (.slice none 0 0)).other (B' := s + 1) (by omega) (.bool false)) (D := D) (by omega) (.deferred none)).cell
        have c1 := (boxPut ((u1.other (B' := s) (by omega) (.slice none 0 0)).set (.bool false)) (D := D) (by omega) (.deferred none)).cell
        have hKe := ((keeps_below hb).trans ((KeepsOthers.setCell w1 ⟨s, 0, none⟩ (.slice none 0 0)).trans (KeepsOthers.setCell _ ⟨s + 1, 0, none⟩ (.bool false)))).same D _ hK rfl
        have BE : Below s w ((w1.setCell ⟨s, 0, none⟩ (.slice none 0 0)).setCell ⟨s + 1, 0, none⟩ (.bool false)) := ((h6.trans (hb.mono (by omega))).setCell (p := ⟨s, 0, none⟩) (Nat.le_refl _) _).setCell (p := ⟨s + 1, 0, none⟩) (by show s ≤ s + 1; omega) _
        refine ⟨.tuple #[.slice none 0 0, .bool false], ?_, ?_⟩
        · simp [results, Tryd.results5, go_sem, c0, c1]
        · rw [hB, hVV]
          refine ⟨_, rfl, ?_, ?_⟩
          · exact OwnI.nil2 _ _
          · rw [hs]; exact BE.trans (belowK_b (w := W0) (n₀ := s) (by omega) _ D _ _ (by omega) hKe rfl rfl)
    · have HT := Lib.hid (Tryd.iPeopleText W (s + 6) _ _ false ⟨(fun h => by cases h), fun h => absurd h hG⟩ hl hTW h2)
      rw [show ptV5 ((spl 45 t).map atV) false = ⟨#[]⟩ from rfl] at HT
      have hB : peB t = false := by rw [← hR, goodB_f hG]; rfl
      have hVV : peV t = [] := hPN hB
      clear hl h2 hTW hG hR hPV hPN
      gi_wp2_with (refine ⟨trivial, ?_⟩; gi_at_call 12; refine (callsIn_wide.2 HT.out).mono ?_; rintro e w1 ⟨rfl, hb⟩; have hcW := (bcell hb).1; have hfW := (bcell hb).2; have zz0 := Nat.lt_of_lt_of_le z0 hb.size; have zz1 := Nat.lt_of_lt_of_le z1 hb.size; have zz2 := Nat.lt_of_lt_of_le z2 hb.size)
      refine ⟨by simp, .inl ⟨_, _, rfl, run_takeDeferred (((keeps_below hb).trans ((KeepsOthers.setCell _ _ _).trans (KeepsOthers.setCell _ _ _))).same D _ hK rfl), ?_⟩⟩
      have u0 : Boxed w1 s _ _ := (hb.block s z0).trans h3
      have u1 : Boxed w1 (s + 1) _ _ := (hb.block (s + 1) z1).trans h4
      have c0 := (boxPut ((u0.set (.slice none 0 0)).other (B' := s + 1) (by omega) (.bool false)) (D := D) (by omega) (.deferred none)).cell
      have c1 := (boxPut ((u1.other (B' := s) (by omega) (.slice none 0 0)).set (.bool false)) (D := D) (by omega) (.deferred none)).cell
      have hKe := ((keeps_below hb).trans ((KeepsOthers.setCell w1 ⟨s, 0, none⟩ (.slice none 0 0)).trans (KeepsOthers.setCell _ ⟨s + 1, 0, none⟩ (.bool false)))).same D _ hK rfl
      have BE : Below s w ((w1.setCell ⟨s, 0, none⟩ (.slice none 0 0)).setCell ⟨s + 1, 0, none⟩ (.bool false)) := ((h6.trans (hb.mono (by omega))).setCell (p := ⟨s, 0, none⟩) (Nat.le_refl _) _).setCell (p := ⟨s + 1, 0, none⟩) (by show s ≤ s + 1; omega) _
      refine ⟨.tuple #[.slice none 0 0, .bool false], ?_, ?_⟩
      · simp [results, Tryd.results5, go_sem, c0, c1]
      · rw [hB, hVV]
        refine ⟨_, rfl, ?_, ?_⟩
        · exact OwnI.nil2 _ _
        · rw [hs]; exact BE.trans (belowK_b (w := W0) (n₀ := s) (by omega) _ D _ _ (by omega) hKe rfl rfl)
  case stop =>
    rintro D c pre W hD hSp ⟨rfl, h3, h4, h5, h6⟩ hK
    have b0 := h3.cell
    have b1 := h4.cell
    have hB : peB t = false := by
      rw [← (pe_eq t).1]
      have : (spl 45 t).all atB = false := by
        obtain ⟨r, hr⟩ := hSp
        rw [← hr, List.all_append, h5]; rfl
      unfold rdB
      rw [this]; rfl
    have hVV : peV t = [] := by simp [peV, hB]
    gi_wp2
    refine ⟨by simp, .inl ⟨_, _, rfl, run_takeDeferred hK, ?_⟩⟩
    have c0 := (boxPut h3 (D := D) (by omega) (.deferred none)).cell
    have c1 := (boxPut h4 (D := D) (by omega) (.deferred none)).cell
    refine ⟨.tuple #[.slice none 0 0, .bool false], ?_, ?_⟩
    · simp [results, Tryd.results5, go_sem, c0, c1]
    · rw [hB, hVV]
      refine ⟨_, rfl, OwnI.nil2 _ _, ?_⟩
      rw [hs]; exact h6.trans (belowK_b (w := W0) (n₀ := s) (by omega) W D _ _ (by omega) hK rfl rfl)
end Go.Proofs
