/-
  Chapter 4: a block closed, the model.
-/
import Derived.Test.YtnpkhoiblemodaaCbA
import Derived.Laws.AppendOwnNone
namespace Go.Proofs
open Go.RowKit Av
set_option linter.unusedVariables false
set_option linter.unusedSimpArgs false
section
variable {α : Type} {k bytes : Nat} {enc : α → List Value} {P : Program} {o : Oper} {a : Act} {W : World} {Q : Exit → Act → World → Prop} {Z : Value} {T : TypeId}
theorem step_appNB {ops : Array Oper} {K : Act → World → Prop} {E : Prop} (hgd : o.guard = none) (s x : Operand) (t : TypeId)
    (ho : o.op = .call { callee := .builtin .append, args := #[s, x], argTypes := #[t, t] }) (ht : P.underlying t = some (.slice T))
    (hinfo : (P.info? T).map (fun i => (i.zero, i.size, i.bytes)) = some (some Z, k, bytes)) (B : Nat) (v : Value) (ps : List α) (hs : a.eval s = v) (h : OwnE T k enc W B v ps)
    (hx : a.eval x = .slice none 0 0) (kk : K (a.put o.dst v) W) :
    if Region.wanted o (yielded ops a.tmps) = true then Oper.wp P o a W K Q else E := by
  rw [if_pos (show Region.wanted o (yielded ops a.tmps) = true by simp [Region.wanted, hgd])]
  obtain ⟨i0, hi, _, _, _⟩ := info_parts hinfo
  have hrun := run_append_owned_none (P := P) (w := W) B t o.type T i0 k ht hi v ps.length _ h
  unfold Oper.wp
  simp [execOp, ho, resolve, invoke, builtin, hs, hx, hrun, Result.andThen]
  exact kk
end
theorem Below.cell_of {n : Nat} {w w' : World} {a : Addr} {v : Value} (g : Below n w w') (h : w.cell? a = some v) (hn : w.heap.size ≤ n := by exact Nat.le_refl _) : w'.cell? a = some v := (g.cell (Nat.lt_of_lt_of_le (World.block_lt_of_cell? _ _ h) hn)).trans h
def CkRel (pk : Nat) (X : World) (i : Value) (wr : World) : Prop := Gr X wr ∧ ∃ k : Nat, k ≤ pk ∧ i = .int .i64 k
set_option maxRecDepth 100000 in
set_option maxHeartbeats 6400000 in
theorem Try.avClose (w : World) (W H : Int) (B : Nat) (a : Value) (ps : List Blk) (x y : Int) (u : Bool) (hu : Up ps) (hl : ps.length ≤ 100) (h : OwnB w B a ps) :
    Calls Try.prog 31 #[.agg #[.int .i64 W, .int .i64 H, a], .agg #[.int .i64 x, .int .i64 y, .bool u]] w (RetT w W H (ins ps (x, y, u))) := by
  have mixed : Try.prog.follows .mixedOrders = true := by kernel_rfl
  have HLN := Lib.hid hl
  rcases OwnB.two h with ⟨rfl, rfl⟩ | ⟨g, c, rfl, hcl, hcm, hgw, hall⟩
  · clear h hu hl
    have gW : Gr w (((w.alloc (.cells #[.int .i64 W, .int .i64 H, .slice none 0 0] 30)).alloc (.cells #[.int .i64 x, .int .i64 y, .bool u] 34)).alloc (.cells #[.int .i64 0, .int .i64 0, .slice none 0 0] 30)) := Gr.alloc (Gr.alloc (Gr.alloc (Gr.refl _) _) _) _
    have sX : SixB (((w.alloc (.cells #[.int .i64 W, .int .i64 H, .slice none 0 0] 30)).alloc (.cells #[.int .i64 x, .int .i64 y, .bool u] 34)).alloc (.cells #[.int .i64 0, .int .i64 0, .slice none 0 0] 30)) w.heap.size W H (.slice none 0 0) x y u := ⟨by simp [go_sem], by simp [go_sem], by simp [go_sem], by simp [go_sem], by simp [go_sem], by simp [go_sem]⟩
    have rX : RbxB (((w.alloc (.cells #[.int .i64 W, .int .i64 H, .slice none 0 0] 30)).alloc (.cells #[.int .i64 x, .int .i64 y, .bool u] 34)).alloc (.cells #[.int .i64 0, .int .i64 0, .slice none 0 0] 30)) w.heap.size := ⟨by simp [go_sem], by simp [go_sem], by simp [go_sem], fun o => by simp [go_sem]⟩
    generalize hX : ((w.alloc (.cells #[.int .i64 W, .int .i64 H, .slice none 0 0] 30)).alloc (.cells #[.int .i64 x, .int .i64 y, .bool u] 34)).alloc (.cells #[.int .i64 0, .int .i64 0, .slice none 0 0] 30) = X at *
    have GW := Lib.hid gW
    have SX := Lib.hid sX
    have RX := Lib.hid rX
    have HLE : Hid (0 ≤ 0) := Lib.hid (Nat.le_refl 0)
    clear gW sX rX
    have f0 := gr_all (Gr.refl X) SX.out.2.2.1
    go_enter Try.func31, Try.ntmps31
    go_wp2
    try rw [hX]
    clear hX
    refine wp_loop_rounds 1 ?_
    rw [rounds_succ]
    go_wp2
    (refine wp_region_quiet_grown mixed (by kernel_rfl) ?_; (repeat (first | go_big_quiet_step (skip) | quiet_step (skip))); refine wpQuiet_nil ?_; intro _ hw'; obtain ⟨⟨nq, osq⟩, hw''⟩ := hw'; subst hw'')
    go_wp2
    have GR := Lib.hid (Gr.refl X)
    obtain ⟨W4, hW4⟩ : ∃ W4, W4 = Go.Sort.grow (X.drewN nq) osq := ⟨_, rfl⟩
    rw [← hW4]
    have gX4 : Gr X W4 := by rw [hW4]; exact Gr.grow (Gr.drewN GR.out _) _
    have GG := Lib.hid (GW.out.trans gX4)
    have HS := Lib.hid (SixB.gr SX.out gX4)
    have HRB := Lib.hid (RbxB.bel RX.out gX4.below (show w.heap.size + 2 < X.heap.size from World.block_lt_of_cell? _ _ RX.out.1))
    have zz : w.heap.size + 2 < W4.heap.size := World.block_lt_of_cell? _ _ HRB.out.1
    clear gX4 hW4
    refine wp_region_held_drew (S := fun W' => W'.cell? ⟨w.heap.size, 0, none⟩ = some (.int .i64 W) ∧ W'.cell? ⟨w.heap.size, 1, none⟩ = some (.int .i64 H) ∧ W'.cell? ⟨w.heap.size, 2, none⟩ = some (.slice none 0 0) ∧ W'.cell? ⟨w.heap.size + 1, 0, none⟩ = some (.int .i64 x) ∧ W'.cell? ⟨w.heap.size + 1, 1, none⟩ = some (.int .i64 y) ∧ W'.cell? ⟨w.heap.size + 1, 2, none⟩ = some (.bool u)) (by kernel_rfl) (SixB.gr HS.out (Gr.drew (Gr.refl W4))) (fun hHeld => ?_)
    (refine wpAnyH_take (i := 1) (v := ?_) (by simp only [List.getElem?_toArray, List.getElem?_cons_succ, List.getElem?_cons_zero]; exact rfl) (by kernel_rfl) (by kernel_rfl) (by kernel_rfl) (by intro _ _ _ h; exact h) (Or.inl ⟨by rfl, ?_⟩) (by assumption) ?_; rotate_left; (focus (intro w' hSw; (try dsimp only at hSw); go_simp; (try with_reducible rfl))); try simp only [Act.put, List.setIfInBounds_toArray, List.set_cons_zero, List.set_cons_succ])
    (refine wpAnyH_take (i := 2) (v := ?_) (by simp only [List.getElem?_toArray, List.getElem?_cons_succ, List.getElem?_cons_zero]; exact rfl) (by kernel_rfl) (by kernel_rfl) (by kernel_rfl) (by intro _ _ _ h; exact h) (Or.inl ⟨by rfl, ?_⟩) (by assumption) ?_; rotate_left; (focus (intro w' hSw; (try dsimp only at hSw); go_simp; (try with_reducible rfl))); try simp only [Act.put, List.setIfInBounds_toArray, List.set_cons_zero, List.set_cons_succ])
    (refine wpAnyH_take (i := 3) (v := ?_) (by simp only [List.getElem?_toArray, List.getElem?_cons_succ, List.getElem?_cons_zero]; exact rfl) (by kernel_rfl) (by kernel_rfl) (by kernel_rfl) (by intro _ _ _ h; exact h) (Or.inl ⟨by rfl, ?_⟩) (by assumption) ?_; rotate_left; (focus (intro w' hSw; (try dsimp only at hSw); go_simp; (try with_reducible rfl))); try simp only [Act.put, List.setIfInBounds_toArray, List.set_cons_zero, List.set_cons_succ])
    (refine wpAnyH_take (i := 4) (v := ?_) (by simp only [List.getElem?_toArray, List.getElem?_cons_succ, List.getElem?_cons_zero]; exact rfl) (by kernel_rfl) (by kernel_rfl) (by kernel_rfl) (by intro _ _ _ h; exact h) (Or.inl ⟨by rfl, ?_⟩) (by assumption) ?_; rotate_left; (focus (intro w' hSw; (try dsimp only at hSw); go_simp; (try with_reducible rfl))); try simp only [Act.put, List.setIfInBounds_toArray, List.set_cons_zero, List.set_cons_succ])
    (refine wpAnyH_take (i := 6) (v := ?_) (by simp only [List.getElem?_toArray, List.getElem?_cons_succ, List.getElem?_cons_zero]; exact rfl) (by kernel_rfl) (by kernel_rfl) (by kernel_rfl) (by intro _ _ _ h; exact h) (Or.inl ⟨by rfl, ?_⟩) (by assumption) ?_; rotate_left; (focus (intro w' hSw; (try dsimp only at hSw); go_simp; (try with_reducible rfl))); try simp only [Act.put, List.setIfInBounds_toArray, List.set_cons_zero, List.set_cons_succ])
    refine wpAnyH_ready (rs := [0, 7]) (by kernel_rfl) (by simp) (AllReadyH.cons (by simp only [List.getElem?_toArray, List.getElem?_cons_succ, List.getElem?_cons_zero]; exact rfl) (fun K' hK => ?_) (AllReadyH.cons (by simp only [List.getElem?_toArray, List.getElem?_cons_succ, List.getElem?_cons_zero]; exact rfl) (fun K' hK => ?_) AllReadyH.nil))
    · go_simp
      (refine hK.out _ _ (SixB.gr HS.out (Gr.alloc (Gr.drew (Gr.refl W4)) _)) (fun hHeld => ?_); clear hK K'; try simp only [Act.put, List.setIfInBounds_toArray, List.set_cons_zero, List.set_cons_succ])
      refine wpAnyH_ready (rs := [5, 7]) (by kernel_rfl) (by simp) (AllReadyH.cons (by simp only [List.getElem?_toArray, List.getElem?_cons_succ, List.getElem?_cons_zero]; exact rfl) (fun K' hK => ?_) (AllReadyH.cons (by simp only [List.getElem?_toArray, List.getElem?_cons_succ, List.getElem?_cons_zero]; exact rfl) (fun K' hK => ?_) AllReadyH.nil))
      · refine step_appNB (enc := bcs) rfl (.tmp 23) (.tmp 27) 28 rfl Try.underlying28 Try.infoB W4.heap.size (.slice (some ⟨W4.heap.size, 0, none⟩) 0 0) ([] : List Blk) rfl (OwnE.empty (b := W4.heap.size) (by refine heap_new' ?_; simp; done) (by omega)) rfl ?_
        (refine hK.out _ _ (SixB.gr HS.out (Gr.alloc (Gr.drew (Gr.refl W4)) _)) (fun hHeld => ?_); clear hK K'; try simp only [Act.put, List.setIfInBounds_toArray, List.set_cons_zero, List.set_cons_succ])
        refine wpAnyH_ready (rs := [7]) (by kernel_rfl) (by simp) (AllReadyH.cons (by simp only [List.getElem?_toArray, List.getElem?_cons_succ, List.getElem?_cons_zero]; exact rfl) (fun K' hK => ?_) AllReadyH.nil)
        go_simp
        (refine hK.out _ _ (SixB.gr HS.out (Gr.alloc (Gr.alloc (Gr.drew (Gr.refl W4)) _) _)) (fun hHeld => ?_); clear hK K'; try simp only [Act.put, List.setIfInBounds_toArray, List.set_cons_zero, List.set_cons_succ])
        refine wpAnyH_ready (rs := [8]) (by kernel_rfl) (by simp) (AllReadyH.cons (by simp only [List.getElem?_toArray, List.getElem?_cons_succ, List.getElem?_cons_zero]; exact rfl) (fun K' hK => ?_) AllReadyH.nil)
        refine step_appE bcs_len bcs_one rfl (.tmp 28) (.tmp 30) 28 rfl _ Try.underlying28 Try.infoB rfl (by decide) (by decide) W4.heap.size _ ([] : List Blk) rfl (OwnE.empty (b := W4.heap.size) (((Gr.alloc (Gr.refl _) _).below.block W4.heap.size (by simp)).trans (by refine heap_new' ?_; simp; done)) (by omega)) ⟨W4.heap.size + 1, 0, none⟩ 1 1 [(x, y, u)] rfl rfl (fun j z hz => alloc_cells' (by simp; done) (by simpa [ecs, bcs] using hz)) (by have := HLN.out; have := HLE.out; simp; try omega) (by simp) (by (try simp); (try omega)) ?_; intro v8 w8 ho8 hb8 _ _; obtain ⟨A8, c8, e8, ho8⟩ := OwnE.eta ho8; skip; subst e8
        have B8 : Below W4.heap.size W4 w8 := ((Gr.alloc (Gr.alloc (Gr.drew (Gr.refl W4)) _) _).below).trans hb8
        have S8 := SixB.bel HS.out B8 (Nat.lt_of_succ_lt zz)
        have R8 := RbxB.bel HRB.out B8 zz
        have HO8 := Lib.hid ho8
        have HB8 := Lib.hid B8
        (refine hK.out _ _ (S8) (fun hHeld => ?_); clear hK K'; try simp only [Act.put, List.setIfInBounds_toArray, List.set_cons_zero, List.set_cons_succ])
        refine wpAnyH_ready (rs := [9]) (by kernel_rfl) (by simp) (AllReadyH.cons (by simp only [List.getElem?_toArray, List.getElem?_cons_succ, List.getElem?_cons_zero]; exact rfl) (fun K' hK => ?_) AllReadyH.nil)
        go_simp
        (refine hK.out _ _ (S8) (fun hHeld => ?_); clear hK K'; try simp only [Act.put, List.setIfInBounds_toArray, List.set_cons_zero, List.set_cons_succ])
        refine wpAnyH_done (by kernel_rfl) ?_ _
        have HS8 := Lib.hid S8
        have HR8 := Lib.hid R8
        clear S8 R8 ho8
        go_wp2
        refine wp_region_held_drew (S := fun W' => W'.cell? ⟨w.heap.size, 0, none⟩ = some (.int .i64 W) ∧ W'.cell? ⟨w.heap.size, 1, none⟩ = some (.int .i64 H) ∧ W'.cell? ⟨w.heap.size, 2, none⟩ = some (.slice none 0 0) ∧ W'.cell? ⟨w.heap.size + 1, 0, none⟩ = some (.int .i64 x) ∧ W'.cell? ⟨w.heap.size + 1, 1, none⟩ = some (.int .i64 y) ∧ W'.cell? ⟨w.heap.size + 1, 2, none⟩ = some (.bool u)) (by kernel_rfl) (SixB.gr HS8.out (Gr.drew (Gr.refl _))) (fun hHeld => ?_)
        (refine wpAnyH_take (i := 0) (v := ?_) (by simp only [List.getElem?_toArray, List.getElem?_cons_succ, List.getElem?_cons_zero]; exact rfl) (by kernel_rfl) (by kernel_rfl) (by kernel_rfl) (by intro _ _ _ h; exact h) (Or.inl ⟨by rfl, ?_⟩) (by assumption) ?_; rotate_left; (focus (intro w' hSw; (try dsimp only at hSw); go_simp; (try with_reducible rfl))); try simp only [Act.put, List.setIfInBounds_toArray, List.set_cons_zero, List.set_cons_succ])
        (refine wpAnyH_take (i := 1) (v := ?_) (by simp only [List.getElem?_toArray, List.getElem?_cons_succ, List.getElem?_cons_zero]; exact rfl) (by kernel_rfl) (by kernel_rfl) (by kernel_rfl) (by intro _ _ _ h; exact h) (Or.inl ⟨by rfl, ?_⟩) (by assumption) ?_; rotate_left; (focus (intro w' hSw; (try dsimp only at hSw); go_simp; (try with_reducible rfl))); try simp only [Act.put, List.setIfInBounds_toArray, List.set_cons_zero, List.set_cons_succ])
        (refine wpAnyH_take (i := 2) (v := ?_) (by simp only [List.getElem?_toArray, List.getElem?_cons_succ, List.getElem?_cons_zero]; exact rfl) (by kernel_rfl) (by kernel_rfl) (by kernel_rfl) (by intro _ _ _ h; exact h) (Or.inl ⟨by rfl, ?_⟩) (by assumption) ?_; rotate_left; (focus (intro w' hSw; (try dsimp only at hSw); go_simp; (try with_reducible rfl))); try simp only [Act.put, List.setIfInBounds_toArray, List.set_cons_zero, List.set_cons_succ])
        (refine wpAnyH_take (i := 3) (v := ?_) (by simp only [List.getElem?_toArray, List.getElem?_cons_succ, List.getElem?_cons_zero]; exact rfl) (by kernel_rfl) (by kernel_rfl) (by kernel_rfl) (by intro _ _ _ h; exact h) (Or.inl ⟨by rfl, ?_⟩) (by assumption) ?_; rotate_left; (focus (intro w' hSw; (try dsimp only at hSw); go_simp; (try with_reducible rfl))); try simp only [Act.put, List.setIfInBounds_toArray, List.set_cons_zero, List.set_cons_succ])
        (refine wpAnyH_take (i := 4) (v := ?_) (by simp only [List.getElem?_toArray, List.getElem?_cons_succ, List.getElem?_cons_zero]; exact rfl) (by kernel_rfl) (by kernel_rfl) (by kernel_rfl) (by intro _ _ _ h; exact h) (Or.inl ⟨by rfl, ?_⟩) (by assumption) ?_; rotate_left; (focus (intro w' hSw; (try dsimp only at hSw); go_simp; (try with_reducible rfl))); try simp only [Act.put, List.setIfInBounds_toArray, List.set_cons_zero, List.set_cons_succ])
        (refine wpAnyH_take (i := 5) (v := ?_) (by simp only [List.getElem?_toArray, List.getElem?_cons_succ, List.getElem?_cons_zero]; exact rfl) (by kernel_rfl) (by kernel_rfl) (by kernel_rfl) (by intro _ _ _ h; exact h) (Or.inl ⟨by rfl, ?_⟩) (by assumption) ?_; rotate_left; (focus (intro w' hSw; (try dsimp only at hSw); go_simp; (try with_reducible rfl))); try simp only [Act.put, List.setIfInBounds_toArray, List.set_cons_zero, List.set_cons_succ])
        (refine wpAnyH_take (i := 6) (v := ?_) (by simp only [List.getElem?_toArray, List.getElem?_cons_succ, List.getElem?_cons_zero]; exact rfl) (by kernel_rfl) (by kernel_rfl) (by kernel_rfl) (by intro _ _ _ h; exact h) (Or.inl ⟨by rfl, ?_⟩) (by assumption) ?_; rotate_left; (focus (intro w' hSw; (try dsimp only at hSw); go_simp; (try with_reducible rfl))); try simp only [Act.put, List.setIfInBounds_toArray, List.set_cons_zero, List.set_cons_succ])
        (refine wpAnyH_take (i := 7) (v := ?_) (by simp only [List.getElem?_toArray, List.getElem?_cons_succ, List.getElem?_cons_zero]; exact rfl) (by kernel_rfl) (by kernel_rfl) (by kernel_rfl) (by intro _ _ _ h; exact h) (Or.inl ⟨by rfl, ?_⟩) (by assumption) ?_; rotate_left; (focus (intro w' hSw; (try dsimp only at hSw); go_simp; (try with_reducible rfl))); try simp only [Act.put, List.setIfInBounds_toArray, List.set_cons_zero, List.set_cons_succ])
        (refine wpAnyH_take (i := 8) (v := ?_) (by simp only [List.getElem?_toArray, List.getElem?_cons_succ, List.getElem?_cons_zero]; exact rfl) (by kernel_rfl) (by kernel_rfl) (by kernel_rfl) (by intro _ _ _ h; exact h) (Or.inl ⟨by rfl, ?_⟩) (by assumption) ?_; rotate_left; (focus (intro w' hSw; (try dsimp only at hSw); go_simp; (try with_reducible rfl))); try simp only [Act.put, List.setIfInBounds_toArray, List.set_cons_zero, List.set_cons_succ])
        refine wpAnyH_ready (rs := [9]) (by kernel_rfl) (by simp) (AllReadyH.cons (by simp only [List.getElem?_toArray, List.getElem?_cons_succ, List.getElem?_cons_zero]; exact rfl) (fun K' hK => ?_) AllReadyH.nil)
        refine step_appNB (enc := bcs) rfl (.tmp 36) (.tmp 40) 28 rfl Try.underlying28 Try.infoB W4.heap.size _ ([] ++ [(x, y, u)]) rfl (OwnE.gr HO8.out (Gr.drew (Gr.refl _))) rfl ?_
        have S9 := SixB.gr HS8.out (Gr.drew (Gr.refl _))
        have R9 := HR8.out
        have ho9 := OwnE.gr HO8.out (Gr.drew (Gr.refl w8))
        have D9 : Below W4.heap.size W4 w8.drew := Below.drew HB8.out
        (refine hK.out _ _ (S9) (fun hHeld => ?_); clear hK K'; try simp only [Act.put, List.setIfInBounds_toArray, List.set_cons_zero, List.set_cons_succ])
        refine wpAnyH_ready (rs := [10]) (by kernel_rfl) (by simp) (AllReadyH.cons (by simp only [List.getElem?_toArray, List.getElem?_cons_succ, List.getElem?_cons_zero]; exact rfl) (fun K' hK => ?_) AllReadyH.nil)
        go_simp
        (refine hK.out _ _ (S9) (fun hHeld => ?_); clear hK K'; try simp only [Act.put, List.setIfInBounds_toArray, List.set_cons_zero, List.set_cons_succ])
        have r0 := R9.1
        have r1 := R9.2.1
        have r2 := R9.2.2.1
        have rf := R9.2.2.2
        refine wpAnyH_ready (rs := [11]) (by kernel_rfl) (by simp) (AllReadyH.cons (by simp only [List.getElem?_toArray, List.getElem?_cons_succ, List.getElem?_cons_zero]; exact rfl) (fun K' hK => ?_) AllReadyH.nil)
        go_simp
        (refine hK.out _ _ (SixB.set (SixB.set (SixB.set S9))) (fun hHeld => ?_); clear hK K'; try simp only [Act.put, List.setIfInBounds_toArray, List.set_cons_zero, List.set_cons_succ])
        refine wpAnyH_done (by kernel_rfl) ?_ _
        go_wp2
        refine bodyPost_ret (v := .agg #[.int .i64 W, .int .i64 H, .slice A8 ([] ++ [(x, y, u)] : List Blk).length c8]) (by simp [results, Try.results31, go_sem, r0, r1, r2]) rfl ⟨_, rfl, ?_, ?_⟩
        · exact OwnE.mono (OwnE.setOther (a := ⟨w.heap.size + 2, 2, none⟩) (OwnE.setOther (a := ⟨w.heap.size + 2, 1, none⟩) (OwnE.setOther (a := ⟨w.heap.size + 2, 0, none⟩) ho9 zz _) zz _) zz _) (by omega)
        · exact (((GG.out.below.trans (D9.mono GG.out.below.size)).setCell (by simp; omega) _).setCell (by simp; omega) _).setCell (by simp; omega) _
      · go_simp
        (refine hK.out _ _ (SixB.gr HS.out (Gr.alloc (Gr.alloc (Gr.drew (Gr.refl W4)) _) _)) (fun hHeld => ?_); clear hK K'; try simp only [Act.put, List.setIfInBounds_toArray, List.set_cons_zero, List.set_cons_succ])
        refine wpAnyH_ready (rs := [5]) (by kernel_rfl) (by simp) (AllReadyH.cons (by simp only [List.getElem?_toArray, List.getElem?_cons_succ, List.getElem?_cons_zero]; exact rfl) (fun K' hK => ?_) AllReadyH.nil)
        refine step_appNB (enc := bcs) rfl (.tmp 23) (.tmp 27) 28 rfl Try.underlying28 Try.infoB W4.heap.size (.slice (some ⟨W4.heap.size, 0, none⟩) 0 0) ([] : List Blk) rfl (OwnE.empty (b := W4.heap.size) (((Gr.alloc (Gr.refl _) _).below.block W4.heap.size (by simp)).trans (by refine heap_new' ?_; simp; done)) (by omega)) rfl ?_
        (refine hK.out _ _ (SixB.gr HS.out (Gr.alloc (Gr.alloc (Gr.drew (Gr.refl W4)) _) _)) (fun hHeld => ?_); clear hK K'; try simp only [Act.put, List.setIfInBounds_toArray, List.set_cons_zero, List.set_cons_succ])
        refine wpAnyH_ready (rs := [8]) (by kernel_rfl) (by simp) (AllReadyH.cons (by simp only [List.getElem?_toArray, List.getElem?_cons_succ, List.getElem?_cons_zero]; exact rfl) (fun K' hK => ?_) AllReadyH.nil)
        refine step_appE bcs_len bcs_one rfl (.tmp 28) (.tmp 30) 28 rfl _ Try.underlying28 Try.infoB rfl (by decide) (by decide) W4.heap.size _ ([] : List Blk) rfl (OwnE.empty (b := W4.heap.size) (((Gr.alloc (Gr.refl _) _).below.block W4.heap.size (by simp)).trans (by refine heap_new' ?_; simp; done)) (by omega)) ⟨W4.heap.size + 1, 0, none⟩ 1 1 [(x, y, u)] rfl rfl (fun j z hz => alloc_cells' (by simp; done) (by simpa [ecs, bcs] using hz)) (by have := HLN.out; have := HLE.out; simp; try omega) (by simp) (by (try simp); (try omega)) ?_; intro v8 w8 ho8 hb8 _ _; obtain ⟨A8, c8, e8, ho8⟩ := OwnE.eta ho8; skip; subst e8
        have B8 : Below W4.heap.size W4 w8 := ((Gr.alloc (Gr.alloc (Gr.drew (Gr.refl W4)) _) _).below).trans hb8
        have S8 := SixB.bel HS.out B8 (Nat.lt_of_succ_lt zz)
        have R8 := RbxB.bel HRB.out B8 zz
        have HO8 := Lib.hid ho8
        have HB8 := Lib.hid B8
        (refine hK.out _ _ (S8) (fun hHeld => ?_); clear hK K'; try simp only [Act.put, List.setIfInBounds_toArray, List.set_cons_zero, List.set_cons_succ])
        refine wpAnyH_ready (rs := [9]) (by kernel_rfl) (by simp) (AllReadyH.cons (by simp only [List.getElem?_toArray, List.getElem?_cons_succ, List.getElem?_cons_zero]; exact rfl) (fun K' hK => ?_) AllReadyH.nil)
        go_simp
        (refine hK.out _ _ (S8) (fun hHeld => ?_); clear hK K'; try simp only [Act.put, List.setIfInBounds_toArray, List.set_cons_zero, List.set_cons_succ])
        refine wpAnyH_done (by kernel_rfl) ?_ _
        have HS8 := Lib.hid S8
        have HR8 := Lib.hid R8
        clear S8 R8 ho8
        go_wp2
        refine wp_region_held_drew (S := fun W' => W'.cell? ⟨w.heap.size, 0, none⟩ = some (.int .i64 W) ∧ W'.cell? ⟨w.heap.size, 1, none⟩ = some (.int .i64 H) ∧ W'.cell? ⟨w.heap.size, 2, none⟩ = some (.slice none 0 0) ∧ W'.cell? ⟨w.heap.size + 1, 0, none⟩ = some (.int .i64 x) ∧ W'.cell? ⟨w.heap.size + 1, 1, none⟩ = some (.int .i64 y) ∧ W'.cell? ⟨w.heap.size + 1, 2, none⟩ = some (.bool u)) (by kernel_rfl) (SixB.gr HS8.out (Gr.drew (Gr.refl _))) (fun hHeld => ?_)
        (refine wpAnyH_take (i := 0) (v := ?_) (by simp only [List.getElem?_toArray, List.getElem?_cons_succ, List.getElem?_cons_zero]; exact rfl) (by kernel_rfl) (by kernel_rfl) (by kernel_rfl) (by intro _ _ _ h; exact h) (Or.inl ⟨by rfl, ?_⟩) (by assumption) ?_; rotate_left; (focus (intro w' hSw; (try dsimp only at hSw); go_simp; (try with_reducible rfl))); try simp only [Act.put, List.setIfInBounds_toArray, List.set_cons_zero, List.set_cons_succ])
        (refine wpAnyH_take (i := 1) (v := ?_) (by simp only [List.getElem?_toArray, List.getElem?_cons_succ, List.getElem?_cons_zero]; exact rfl) (by kernel_rfl) (by kernel_rfl) (by kernel_rfl) (by intro _ _ _ h; exact h) (Or.inl ⟨by rfl, ?_⟩) (by assumption) ?_; rotate_left; (focus (intro w' hSw; (try dsimp only at hSw); go_simp; (try with_reducible rfl))); try simp only [Act.put, List.setIfInBounds_toArray, List.set_cons_zero, List.set_cons_succ])
        (refine wpAnyH_take (i := 2) (v := ?_) (by simp only [List.getElem?_toArray, List.getElem?_cons_succ, List.getElem?_cons_zero]; exact rfl) (by kernel_rfl) (by kernel_rfl) (by kernel_rfl) (by intro _ _ _ h; exact h) (Or.inl ⟨by rfl, ?_⟩) (by assumption) ?_; rotate_left; (focus (intro w' hSw; (try dsimp only at hSw); go_simp; (try with_reducible rfl))); try simp only [Act.put, List.setIfInBounds_toArray, List.set_cons_zero, List.set_cons_succ])
        (refine wpAnyH_take (i := 3) (v := ?_) (by simp only [List.getElem?_toArray, List.getElem?_cons_succ, List.getElem?_cons_zero]; exact rfl) (by kernel_rfl) (by kernel_rfl) (by kernel_rfl) (by intro _ _ _ h; exact h) (Or.inl ⟨by rfl, ?_⟩) (by assumption) ?_; rotate_left; (focus (intro w' hSw; (try dsimp only at hSw); go_simp; (try with_reducible rfl))); try simp only [Act.put, List.setIfInBounds_toArray, List.set_cons_zero, List.set_cons_succ])
        (refine wpAnyH_take (i := 4) (v := ?_) (by simp only [List.getElem?_toArray, List.getElem?_cons_succ, List.getElem?_cons_zero]; exact rfl) (by kernel_rfl) (by kernel_rfl) (by kernel_rfl) (by intro _ _ _ h; exact h) (Or.inl ⟨by rfl, ?_⟩) (by assumption) ?_; rotate_left; (focus (intro w' hSw; (try dsimp only at hSw); go_simp; (try with_reducible rfl))); try simp only [Act.put, List.setIfInBounds_toArray, List.set_cons_zero, List.set_cons_succ])
        (refine wpAnyH_take (i := 5) (v := ?_) (by simp only [List.getElem?_toArray, List.getElem?_cons_succ, List.getElem?_cons_zero]; exact rfl) (by kernel_rfl) (by kernel_rfl) (by kernel_rfl) (by intro _ _ _ h; exact h) (Or.inl ⟨by rfl, ?_⟩) (by assumption) ?_; rotate_left; (focus (intro w' hSw; (try dsimp only at hSw); go_simp; (try with_reducible rfl))); try simp only [Act.put, List.setIfInBounds_toArray, List.set_cons_zero, List.set_cons_succ])
        (refine wpAnyH_take (i := 6) (v := ?_) (by simp only [List.getElem?_toArray, List.getElem?_cons_succ, List.getElem?_cons_zero]; exact rfl) (by kernel_rfl) (by kernel_rfl) (by kernel_rfl) (by intro _ _ _ h; exact h) (Or.inl ⟨by rfl, ?_⟩) (by assumption) ?_; rotate_left; (focus (intro w' hSw; (try dsimp only at hSw); go_simp; (try with_reducible rfl))); try simp only [Act.put, List.setIfInBounds_toArray, List.set_cons_zero, List.set_cons_succ])
        (refine wpAnyH_take (i := 7) (v := ?_) (by simp only [List.getElem?_toArray, List.getElem?_cons_succ, List.getElem?_cons_zero]; exact rfl) (by kernel_rfl) (by kernel_rfl) (by kernel_rfl) (by intro _ _ _ h; exact h) (Or.inl ⟨by rfl, ?_⟩) (by assumption) ?_; rotate_left; (focus (intro w' hSw; (try dsimp only at hSw); go_simp; (try with_reducible rfl))); try simp only [Act.put, List.setIfInBounds_toArray, List.set_cons_zero, List.set_cons_succ])
        (refine wpAnyH_take (i := 8) (v := ?_) (by simp only [List.getElem?_toArray, List.getElem?_cons_succ, List.getElem?_cons_zero]; exact rfl) (by kernel_rfl) (by kernel_rfl) (by kernel_rfl) (by intro _ _ _ h; exact h) (Or.inl ⟨by rfl, ?_⟩) (by assumption) ?_; rotate_left; (focus (intro w' hSw; (try dsimp only at hSw); go_simp; (try with_reducible rfl))); try simp only [Act.put, List.setIfInBounds_toArray, List.set_cons_zero, List.set_cons_succ])
        refine wpAnyH_ready (rs := [9]) (by kernel_rfl) (by simp) (AllReadyH.cons (by simp only [List.getElem?_toArray, List.getElem?_cons_succ, List.getElem?_cons_zero]; exact rfl) (fun K' hK => ?_) AllReadyH.nil)
        refine step_appNB (enc := bcs) rfl (.tmp 36) (.tmp 40) 28 rfl Try.underlying28 Try.infoB W4.heap.size _ ([] ++ [(x, y, u)]) rfl (OwnE.gr HO8.out (Gr.drew (Gr.refl _))) rfl ?_
        have S9 := SixB.gr HS8.out (Gr.drew (Gr.refl _))
        have R9 := HR8.out
        have ho9 := OwnE.gr HO8.out (Gr.drew (Gr.refl w8))
        have D9 : Below W4.heap.size W4 w8.drew := Below.drew HB8.out
        (refine hK.out _ _ (S9) (fun hHeld => ?_); clear hK K'; try simp only [Act.put, List.setIfInBounds_toArray, List.set_cons_zero, List.set_cons_succ])
        refine wpAnyH_ready (rs := [10]) (by kernel_rfl) (by simp) (AllReadyH.cons (by simp only [List.getElem?_toArray, List.getElem?_cons_succ, List.getElem?_cons_zero]; exact rfl) (fun K' hK => ?_) AllReadyH.nil)
        go_simp
        (refine hK.out _ _ (S9) (fun hHeld => ?_); clear hK K'; try simp only [Act.put, List.setIfInBounds_toArray, List.set_cons_zero, List.set_cons_succ])
        have r0 := R9.1
        have r1 := R9.2.1
        have r2 := R9.2.2.1
        have rf := R9.2.2.2
        refine wpAnyH_ready (rs := [11]) (by kernel_rfl) (by simp) (AllReadyH.cons (by simp only [List.getElem?_toArray, List.getElem?_cons_succ, List.getElem?_cons_zero]; exact rfl) (fun K' hK => ?_) AllReadyH.nil)
        go_simp
        (refine hK.out _ _ (SixB.set (SixB.set (SixB.set S9))) (fun hHeld => ?_); clear hK K'; try simp only [Act.put, List.setIfInBounds_toArray, List.set_cons_zero, List.set_cons_succ])
        refine wpAnyH_done (by kernel_rfl) ?_ _
        go_wp2
        refine bodyPost_ret (v := .agg #[.int .i64 W, .int .i64 H, .slice A8 ([] ++ [(x, y, u)] : List Blk).length c8]) (by simp [results, Try.results31, go_sem, r0, r1, r2]) rfl ⟨_, rfl, ?_, ?_⟩
        · exact OwnE.mono (OwnE.setOther (a := ⟨w.heap.size + 2, 2, none⟩) (OwnE.setOther (a := ⟨w.heap.size + 2, 1, none⟩) (OwnE.setOther (a := ⟨w.heap.size + 2, 0, none⟩) ho9 zz _) zz _) zz _) (by omega)
        · exact (((GG.out.below.trans (D9.mono GG.out.below.size)).setCell (by simp; omega) _).setCell (by simp; omega) _).setCell (by simp; omega) _
    · go_simp
      (refine hK.out _ _ (SixB.gr HS.out (Gr.alloc (Gr.drew (Gr.refl W4)) _)) (fun hHeld => ?_); clear hK K'; try simp only [Act.put, List.setIfInBounds_toArray, List.set_cons_zero, List.set_cons_succ])
      refine wpAnyH_ready (rs := [0]) (by kernel_rfl) (by simp) (AllReadyH.cons (by simp only [List.getElem?_toArray, List.getElem?_cons_succ, List.getElem?_cons_zero]; exact rfl) (fun K' hK => ?_) AllReadyH.nil)
      go_simp
      (refine hK.out _ _ (SixB.gr HS.out (Gr.alloc (Gr.alloc (Gr.drew (Gr.refl W4)) _) _)) (fun hHeld => ?_); clear hK K'; try simp only [Act.put, List.setIfInBounds_toArray, List.set_cons_zero, List.set_cons_succ])
      refine wpAnyH_ready (rs := [5]) (by kernel_rfl) (by simp) (AllReadyH.cons (by simp only [List.getElem?_toArray, List.getElem?_cons_succ, List.getElem?_cons_zero]; exact rfl) (fun K' hK => ?_) AllReadyH.nil)
      refine step_appNB (enc := bcs) rfl (.tmp 23) (.tmp 27) 28 rfl Try.underlying28 Try.infoB W4.heap.size (.slice (some ⟨W4.heap.size + 1, 0, none⟩) 0 0) ([] : List Blk) rfl (OwnE.empty (b := W4.heap.size + 1) (by refine heap_new' ?_; simp; done) (by omega)) rfl ?_
      (refine hK.out _ _ (SixB.gr HS.out (Gr.alloc (Gr.alloc (Gr.drew (Gr.refl W4)) _) _)) (fun hHeld => ?_); clear hK K'; try simp only [Act.put, List.setIfInBounds_toArray, List.set_cons_zero, List.set_cons_succ])
      refine wpAnyH_ready (rs := [8]) (by kernel_rfl) (by simp) (AllReadyH.cons (by simp only [List.getElem?_toArray, List.getElem?_cons_succ, List.getElem?_cons_zero]; exact rfl) (fun K' hK => ?_) AllReadyH.nil)
      refine step_appE bcs_len bcs_one rfl (.tmp 28) (.tmp 30) 28 rfl _ Try.underlying28 Try.infoB rfl (by decide) (by decide) W4.heap.size _ ([] : List Blk) rfl (OwnE.empty (b := W4.heap.size + 1) (by refine heap_new' ?_; simp; done) (by omega)) ⟨W4.heap.size, 0, none⟩ 1 1 [(x, y, u)] rfl rfl (fun j z hz => (Gr.alloc (Gr.refl _) _).keep0 (alloc_cells' (by simp; done) (by simpa [ecs, bcs] using hz))) (by have := HLN.out; have := HLE.out; simp; try omega) (by simp) (by (try simp); (try omega)) ?_; intro v8 w8 ho8 hb8 _ _; obtain ⟨A8, c8, e8, ho8⟩ := OwnE.eta ho8; skip; subst e8
      have B8 : Below W4.heap.size W4 w8 := ((Gr.alloc (Gr.alloc (Gr.drew (Gr.refl W4)) _) _).below).trans hb8
      have S8 := SixB.bel HS.out B8 (Nat.lt_of_succ_lt zz)
      have R8 := RbxB.bel HRB.out B8 zz
      have HO8 := Lib.hid ho8
      have HB8 := Lib.hid B8
      (refine hK.out _ _ (S8) (fun hHeld => ?_); clear hK K'; try simp only [Act.put, List.setIfInBounds_toArray, List.set_cons_zero, List.set_cons_succ])
      refine wpAnyH_ready (rs := [9]) (by kernel_rfl) (by simp) (AllReadyH.cons (by simp only [List.getElem?_toArray, List.getElem?_cons_succ, List.getElem?_cons_zero]; exact rfl) (fun K' hK => ?_) AllReadyH.nil)
      go_simp
      (refine hK.out _ _ (S8) (fun hHeld => ?_); clear hK K'; try simp only [Act.put, List.setIfInBounds_toArray, List.set_cons_zero, List.set_cons_succ])
      refine wpAnyH_done (by kernel_rfl) ?_ _
      have HS8 := Lib.hid S8
      have HR8 := Lib.hid R8
      clear S8 R8 ho8
      go_wp2
      refine wp_region_held_drew (S := fun W' => W'.cell? ⟨w.heap.size, 0, none⟩ = some (.int .i64 W) ∧ W'.cell? ⟨w.heap.size, 1, none⟩ = some (.int .i64 H) ∧ W'.cell? ⟨w.heap.size, 2, none⟩ = some (.slice none 0 0) ∧ W'.cell? ⟨w.heap.size + 1, 0, none⟩ = some (.int .i64 x) ∧ W'.cell? ⟨w.heap.size + 1, 1, none⟩ = some (.int .i64 y) ∧ W'.cell? ⟨w.heap.size + 1, 2, none⟩ = some (.bool u)) (by kernel_rfl) (SixB.gr HS8.out (Gr.drew (Gr.refl _))) (fun hHeld => ?_)
      (refine wpAnyH_take (i := 0) (v := ?_) (by simp only [List.getElem?_toArray, List.getElem?_cons_succ, List.getElem?_cons_zero]; exact rfl) (by kernel_rfl) (by kernel_rfl) (by kernel_rfl) (by intro _ _ _ h; exact h) (Or.inl ⟨by rfl, ?_⟩) (by assumption) ?_; rotate_left; (focus (intro w' hSw; (try dsimp only at hSw); go_simp; (try with_reducible rfl))); try simp only [Act.put, List.setIfInBounds_toArray, List.set_cons_zero, List.set_cons_succ])
      (refine wpAnyH_take (i := 1) (v := ?_) (by simp only [List.getElem?_toArray, List.getElem?_cons_succ, List.getElem?_cons_zero]; exact rfl) (by kernel_rfl) (by kernel_rfl) (by kernel_rfl) (by intro _ _ _ h; exact h) (Or.inl ⟨by rfl, ?_⟩) (by assumption) ?_; rotate_left; (focus (intro w' hSw; (try dsimp only at hSw); go_simp; (try with_reducible rfl))); try simp only [Act.put, List.setIfInBounds_toArray, List.set_cons_zero, List.set_cons_succ])
      (refine wpAnyH_take (i := 2) (v := ?_) (by simp only [List.getElem?_toArray, List.getElem?_cons_succ, List.getElem?_cons_zero]; exact rfl) (by kernel_rfl) (by kernel_rfl) (by kernel_rfl) (by intro _ _ _ h; exact h) (Or.inl ⟨by rfl, ?_⟩) (by assumption) ?_; rotate_left; (focus (intro w' hSw; (try dsimp only at hSw); go_simp; (try with_reducible rfl))); try simp only [Act.put, List.setIfInBounds_toArray, List.set_cons_zero, List.set_cons_succ])
      (refine wpAnyH_take (i := 3) (v := ?_) (by simp only [List.getElem?_toArray, List.getElem?_cons_succ, List.getElem?_cons_zero]; exact rfl) (by kernel_rfl) (by kernel_rfl) (by kernel_rfl) (by intro _ _ _ h; exact h) (Or.inl ⟨by rfl, ?_⟩) (by assumption) ?_; rotate_left; (focus (intro w' hSw; (try dsimp only at hSw); go_simp; (try with_reducible rfl))); try simp only [Act.put, List.setIfInBounds_toArray, List.set_cons_zero, List.set_cons_succ])
      (refine wpAnyH_take (i := 4) (v := ?_) (by simp only [List.getElem?_toArray, List.getElem?_cons_succ, List.getElem?_cons_zero]; exact rfl) (by kernel_rfl) (by kernel_rfl) (by kernel_rfl) (by intro _ _ _ h; exact h) (Or.inl ⟨by rfl, ?_⟩) (by assumption) ?_; rotate_left; (focus (intro w' hSw; (try dsimp only at hSw); go_simp; (try with_reducible rfl))); try simp only [Act.put, List.setIfInBounds_toArray, List.set_cons_zero, List.set_cons_succ])
      (refine wpAnyH_take (i := 5) (v := ?_) (by simp only [List.getElem?_toArray, List.getElem?_cons_succ, List.getElem?_cons_zero]; exact rfl) (by kernel_rfl) (by kernel_rfl) (by kernel_rfl) (by intro _ _ _ h; exact h) (Or.inl ⟨by rfl, ?_⟩) (by assumption) ?_; rotate_left; (focus (intro w' hSw; (try dsimp only at hSw); go_simp; (try with_reducible rfl))); try simp only [Act.put, List.setIfInBounds_toArray, List.set_cons_zero, List.set_cons_succ])
      (refine wpAnyH_take (i := 6) (v := ?_) (by simp only [List.getElem?_toArray, List.getElem?_cons_succ, List.getElem?_cons_zero]; exact rfl) (by kernel_rfl) (by kernel_rfl) (by kernel_rfl) (by intro _ _ _ h; exact h) (Or.inl ⟨by rfl, ?_⟩) (by assumption) ?_; rotate_left; (focus (intro w' hSw; (try dsimp only at hSw); go_simp; (try with_reducible rfl))); try simp only [Act.put, List.setIfInBounds_toArray, List.set_cons_zero, List.set_cons_succ])
      (refine wpAnyH_take (i := 7) (v := ?_) (by simp only [List.getElem?_toArray, List.getElem?_cons_succ, List.getElem?_cons_zero]; exact rfl) (by kernel_rfl) (by kernel_rfl) (by kernel_rfl) (by intro _ _ _ h; exact h) (Or.inl ⟨by rfl, ?_⟩) (by assumption) ?_; rotate_left; (focus (intro w' hSw; (try dsimp only at hSw); go_simp; (try with_reducible rfl))); try simp only [Act.put, List.setIfInBounds_toArray, List.set_cons_zero, List.set_cons_succ])
      (refine wpAnyH_take (i := 8) (v := ?_) (by simp only [List.getElem?_toArray, List.getElem?_cons_succ, List.getElem?_cons_zero]; exact rfl) (by kernel_rfl) (by kernel_rfl) (by kernel_rfl) (by intro _ _ _ h; exact h) (Or.inl ⟨by rfl, ?_⟩) (by assumption) ?_; rotate_left; (focus (intro w' hSw; (try dsimp only at hSw); go_simp; (try with_reducible rfl))); try simp only [Act.put, List.setIfInBounds_toArray, List.set_cons_zero, List.set_cons_succ])
      refine wpAnyH_ready (rs := [9]) (by kernel_rfl) (by simp) (AllReadyH.cons (by simp only [List.getElem?_toArray, List.getElem?_cons_succ, List.getElem?_cons_zero]; exact rfl) (fun K' hK => ?_) AllReadyH.nil)
      refine step_appNB (enc := bcs) rfl (.tmp 36) (.tmp 40) 28 rfl Try.underlying28 Try.infoB W4.heap.size _ ([] ++ [(x, y, u)]) rfl (OwnE.gr HO8.out (Gr.drew (Gr.refl _))) rfl ?_
      have S9 := SixB.gr HS8.out (Gr.drew (Gr.refl _))
      have R9 := HR8.out
      have ho9 := OwnE.gr HO8.out (Gr.drew (Gr.refl w8))
      have D9 : Below W4.heap.size W4 w8.drew := Below.drew HB8.out
      (refine hK.out _ _ (S9) (fun hHeld => ?_); clear hK K'; try simp only [Act.put, List.setIfInBounds_toArray, List.set_cons_zero, List.set_cons_succ])
      refine wpAnyH_ready (rs := [10]) (by kernel_rfl) (by simp) (AllReadyH.cons (by simp only [List.getElem?_toArray, List.getElem?_cons_succ, List.getElem?_cons_zero]; exact rfl) (fun K' hK => ?_) AllReadyH.nil)
      go_simp
      (refine hK.out _ _ (S9) (fun hHeld => ?_); clear hK K'; try simp only [Act.put, List.setIfInBounds_toArray, List.set_cons_zero, List.set_cons_succ])
      have r0 := R9.1
      have r1 := R9.2.1
      have r2 := R9.2.2.1
      have rf := R9.2.2.2
      refine wpAnyH_ready (rs := [11]) (by kernel_rfl) (by simp) (AllReadyH.cons (by simp only [List.getElem?_toArray, List.getElem?_cons_succ, List.getElem?_cons_zero]; exact rfl) (fun K' hK => ?_) AllReadyH.nil)
      go_simp
      (refine hK.out _ _ (SixB.set (SixB.set (SixB.set S9))) (fun hHeld => ?_); clear hK K'; try simp only [Act.put, List.setIfInBounds_toArray, List.set_cons_zero, List.set_cons_succ])
      refine wpAnyH_done (by kernel_rfl) ?_ _
      go_wp2
      refine bodyPost_ret (v := .agg #[.int .i64 W, .int .i64 H, .slice A8 ([] ++ [(x, y, u)] : List Blk).length c8]) (by simp [results, Try.results31, go_sem, r0, r1, r2]) rfl ⟨_, rfl, ?_, ?_⟩
      · exact OwnE.mono (OwnE.setOther (a := ⟨w.heap.size + 2, 2, none⟩) (OwnE.setOther (a := ⟨w.heap.size + 2, 1, none⟩) (OwnE.setOther (a := ⟨w.heap.size + 2, 0, none⟩) ho9 zz _) zz _) zz _) (by omega)
      · exact (((GG.out.below.trans (D9.mono GG.out.below.size)).setCell (by simp; omega) _).setCell (by simp; omega) _).setCell (by simp; omega) _
  · by_cases hck : c = plc ps (x, y, u)
    · have hfl : ps.length ≤ plc ps (x, y, u) := by omega
      have HLE := Lib.hid (plc_le ps (x, y, u))
      have HK1 := Lib.hid (show (ps.take (plc ps (x, y, u))).length = plc ps (x, y, u) by have := HLE.out; simp; omega)
      have HK2 := Lib.hid (show (ps.drop (plc ps (x, y, u))).length = ps.length - plc ps (x, y, u) by simp)
      have HP1 := Lib.hid (show ∀ j z, (ecs bcs (ps.take (plc ps (x, y, u))))[j]? = some z → w.cell? ((⟨g, 0, none⟩ : Addr).add j) = some z by have := OwnE.reads bcs_len h rfl 0 (plc ps (x, y, u)) (by have := HLE.out; omega); simpa using this)
      have HP2 := Lib.hid (show ∀ j z, (ecs bcs (ps.drop (plc ps (x, y, u))))[j]? = some z → w.cell? ((⟨g, plc ps (x, y, u) * 3, none⟩ : Addr).add j) = some z by have := OwnE.reads bcs_len h rfl (plc ps (x, y, u)) (ps.length - plc ps (x, y, u)) (by have := HLE.out; omega); rwa [List.take_of_length_le (by simp)] at this)
      have HBF := Lib.hid (plc_before ps (x, y, u))
      have HAT := Lib.hid (plc_at ps (x, y, u))
      have HEL := Lib.hid (fun j hj => OwnB.at h rfl j hj)
      obtain ⟨R, hR⟩ : ∃ R, ins ps (x, y, u) = R := ⟨_, rfl⟩
      have HINS := Lib.hid (show (ps.take (plc ps (x, y, u)) ++ [(x, y, u)]) ++ [] = R by rw [← hR]; unfold ins; rw [List.drop_eq_nil_of_le (by omega)]; simp)
      rw [hR]
      generalize plc ps (x, y, u) = pk at *
      have HCK := Lib.hid hck
      have HFL := Lib.hid hfl
      clear h hu hl hR hall hck hfl
      have gW : Gr w (((w.alloc (.cells #[.int .i64 W, .int .i64 H, .slice (some ⟨g, 0, none⟩) ps.length c] 30)).alloc (.cells #[.int .i64 x, .int .i64 y, .bool u] 34)).alloc (.cells #[.int .i64 0, .int .i64 0, .slice none 0 0] 30)) := Gr.alloc (Gr.alloc (Gr.alloc (Gr.refl _) _) _) _
      have sX : SixB (((w.alloc (.cells #[.int .i64 W, .int .i64 H, .slice (some ⟨g, 0, none⟩) ps.length c] 30)).alloc (.cells #[.int .i64 x, .int .i64 y, .bool u] 34)).alloc (.cells #[.int .i64 0, .int .i64 0, .slice none 0 0] 30)) w.heap.size W H (.slice (some ⟨g, 0, none⟩) ps.length c) x y u := ⟨by simp [go_sem], by simp [go_sem], by simp [go_sem], by simp [go_sem], by simp [go_sem], by simp [go_sem]⟩
      have rX : RbxB (((w.alloc (.cells #[.int .i64 W, .int .i64 H, .slice (some ⟨g, 0, none⟩) ps.length c] 30)).alloc (.cells #[.int .i64 x, .int .i64 y, .bool u] 34)).alloc (.cells #[.int .i64 0, .int .i64 0, .slice none 0 0] 30)) w.heap.size := ⟨by simp [go_sem], by simp [go_sem], by simp [go_sem], fun o => by simp [go_sem]⟩
      generalize hX : ((w.alloc (.cells #[.int .i64 W, .int .i64 H, .slice (some ⟨g, 0, none⟩) ps.length c] 30)).alloc (.cells #[.int .i64 x, .int .i64 y, .bool u] 34)).alloc (.cells #[.int .i64 0, .int .i64 0, .slice none 0 0] 30) = X at *
      have GW := Lib.hid gW
      have SX := Lib.hid sX
      have RX := Lib.hid rX
      clear gW sX rX
      go_enter Try.func31, Try.ntmps31
      go_wp2
      try rw [hX]
      clear hX
      go_loopw [5] (fun i wr => CkRel pk X i wr) (fun i _ => pk - (intOf i).toNat)
      case atStart => exact ⟨Gr.refl _, 0, Nat.zero_le _, rfl⟩
      case round =>
        obtain ⟨gr, k, hk, rfl⟩ := hrel
        have f0 := gr_all gr SX.out.2.2.1
        have f1 := gr_all gr SX.out.2.2.2.1
        have f2 := gr_all gr SX.out.2.2.2.2.1
        have f3 := gr_all gr SX.out.2.2.2.2.2
        have GR := Lib.hid gr
        have z0 : (0 : Int) ≤ (k : Int) := by omega
        clear gr
        by_cases hlt : k < pk
        · have HLT := Lib.hid hlt
          rcases hq : ps.getD k b0 with ⟨q0, q1, q2⟩
          obtain ⟨ec0, ec1, ec2, _⟩ := HEL.out k (by have := HLE.out; omega)
          rw [hq] at ec0 ec1 ec2
          simp only at ec0 ec1 ec2
          have h0 := gr_all (GW.out.trans GR.out) ec0
          have h1 := gr_all (GW.out.trans GR.out) ec1
          have h2 := gr_all (GW.out.trans GR.out) ec2
          have z1 : (k : Int) < (ps.length : Int) := by have := HLE.out; omega
          have z2 : decide ((k : Int) < (ps.length : Int)) = true := decide_eq_true z1
          have z3 : decide (k < ps.length) = true := decide_eq_true (by omega)
          have H4 := Lib.hid (show decide (Lt (q0, q1, q2) (x, y, u)) = true from decide_eq_true (by have := HBF.out k hlt; rw [hq] at this; exact this))
          have zk : (k : Int) < 200 := by have := HLN.out; have := HLE.out; have := HLT.out; omega
          clear ec0 ec1 ec2 hq hlt
          go_wp2
          (refine wp_region_quiet_grown mixed (by kernel_rfl) ?_; (repeat (first | go_big_quiet_step ((first | (go_at_call 51; exact Calls.grown_of (Try.avLess (q0, q1, q2) (x, y, u) _ H4.out _)))) | quiet_step ((first | (go_at_call 51; exact Calls.grown_of (Try.avLess (q0, q1, q2) (x, y, u) _ H4.out _)))))); refine wpQuiet_nil ?_; intro _ hw'; obtain ⟨⟨nq, osq⟩, hw''⟩ := hw'; subst hw'')
          go_wp2
          go_roundw
          case rel => exact ⟨Gr.grow (Gr.drewN GR.out _) _, k + 1, HLT.out, by go_num⟩
          case measure => have := HLT.out; simp [intOf]; omega
        · obtain rfl : k = pk := by omega
          have HLL := Lib.hid (show k = ps.length by have := HLE.out; have := HFL.out; omega)
          have z2 : decide ((k : Int) < (ps.length : Int)) = false := decide_eq_false (by have := HLL.out; omega)
          have z2' : ¬ (k : Int) < (ps.length : Int) := by have := HLL.out; omega
          have z3 : decide (k < ps.length) = false := decide_eq_false (by have := HLL.out; omega)
          clear hlt
          go_wp2
          (refine wp_region_quiet_grown mixed (by kernel_rfl) ?_; (repeat (first | go_big_quiet_step (skip) | quiet_step (skip))); refine wpQuiet_nil ?_; intro _ hw'; obtain ⟨⟨nq, osq⟩, hw''⟩ := hw'; subst hw'')
          go_wp2
          have hc2 : k ≤ c := by have := HLL.out; omega
          have zc1 : (k : Int) ≤ (c : Int) := by omega
          have zc2 : c = k := HCK.out
          have zc3 : (ps.length : Int) ≤ (c : Int) := by omega
          have zc4 : (k : Int) ≤ (ps.length : Int) := by have := HLL.out; omega
          have zc5 : k ≤ ps.length := by have := HLL.out; omega
          obtain ⟨W4, hW4⟩ : ∃ W4, W4 = Go.Sort.grow (wr.drewN nq) osq := ⟨_, rfl⟩
          rw [← hW4]
          have gX4 : Gr X W4 := by rw [hW4]; exact Gr.grow (Gr.drewN GR.out _) _
          have GG := Lib.hid (GW.out.trans gX4)
          have HS := Lib.hid (SixB.gr SX.out gX4)
          have HRB := Lib.hid (RbxB.bel RX.out gX4.below (show w.heap.size + 2 < X.heap.size from World.block_lt_of_cell? _ _ RX.out.1))
          have zz : w.heap.size + 2 < W4.heap.size := World.block_lt_of_cell? _ _ HRB.out.1
          have HQ1 := Lib.hid (fun j z hz => (GG.out.keep0 (HP1.out j z hz)))
          have HQ2 := Lib.hid (fun j z hz => (GG.out.keep0 (HP2.out j z hz)))
          clear gX4 hW4
          refine wp_region_held_drew (S := fun W' => W'.cell? ⟨w.heap.size, 0, none⟩ = some (.int .i64 W) ∧ W'.cell? ⟨w.heap.size, 1, none⟩ = some (.int .i64 H) ∧ W'.cell? ⟨w.heap.size, 2, none⟩ = some (.slice (some ⟨g, 0, none⟩) ps.length c) ∧ W'.cell? ⟨w.heap.size + 1, 0, none⟩ = some (.int .i64 x) ∧ W'.cell? ⟨w.heap.size + 1, 1, none⟩ = some (.int .i64 y) ∧ W'.cell? ⟨w.heap.size + 1, 2, none⟩ = some (.bool u)) (by kernel_rfl) (SixB.gr HS.out (Gr.drew (Gr.refl W4))) (fun hHeld => ?_)
          (refine wpAnyH_take (i := 1) (v := ?_) (by simp only [List.getElem?_toArray, List.getElem?_cons_succ, List.getElem?_cons_zero]; exact rfl) (by kernel_rfl) (by kernel_rfl) (by kernel_rfl) (by intro _ _ _ h; exact h) (Or.inl ⟨by rfl, ?_⟩) (by assumption) ?_; rotate_left; (focus (intro w' hSw; (try dsimp only at hSw); go_simp; (try with_reducible rfl))); try simp only [Act.put, List.setIfInBounds_toArray, List.set_cons_zero, List.set_cons_succ])
          (refine wpAnyH_take (i := 2) (v := ?_) (by simp only [List.getElem?_toArray, List.getElem?_cons_succ, List.getElem?_cons_zero]; exact rfl) (by kernel_rfl) (by kernel_rfl) (by kernel_rfl) (by intro _ _ _ h; exact h) (Or.inl ⟨by rfl, ?_⟩) (by assumption) ?_; rotate_left; (focus (intro w' hSw; (try dsimp only at hSw); go_simp; (try with_reducible rfl))); try simp only [Act.put, List.setIfInBounds_toArray, List.set_cons_zero, List.set_cons_succ])
          (refine wpAnyH_take (i := 3) (v := ?_) (by simp only [List.getElem?_toArray, List.getElem?_cons_succ, List.getElem?_cons_zero]; exact rfl) (by kernel_rfl) (by kernel_rfl) (by kernel_rfl) (by intro _ _ _ h; exact h) (Or.inl ⟨by rfl, ?_⟩) (by assumption) ?_; rotate_left; (focus (intro w' hSw; (try dsimp only at hSw); go_simp; (try with_reducible rfl))); try simp only [Act.put, List.setIfInBounds_toArray, List.set_cons_zero, List.set_cons_succ])
          (refine wpAnyH_take (i := 4) (v := ?_) (by simp only [List.getElem?_toArray, List.getElem?_cons_succ, List.getElem?_cons_zero]; exact rfl) (by kernel_rfl) (by kernel_rfl) (by kernel_rfl) (by intro _ _ _ h; exact h) (Or.inl ⟨by rfl, ?_⟩) (by assumption) ?_; rotate_left; (focus (intro w' hSw; (try dsimp only at hSw); go_simp; (try with_reducible rfl))); try simp only [Act.put, List.setIfInBounds_toArray, List.set_cons_zero, List.set_cons_succ])
          (refine wpAnyH_take (i := 6) (v := ?_) (by simp only [List.getElem?_toArray, List.getElem?_cons_succ, List.getElem?_cons_zero]; exact rfl) (by kernel_rfl) (by kernel_rfl) (by kernel_rfl) (by intro _ _ _ h; exact h) (Or.inl ⟨by rfl, ?_⟩) (by assumption) ?_; rotate_left; (focus (intro w' hSw; (try dsimp only at hSw); go_simp; (try with_reducible rfl))); try simp only [Act.put, List.setIfInBounds_toArray, List.set_cons_zero, List.set_cons_succ])
          refine wpAnyH_ready (rs := [0, 7]) (by kernel_rfl) (by simp) (AllReadyH.cons (by simp only [List.getElem?_toArray, List.getElem?_cons_succ, List.getElem?_cons_zero]; exact rfl) (fun K' hK => ?_) (AllReadyH.cons (by simp only [List.getElem?_toArray, List.getElem?_cons_succ, List.getElem?_cons_zero]; exact rfl) (fun K' hK => ?_) AllReadyH.nil))
          · go_simp
            (refine hK.out _ _ (SixB.gr HS.out (Gr.alloc (Gr.drew (Gr.refl W4)) _)) (fun hHeld => ?_); clear hK K'; try simp only [Act.put, List.setIfInBounds_toArray, List.set_cons_zero, List.set_cons_succ])
            refine wpAnyH_ready (rs := [5, 7]) (by kernel_rfl) (by simp) (AllReadyH.cons (by simp only [List.getElem?_toArray, List.getElem?_cons_succ, List.getElem?_cons_zero]; exact rfl) (fun K' hK => ?_) (AllReadyH.cons (by simp only [List.getElem?_toArray, List.getElem?_cons_succ, List.getElem?_cons_zero]; exact rfl) (fun K' hK => ?_) AllReadyH.nil))
            · refine step_appE bcs_len bcs_one rfl (.tmp 23) (.tmp 27) 28 rfl _ Try.underlying28 Try.infoB rfl (by decide) (by decide) W4.heap.size (.slice (some ⟨W4.heap.size, 0, none⟩) 0 0) [] rfl (OwnE.empty (b := W4.heap.size) (by refine heap_new' ?_; simp; done) (by omega)) ⟨g, 0, none⟩ k k (ps.take k) rfl HK1.out (fun j z hz => (show Gr W4 _ from (Gr.alloc (Gr.drew (Gr.refl W4)) _)).keep0 (HQ1.out j z hz)) (by simp) (by have := HK1.out; have := HLN.out; have := HLE.out; omega) (by (try simp); (try omega)) ?_; intro v1 w1 ho1 hb1 gb1 _; rw [List.nil_append] at ho1; obtain ⟨A1, c1, e1, ho1⟩ := OwnE.eta ho1; rw [HK1.out] at e1 ho1; subst e1
              have B1 : Below W4.heap.size W4 w1 := (Gr.alloc (Gr.drew (Gr.refl W4)) _).below.trans hb1
              (refine hK.out _ _ (SixB.bel HS.out B1 (Nat.lt_of_succ_lt zz)) (fun hHeld => ?_); clear hK K'; try simp only [Act.put, List.setIfInBounds_toArray, List.set_cons_zero, List.set_cons_succ])
              refine wpAnyH_ready (rs := [7]) (by kernel_rfl) (by simp) (AllReadyH.cons (by simp only [List.getElem?_toArray, List.getElem?_cons_succ, List.getElem?_cons_zero]; exact rfl) (fun K' hK => ?_) AllReadyH.nil)
              go_simp
              have B7 := B1.trans ((Gr.alloc (Gr.refl w1) (Obj.cells #[.int .i64 x, .int .i64 y, .bool u] 34)).below.mono B1.size)
              (refine hK.out _ _ (SixB.bel HS.out B7 (Nat.lt_of_succ_lt zz)) (fun hHeld => ?_); clear hK K'; try simp only [Act.put, List.setIfInBounds_toArray, List.set_cons_zero, List.set_cons_succ])
              refine wpAnyH_ready (rs := [8]) (by kernel_rfl) (by simp) (AllReadyH.cons (by simp only [List.getElem?_toArray, List.getElem?_cons_succ, List.getElem?_cons_zero]; exact rfl) (fun K' hK => ?_) AllReadyH.nil)
              refine step_appE bcs_len bcs_one rfl (.tmp 28) (.tmp 30) 28 rfl _ Try.underlying28 Try.infoB rfl (by decide) (by decide) W4.heap.size _ (ps.take k) rfl (OwnE.gr ho1 (Gr.alloc (Gr.refl _) _)) ⟨w1.heap.size, 0, none⟩ 1 1 [(x, y, u)] rfl rfl (fun j z hz => alloc_cells (by simpa [ecs, bcs] using hz)) (by have := HLN.out; have := HLE.out; simp; try omega) (by simp) (by have q := Below.size (B7); (try simp at q); (try simp); (try omega)) ?_; intro v8 w8 ho8 hb8 _ _; obtain ⟨A8, c8, e8, ho8⟩ := OwnE.eta ho8; rw [show (ps.take k ++ [(x, y, u)]).length = k + 1 by rw [List.length_append, HK1.out]; rfl] at e8 ho8; subst e8
              have B8 : Below W4.heap.size W4 w8 := (B7).trans hb8
              have S8 := SixB.bel HS.out B8 (Nat.lt_of_succ_lt zz)
              have R8 := RbxB.bel HRB.out B8 zz
              have HO8 := Lib.hid ho8
              have HB8 := Lib.hid B8
              (refine hK.out _ _ (S8) (fun hHeld => ?_); clear hK K'; try simp only [Act.put, List.setIfInBounds_toArray, List.set_cons_zero, List.set_cons_succ])
              refine wpAnyH_ready (rs := [9]) (by kernel_rfl) (by simp) (AllReadyH.cons (by simp only [List.getElem?_toArray, List.getElem?_cons_succ, List.getElem?_cons_zero]; exact rfl) (fun K' hK => ?_) AllReadyH.nil)
              go_simp
              (refine hK.out _ _ (S8) (fun hHeld => ?_); clear hK K'; try simp only [Act.put, List.setIfInBounds_toArray, List.set_cons_zero, List.set_cons_succ])
              refine wpAnyH_done (by kernel_rfl) ?_ _
              have HS8 := Lib.hid S8
              have HR8 := Lib.hid R8
              clear S8 R8 ho8
              go_wp2
              refine wp_region_held_drew (S := fun W' => W'.cell? ⟨w.heap.size, 0, none⟩ = some (.int .i64 W) ∧ W'.cell? ⟨w.heap.size, 1, none⟩ = some (.int .i64 H) ∧ W'.cell? ⟨w.heap.size, 2, none⟩ = some (.slice (some ⟨g, 0, none⟩) ps.length c) ∧ W'.cell? ⟨w.heap.size + 1, 0, none⟩ = some (.int .i64 x) ∧ W'.cell? ⟨w.heap.size + 1, 1, none⟩ = some (.int .i64 y) ∧ W'.cell? ⟨w.heap.size + 1, 2, none⟩ = some (.bool u)) (by kernel_rfl) (SixB.gr HS8.out (Gr.drew (Gr.refl _))) (fun hHeld => ?_)
              (refine wpAnyH_take (i := 0) (v := ?_) (by simp only [List.getElem?_toArray, List.getElem?_cons_succ, List.getElem?_cons_zero]; exact rfl) (by kernel_rfl) (by kernel_rfl) (by kernel_rfl) (by intro _ _ _ h; exact h) (Or.inl ⟨by rfl, ?_⟩) (by assumption) ?_; rotate_left; (focus (intro w' hSw; (try dsimp only at hSw); go_simp; (try with_reducible rfl))); try simp only [Act.put, List.setIfInBounds_toArray, List.set_cons_zero, List.set_cons_succ])
              (refine wpAnyH_take (i := 1) (v := ?_) (by simp only [List.getElem?_toArray, List.getElem?_cons_succ, List.getElem?_cons_zero]; exact rfl) (by kernel_rfl) (by kernel_rfl) (by kernel_rfl) (by intro _ _ _ h; exact h) (Or.inl ⟨by rfl, ?_⟩) (by assumption) ?_; rotate_left; (focus (intro w' hSw; (try dsimp only at hSw); go_simp; (try with_reducible rfl))); try simp only [Act.put, List.setIfInBounds_toArray, List.set_cons_zero, List.set_cons_succ])
              (refine wpAnyH_take (i := 2) (v := ?_) (by simp only [List.getElem?_toArray, List.getElem?_cons_succ, List.getElem?_cons_zero]; exact rfl) (by kernel_rfl) (by kernel_rfl) (by kernel_rfl) (by intro _ _ _ h; exact h) (Or.inl ⟨by rfl, ?_⟩) (by assumption) ?_; rotate_left; (focus (intro w' hSw; (try dsimp only at hSw); go_simp; (try with_reducible rfl))); try simp only [Act.put, List.setIfInBounds_toArray, List.set_cons_zero, List.set_cons_succ])
              (refine wpAnyH_take (i := 3) (v := ?_) (by simp only [List.getElem?_toArray, List.getElem?_cons_succ, List.getElem?_cons_zero]; exact rfl) (by kernel_rfl) (by kernel_rfl) (by kernel_rfl) (by intro _ _ _ h; exact h) (Or.inl ⟨by rfl, ?_⟩) (by assumption) ?_; rotate_left; (focus (intro w' hSw; (try dsimp only at hSw); go_simp; (try with_reducible rfl))); try simp only [Act.put, List.setIfInBounds_toArray, List.set_cons_zero, List.set_cons_succ])
              (refine wpAnyH_take (i := 4) (v := ?_) (by simp only [List.getElem?_toArray, List.getElem?_cons_succ, List.getElem?_cons_zero]; exact rfl) (by kernel_rfl) (by kernel_rfl) (by kernel_rfl) (by intro _ _ _ h; exact h) (Or.inl ⟨by rfl, ?_⟩) (by assumption) ?_; rotate_left; (focus (intro w' hSw; (try dsimp only at hSw); go_simp; (try with_reducible rfl))); try simp only [Act.put, List.setIfInBounds_toArray, List.set_cons_zero, List.set_cons_succ])
              (refine wpAnyH_take (i := 5) (v := ?_) (by simp only [List.getElem?_toArray, List.getElem?_cons_succ, List.getElem?_cons_zero]; exact rfl) (by kernel_rfl) (by kernel_rfl) (by kernel_rfl) (by intro _ _ _ h; exact h) (Or.inl ⟨by rfl, ?_⟩) (by assumption) ?_; rotate_left; (focus (intro w' hSw; (try dsimp only at hSw); go_simp; (try with_reducible rfl))); try simp only [Act.put, List.setIfInBounds_toArray, List.set_cons_zero, List.set_cons_succ])
              (refine wpAnyH_take (i := 6) (v := ?_) (by simp only [List.getElem?_toArray, List.getElem?_cons_succ, List.getElem?_cons_zero]; exact rfl) (by kernel_rfl) (by kernel_rfl) (by kernel_rfl) (by intro _ _ _ h; exact h) (Or.inl ⟨by rfl, ?_⟩) (by assumption) ?_; rotate_left; (focus (intro w' hSw; (try dsimp only at hSw); go_simp; (try with_reducible rfl))); try simp only [Act.put, List.setIfInBounds_toArray, List.set_cons_zero, List.set_cons_succ])
              (refine wpAnyH_take (i := 7) (v := ?_) (by simp only [List.getElem?_toArray, List.getElem?_cons_succ, List.getElem?_cons_zero]; exact rfl) (by kernel_rfl) (by kernel_rfl) (by kernel_rfl) (by intro _ _ _ h; exact h) (Or.inl ⟨by rfl, ?_⟩) (by assumption) ?_; rotate_left; (focus (intro w' hSw; (try dsimp only at hSw); go_simp; (try with_reducible rfl))); try simp only [Act.put, List.setIfInBounds_toArray, List.set_cons_zero, List.set_cons_succ])
              (refine wpAnyH_take (i := 8) (v := ?_) (by simp only [List.getElem?_toArray, List.getElem?_cons_succ, List.getElem?_cons_zero]; exact rfl) (by kernel_rfl) (by kernel_rfl) (by kernel_rfl) (by intro _ _ _ h; exact h) (Or.inl ⟨by rfl, ?_⟩) (by assumption) ?_; rotate_left; (focus (intro w' hSw; (try dsimp only at hSw); go_simp; (try with_reducible rfl))); try simp only [Act.put, List.setIfInBounds_toArray, List.set_cons_zero, List.set_cons_succ])
              refine wpAnyH_ready (rs := [9]) (by kernel_rfl) (by simp) (AllReadyH.cons (by simp only [List.getElem?_toArray, List.getElem?_cons_succ, List.getElem?_cons_zero]; exact rfl) (fun K' hK => ?_) AllReadyH.nil)
              refine step_appE bcs_len bcs_one rfl (.tmp 36) (.tmp 40) 28 rfl _ Try.underlying28 Try.infoB rfl (by decide) (by decide) W4.heap.size _ (ps.take k ++ [(x, y, u)]) rfl (OwnE.gr HO8.out (Gr.drew (Gr.refl _))) ⟨g, 0, none⟩ (ps.length - k) 0 [] rfl (by have := HLL.out; simp; omega) (fun j z hz => by simp [ecs] at hz) (by have := HLN.out; have := HLE.out; simp; try omega) (by have := HLN.out; simp; try omega) (by have := (Below.drew HB8.out).size; exact this) ?_; intro v9 w9 ho9 hb9 _ _
              have e9 := HINS.out
              rw [e9] at ho9
              obtain ⟨A9, c9, rfl, ho9⟩ := OwnE.eta ho9
              have D9 : Below W4.heap.size W4 w9 := (Below.drew HB8.out).trans hb9
              have S9 := SixB.bel HS.out D9 (Nat.lt_of_succ_lt zz)
              have R9 := RbxB.bel HRB.out D9 zz
              (refine hK.out _ _ (S9) (fun hHeld => ?_); clear hK K'; try simp only [Act.put, List.setIfInBounds_toArray, List.set_cons_zero, List.set_cons_succ])
              refine wpAnyH_ready (rs := [10]) (by kernel_rfl) (by simp) (AllReadyH.cons (by simp only [List.getElem?_toArray, List.getElem?_cons_succ, List.getElem?_cons_zero]; exact rfl) (fun K' hK => ?_) AllReadyH.nil)
              go_simp
              (refine hK.out _ _ (S9) (fun hHeld => ?_); clear hK K'; try simp only [Act.put, List.setIfInBounds_toArray, List.set_cons_zero, List.set_cons_succ])
              have r0 := R9.1
              have r1 := R9.2.1
              have r2 := R9.2.2.1
              have rf := R9.2.2.2
              refine wpAnyH_ready (rs := [11]) (by kernel_rfl) (by simp) (AllReadyH.cons (by simp only [List.getElem?_toArray, List.getElem?_cons_succ, List.getElem?_cons_zero]; exact rfl) (fun K' hK => ?_) AllReadyH.nil)
              go_simp
              (refine hK.out _ _ (SixB.set (SixB.set (SixB.set S9))) (fun hHeld => ?_); clear hK K'; try simp only [Act.put, List.setIfInBounds_toArray, List.set_cons_zero, List.set_cons_succ])
              refine wpAnyH_done (by kernel_rfl) ?_ _
              go_wp2
              refine bodyPost_ret (v := .agg #[.int .i64 W, .int .i64 H, .slice A9 R.length c9]) (by simp [results, Try.results31, go_sem, r0, r1, r2]) rfl ⟨_, rfl, ?_, ?_⟩
              · exact OwnE.mono (OwnE.setOther (a := ⟨w.heap.size + 2, 2, none⟩) (OwnE.setOther (a := ⟨w.heap.size + 2, 1, none⟩) (OwnE.setOther (a := ⟨w.heap.size + 2, 0, none⟩) ho9 zz _) zz _) zz _) (by omega)
              · exact (((GG.out.below.trans (D9.mono GG.out.below.size)).setCell (by simp; omega) _).setCell (by simp; omega) _).setCell (by simp; omega) _
            · go_simp
              (refine hK.out _ _ (SixB.gr HS.out (Gr.alloc (Gr.alloc (Gr.drew (Gr.refl W4)) _) _)) (fun hHeld => ?_); clear hK K'; try simp only [Act.put, List.setIfInBounds_toArray, List.set_cons_zero, List.set_cons_succ])
              refine wpAnyH_ready (rs := [5]) (by kernel_rfl) (by simp) (AllReadyH.cons (by simp only [List.getElem?_toArray, List.getElem?_cons_succ, List.getElem?_cons_zero]; exact rfl) (fun K' hK => ?_) AllReadyH.nil)
              refine step_appE bcs_len bcs_one rfl (.tmp 23) (.tmp 27) 28 rfl _ Try.underlying28 Try.infoB rfl (by decide) (by decide) W4.heap.size (.slice (some ⟨W4.heap.size, 0, none⟩) 0 0) [] rfl (OwnE.empty (b := W4.heap.size) (((Gr.alloc (Gr.refl _) _).below.block W4.heap.size (by simp)).trans (by refine heap_new' ?_; simp; done)) (by omega)) ⟨g, 0, none⟩ k k (ps.take k) rfl HK1.out (fun j z hz => (show Gr W4 _ from (Gr.alloc (Gr.alloc (Gr.drew (Gr.refl W4)) _) _)).keep0 (HQ1.out j z hz)) (by simp) (by have := HK1.out; have := HLN.out; have := HLE.out; omega) (by (try simp); (try omega)) ?_; intro v1 w1 ho1 hb1 gb1 _; rw [List.nil_append] at ho1; obtain ⟨A1, c1, e1, ho1⟩ := OwnE.eta ho1; rw [HK1.out] at e1 ho1; subst e1
              have B1 : Below W4.heap.size W4 w1 := (Gr.alloc (Gr.alloc (Gr.drew (Gr.refl W4)) _) _).below.trans hb1
              (refine hK.out _ _ (SixB.bel HS.out B1 (Nat.lt_of_succ_lt zz)) (fun hHeld => ?_); clear hK K'; try simp only [Act.put, List.setIfInBounds_toArray, List.set_cons_zero, List.set_cons_succ])
              refine wpAnyH_ready (rs := [8]) (by kernel_rfl) (by simp) (AllReadyH.cons (by simp only [List.getElem?_toArray, List.getElem?_cons_succ, List.getElem?_cons_zero]; exact rfl) (fun K' hK => ?_) AllReadyH.nil)
              refine step_appE bcs_len bcs_one rfl (.tmp 28) (.tmp 30) 28 rfl _ Try.underlying28 Try.infoB rfl (by decide) (by decide) W4.heap.size _ (ps.take k) rfl (ho1) ⟨W4.heap.size + 1, 0, none⟩ 1 1 [(x, y, u)] rfl rfl (fun j z hz => gb1.cell (alloc_cells' (by simp; done) (by simpa [ecs, bcs] using hz)) (by cases j <;> simp [Value.ownBlock, Addr.add])) (by have := HLN.out; have := HLE.out; simp; try omega) (by simp) (by have q := Below.size (B1); (try simp at q); (try simp); (try omega)) ?_; intro v8 w8 ho8 hb8 _ _; obtain ⟨A8, c8, e8, ho8⟩ := OwnE.eta ho8; rw [show (ps.take k ++ [(x, y, u)]).length = k + 1 by rw [List.length_append, HK1.out]; rfl] at e8 ho8; subst e8
              have B8 : Below W4.heap.size W4 w8 := (B1).trans hb8
              have S8 := SixB.bel HS.out B8 (Nat.lt_of_succ_lt zz)
              have R8 := RbxB.bel HRB.out B8 zz
              have HO8 := Lib.hid ho8
              have HB8 := Lib.hid B8
              (refine hK.out _ _ (S8) (fun hHeld => ?_); clear hK K'; try simp only [Act.put, List.setIfInBounds_toArray, List.set_cons_zero, List.set_cons_succ])
              refine wpAnyH_ready (rs := [9]) (by kernel_rfl) (by simp) (AllReadyH.cons (by simp only [List.getElem?_toArray, List.getElem?_cons_succ, List.getElem?_cons_zero]; exact rfl) (fun K' hK => ?_) AllReadyH.nil)
              go_simp
              (refine hK.out _ _ (S8) (fun hHeld => ?_); clear hK K'; try simp only [Act.put, List.setIfInBounds_toArray, List.set_cons_zero, List.set_cons_succ])
              refine wpAnyH_done (by kernel_rfl) ?_ _
              have HS8 := Lib.hid S8
              have HR8 := Lib.hid R8
              clear S8 R8 ho8
              go_wp2
              refine wp_region_held_drew (S := fun W' => W'.cell? ⟨w.heap.size, 0, none⟩ = some (.int .i64 W) ∧ W'.cell? ⟨w.heap.size, 1, none⟩ = some (.int .i64 H) ∧ W'.cell? ⟨w.heap.size, 2, none⟩ = some (.slice (some ⟨g, 0, none⟩) ps.length c) ∧ W'.cell? ⟨w.heap.size + 1, 0, none⟩ = some (.int .i64 x) ∧ W'.cell? ⟨w.heap.size + 1, 1, none⟩ = some (.int .i64 y) ∧ W'.cell? ⟨w.heap.size + 1, 2, none⟩ = some (.bool u)) (by kernel_rfl) (SixB.gr HS8.out (Gr.drew (Gr.refl _))) (fun hHeld => ?_)
              (refine wpAnyH_take (i := 0) (v := ?_) (by simp only [List.getElem?_toArray, List.getElem?_cons_succ, List.getElem?_cons_zero]; exact rfl) (by kernel_rfl) (by kernel_rfl) (by kernel_rfl) (by intro _ _ _ h; exact h) (Or.inl ⟨by rfl, ?_⟩) (by assumption) ?_; rotate_left; (focus (intro w' hSw; (try dsimp only at hSw); go_simp; (try with_reducible rfl))); try simp only [Act.put, List.setIfInBounds_toArray, List.set_cons_zero, List.set_cons_succ])
              (refine wpAnyH_take (i := 1) (v := ?_) (by simp only [List.getElem?_toArray, List.getElem?_cons_succ, List.getElem?_cons_zero]; exact rfl) (by kernel_rfl) (by kernel_rfl) (by kernel_rfl) (by intro _ _ _ h; exact h) (Or.inl ⟨by rfl, ?_⟩) (by assumption) ?_; rotate_left; (focus (intro w' hSw; (try dsimp only at hSw); go_simp; (try with_reducible rfl))); try simp only [Act.put, List.setIfInBounds_toArray, List.set_cons_zero, List.set_cons_succ])
              (refine wpAnyH_take (i := 2) (v := ?_) (by simp only [List.getElem?_toArray, List.getElem?_cons_succ, List.getElem?_cons_zero]; exact rfl) (by kernel_rfl) (by kernel_rfl) (by kernel_rfl) (by intro _ _ _ h; exact h) (Or.inl ⟨by rfl, ?_⟩) (by assumption) ?_; rotate_left; (focus (intro w' hSw; (try dsimp only at hSw); go_simp; (try with_reducible rfl))); try simp only [Act.put, List.setIfInBounds_toArray, List.set_cons_zero, List.set_cons_succ])
              (refine wpAnyH_take (i := 3) (v := ?_) (by simp only [List.getElem?_toArray, List.getElem?_cons_succ, List.getElem?_cons_zero]; exact rfl) (by kernel_rfl) (by kernel_rfl) (by kernel_rfl) (by intro _ _ _ h; exact h) (Or.inl ⟨by rfl, ?_⟩) (by assumption) ?_; rotate_left; (focus (intro w' hSw; (try dsimp only at hSw); go_simp; (try with_reducible rfl))); try simp only [Act.put, List.setIfInBounds_toArray, List.set_cons_zero, List.set_cons_succ])
              (refine wpAnyH_take (i := 4) (v := ?_) (by simp only [List.getElem?_toArray, List.getElem?_cons_succ, List.getElem?_cons_zero]; exact rfl) (by kernel_rfl) (by kernel_rfl) (by kernel_rfl) (by intro _ _ _ h; exact h) (Or.inl ⟨by rfl, ?_⟩) (by assumption) ?_; rotate_left; (focus (intro w' hSw; (try dsimp only at hSw); go_simp; (try with_reducible rfl))); try simp only [Act.put, List.setIfInBounds_toArray, List.set_cons_zero, List.set_cons_succ])
              (refine wpAnyH_take (i := 5) (v := ?_) (by simp only [List.getElem?_toArray, List.getElem?_cons_succ, List.getElem?_cons_zero]; exact rfl) (by kernel_rfl) (by kernel_rfl) (by kernel_rfl) (by intro _ _ _ h; exact h) (Or.inl ⟨by rfl, ?_⟩) (by assumption) ?_; rotate_left; (focus (intro w' hSw; (try dsimp only at hSw); go_simp; (try with_reducible rfl))); try simp only [Act.put, List.setIfInBounds_toArray, List.set_cons_zero, List.set_cons_succ])
              (refine wpAnyH_take (i := 6) (v := ?_) (by simp only [List.getElem?_toArray, List.getElem?_cons_succ, List.getElem?_cons_zero]; exact rfl) (by kernel_rfl) (by kernel_rfl) (by kernel_rfl) (by intro _ _ _ h; exact h) (Or.inl ⟨by rfl, ?_⟩) (by assumption) ?_; rotate_left; (focus (intro w' hSw; (try dsimp only at hSw); go_simp; (try with_reducible rfl))); try simp only [Act.put, List.setIfInBounds_toArray, List.set_cons_zero, List.set_cons_succ])
              (refine wpAnyH_take (i := 7) (v := ?_) (by simp only [List.getElem?_toArray, List.getElem?_cons_succ, List.getElem?_cons_zero]; exact rfl) (by kernel_rfl) (by kernel_rfl) (by kernel_rfl) (by intro _ _ _ h; exact h) (Or.inl ⟨by rfl, ?_⟩) (by assumption) ?_; rotate_left; (focus (intro w' hSw; (try dsimp only at hSw); go_simp; (try with_reducible rfl))); try simp only [Act.put, List.setIfInBounds_toArray, List.set_cons_zero, List.set_cons_succ])
              (refine wpAnyH_take (i := 8) (v := ?_) (by simp only [List.getElem?_toArray, List.getElem?_cons_succ, List.getElem?_cons_zero]; exact rfl) (by kernel_rfl) (by kernel_rfl) (by kernel_rfl) (by intro _ _ _ h; exact h) (Or.inl ⟨by rfl, ?_⟩) (by assumption) ?_; rotate_left; (focus (intro w' hSw; (try dsimp only at hSw); go_simp; (try with_reducible rfl))); try simp only [Act.put, List.setIfInBounds_toArray, List.set_cons_zero, List.set_cons_succ])
              refine wpAnyH_ready (rs := [9]) (by kernel_rfl) (by simp) (AllReadyH.cons (by simp only [List.getElem?_toArray, List.getElem?_cons_succ, List.getElem?_cons_zero]; exact rfl) (fun K' hK => ?_) AllReadyH.nil)
              refine step_appE bcs_len bcs_one rfl (.tmp 36) (.tmp 40) 28 rfl _ Try.underlying28 Try.infoB rfl (by decide) (by decide) W4.heap.size _ (ps.take k ++ [(x, y, u)]) rfl (OwnE.gr HO8.out (Gr.drew (Gr.refl _))) ⟨g, 0, none⟩ (ps.length - k) 0 [] rfl (by have := HLL.out; simp; omega) (fun j z hz => by simp [ecs] at hz) (by have := HLN.out; have := HLE.out; simp; try omega) (by have := HLN.out; simp; try omega) (by have := (Below.drew HB8.out).size; exact this) ?_; intro v9 w9 ho9 hb9 _ _
              have e9 := HINS.out
              rw [e9] at ho9
              obtain ⟨A9, c9, rfl, ho9⟩ := OwnE.eta ho9
              have D9 : Below W4.heap.size W4 w9 := (Below.drew HB8.out).trans hb9
              have S9 := SixB.bel HS.out D9 (Nat.lt_of_succ_lt zz)
              have R9 := RbxB.bel HRB.out D9 zz
              (refine hK.out _ _ (S9) (fun hHeld => ?_); clear hK K'; try simp only [Act.put, List.setIfInBounds_toArray, List.set_cons_zero, List.set_cons_succ])
              refine wpAnyH_ready (rs := [10]) (by kernel_rfl) (by simp) (AllReadyH.cons (by simp only [List.getElem?_toArray, List.getElem?_cons_succ, List.getElem?_cons_zero]; exact rfl) (fun K' hK => ?_) AllReadyH.nil)
              go_simp
              (refine hK.out _ _ (S9) (fun hHeld => ?_); clear hK K'; try simp only [Act.put, List.setIfInBounds_toArray, List.set_cons_zero, List.set_cons_succ])
              have r0 := R9.1
              have r1 := R9.2.1
              have r2 := R9.2.2.1
              have rf := R9.2.2.2
              refine wpAnyH_ready (rs := [11]) (by kernel_rfl) (by simp) (AllReadyH.cons (by simp only [List.getElem?_toArray, List.getElem?_cons_succ, List.getElem?_cons_zero]; exact rfl) (fun K' hK => ?_) AllReadyH.nil)
              go_simp
              (refine hK.out _ _ (SixB.set (SixB.set (SixB.set S9))) (fun hHeld => ?_); clear hK K'; try simp only [Act.put, List.setIfInBounds_toArray, List.set_cons_zero, List.set_cons_succ])
              refine wpAnyH_done (by kernel_rfl) ?_ _
              go_wp2
              refine bodyPost_ret (v := .agg #[.int .i64 W, .int .i64 H, .slice A9 R.length c9]) (by simp [results, Try.results31, go_sem, r0, r1, r2]) rfl ⟨_, rfl, ?_, ?_⟩
              · exact OwnE.mono (OwnE.setOther (a := ⟨w.heap.size + 2, 2, none⟩) (OwnE.setOther (a := ⟨w.heap.size + 2, 1, none⟩) (OwnE.setOther (a := ⟨w.heap.size + 2, 0, none⟩) ho9 zz _) zz _) zz _) (by omega)
              · exact (((GG.out.below.trans (D9.mono GG.out.below.size)).setCell (by simp; omega) _).setCell (by simp; omega) _).setCell (by simp; omega) _
          · go_simp
            (refine hK.out _ _ (SixB.gr HS.out (Gr.alloc (Gr.drew (Gr.refl W4)) _)) (fun hHeld => ?_); clear hK K'; try simp only [Act.put, List.setIfInBounds_toArray, List.set_cons_zero, List.set_cons_succ])
            refine wpAnyH_ready (rs := [0]) (by kernel_rfl) (by simp) (AllReadyH.cons (by simp only [List.getElem?_toArray, List.getElem?_cons_succ, List.getElem?_cons_zero]; exact rfl) (fun K' hK => ?_) AllReadyH.nil)
            go_simp
            (refine hK.out _ _ (SixB.gr HS.out (Gr.alloc (Gr.alloc (Gr.drew (Gr.refl W4)) _) _)) (fun hHeld => ?_); clear hK K'; try simp only [Act.put, List.setIfInBounds_toArray, List.set_cons_zero, List.set_cons_succ])
            refine wpAnyH_ready (rs := [5]) (by kernel_rfl) (by simp) (AllReadyH.cons (by simp only [List.getElem?_toArray, List.getElem?_cons_succ, List.getElem?_cons_zero]; exact rfl) (fun K' hK => ?_) AllReadyH.nil)
            refine step_appE bcs_len bcs_one rfl (.tmp 23) (.tmp 27) 28 rfl _ Try.underlying28 Try.infoB rfl (by decide) (by decide) W4.heap.size (.slice (some ⟨W4.heap.size + 1, 0, none⟩) 0 0) [] rfl (OwnE.empty (b := W4.heap.size + 1) (by refine heap_new' ?_; simp; done) (by omega)) ⟨g, 0, none⟩ k k (ps.take k) rfl HK1.out (fun j z hz => (show Gr W4 _ from (Gr.alloc (Gr.alloc (Gr.drew (Gr.refl W4)) _) _)).keep0 (HQ1.out j z hz)) (by simp) (by have := HK1.out; have := HLN.out; have := HLE.out; omega) (by (try simp); (try omega)) ?_; intro v1 w1 ho1 hb1 gb1 _; rw [List.nil_append] at ho1; obtain ⟨A1, c1, e1, ho1⟩ := OwnE.eta ho1; rw [HK1.out] at e1 ho1; subst e1
            have B1 : Below W4.heap.size W4 w1 := (Gr.alloc (Gr.alloc (Gr.drew (Gr.refl W4)) _) _).below.trans hb1
            (refine hK.out _ _ (SixB.bel HS.out B1 (Nat.lt_of_succ_lt zz)) (fun hHeld => ?_); clear hK K'; try simp only [Act.put, List.setIfInBounds_toArray, List.set_cons_zero, List.set_cons_succ])
            refine wpAnyH_ready (rs := [8]) (by kernel_rfl) (by simp) (AllReadyH.cons (by simp only [List.getElem?_toArray, List.getElem?_cons_succ, List.getElem?_cons_zero]; exact rfl) (fun K' hK => ?_) AllReadyH.nil)
            refine step_appE bcs_len bcs_one rfl (.tmp 28) (.tmp 30) 28 rfl _ Try.underlying28 Try.infoB rfl (by decide) (by decide) W4.heap.size _ (ps.take k) rfl (ho1) ⟨W4.heap.size, 0, none⟩ 1 1 [(x, y, u)] rfl rfl (fun j z hz => gb1.cell ((Gr.alloc (Gr.refl _) _).keep0 (alloc_cells' (by simp; done) (by simpa [ecs, bcs] using hz))) (by cases j <;> simp [Value.ownBlock, Addr.add])) (by have := HLN.out; have := HLE.out; simp; try omega) (by simp) (by have q := Below.size (B1); (try simp at q); (try simp); (try omega)) ?_; intro v8 w8 ho8 hb8 _ _; obtain ⟨A8, c8, e8, ho8⟩ := OwnE.eta ho8; rw [show (ps.take k ++ [(x, y, u)]).length = k + 1 by rw [List.length_append, HK1.out]; rfl] at e8 ho8; subst e8
            have B8 : Below W4.heap.size W4 w8 := (B1).trans hb8
            have S8 := SixB.bel HS.out B8 (Nat.lt_of_succ_lt zz)
            have R8 := RbxB.bel HRB.out B8 zz
            have HO8 := Lib.hid ho8
            have HB8 := Lib.hid B8
            (refine hK.out _ _ (S8) (fun hHeld => ?_); clear hK K'; try simp only [Act.put, List.setIfInBounds_toArray, List.set_cons_zero, List.set_cons_succ])
            refine wpAnyH_ready (rs := [9]) (by kernel_rfl) (by simp) (AllReadyH.cons (by simp only [List.getElem?_toArray, List.getElem?_cons_succ, List.getElem?_cons_zero]; exact rfl) (fun K' hK => ?_) AllReadyH.nil)
            go_simp
            (refine hK.out _ _ (S8) (fun hHeld => ?_); clear hK K'; try simp only [Act.put, List.setIfInBounds_toArray, List.set_cons_zero, List.set_cons_succ])
            refine wpAnyH_done (by kernel_rfl) ?_ _
            have HS8 := Lib.hid S8
            have HR8 := Lib.hid R8
            clear S8 R8 ho8
            go_wp2
            refine wp_region_held_drew (S := fun W' => W'.cell? ⟨w.heap.size, 0, none⟩ = some (.int .i64 W) ∧ W'.cell? ⟨w.heap.size, 1, none⟩ = some (.int .i64 H) ∧ W'.cell? ⟨w.heap.size, 2, none⟩ = some (.slice (some ⟨g, 0, none⟩) ps.length c) ∧ W'.cell? ⟨w.heap.size + 1, 0, none⟩ = some (.int .i64 x) ∧ W'.cell? ⟨w.heap.size + 1, 1, none⟩ = some (.int .i64 y) ∧ W'.cell? ⟨w.heap.size + 1, 2, none⟩ = some (.bool u)) (by kernel_rfl) (SixB.gr HS8.out (Gr.drew (Gr.refl _))) (fun hHeld => ?_)
            (refine wpAnyH_take (i := 0) (v := ?_) (by simp only [List.getElem?_toArray, List.getElem?_cons_succ, List.getElem?_cons_zero]; exact rfl) (by kernel_rfl) (by kernel_rfl) (by kernel_rfl) (by intro _ _ _ h; exact h) (Or.inl ⟨by rfl, ?_⟩) (by assumption) ?_; rotate_left; (focus (intro w' hSw; (try dsimp only at hSw); go_simp; (try with_reducible rfl))); try simp only [Act.put, List.setIfInBounds_toArray, List.set_cons_zero, List.set_cons_succ])
            (refine wpAnyH_take (i := 1) (v := ?_) (by simp only [List.getElem?_toArray, List.getElem?_cons_succ, List.getElem?_cons_zero]; exact rfl) (by kernel_rfl) (by kernel_rfl) (by kernel_rfl) (by intro _ _ _ h; exact h) (Or.inl ⟨by rfl, ?_⟩) (by assumption) ?_; rotate_left; (focus (intro w' hSw; (try dsimp only at hSw); go_simp; (try with_reducible rfl))); try simp only [Act.put, List.setIfInBounds_toArray, List.set_cons_zero, List.set_cons_succ])
            (refine wpAnyH_take (i := 2) (v := ?_) (by simp only [List.getElem?_toArray, List.getElem?_cons_succ, List.getElem?_cons_zero]; exact rfl) (by kernel_rfl) (by kernel_rfl) (by kernel_rfl) (by intro _ _ _ h; exact h) (Or.inl ⟨by rfl, ?_⟩) (by assumption) ?_; rotate_left; (focus (intro w' hSw; (try dsimp only at hSw); go_simp; (try with_reducible rfl))); try simp only [Act.put, List.setIfInBounds_toArray, List.set_cons_zero, List.set_cons_succ])
            (refine wpAnyH_take (i := 3) (v := ?_) (by simp only [List.getElem?_toArray, List.getElem?_cons_succ, List.getElem?_cons_zero]; exact rfl) (by kernel_rfl) (by kernel_rfl) (by kernel_rfl) (by intro _ _ _ h; exact h) (Or.inl ⟨by rfl, ?_⟩) (by assumption) ?_; rotate_left; (focus (intro w' hSw; (try dsimp only at hSw); go_simp; (try with_reducible rfl))); try simp only [Act.put, List.setIfInBounds_toArray, List.set_cons_zero, List.set_cons_succ])
            (refine wpAnyH_take (i := 4) (v := ?_) (by simp only [List.getElem?_toArray, List.getElem?_cons_succ, List.getElem?_cons_zero]; exact rfl) (by kernel_rfl) (by kernel_rfl) (by kernel_rfl) (by intro _ _ _ h; exact h) (Or.inl ⟨by rfl, ?_⟩) (by assumption) ?_; rotate_left; (focus (intro w' hSw; (try dsimp only at hSw); go_simp; (try with_reducible rfl))); try simp only [Act.put, List.setIfInBounds_toArray, List.set_cons_zero, List.set_cons_succ])
            (refine wpAnyH_take (i := 5) (v := ?_) (by simp only [List.getElem?_toArray, List.getElem?_cons_succ, List.getElem?_cons_zero]; exact rfl) (by kernel_rfl) (by kernel_rfl) (by kernel_rfl) (by intro _ _ _ h; exact h) (Or.inl ⟨by rfl, ?_⟩) (by assumption) ?_; rotate_left; (focus (intro w' hSw; (try dsimp only at hSw); go_simp; (try with_reducible rfl))); try simp only [Act.put, List.setIfInBounds_toArray, List.set_cons_zero, List.set_cons_succ])
            (refine wpAnyH_take (i := 6) (v := ?_) (by simp only [List.getElem?_toArray, List.getElem?_cons_succ, List.getElem?_cons_zero]; exact rfl) (by kernel_rfl) (by kernel_rfl) (by kernel_rfl) (by intro _ _ _ h; exact h) (Or.inl ⟨by rfl, ?_⟩) (by assumption) ?_; rotate_left; (focus (intro w' hSw; (try dsimp only at hSw); go_simp; (try with_reducible rfl))); try simp only [Act.put, List.setIfInBounds_toArray, List.set_cons_zero, List.set_cons_succ])
            (refine wpAnyH_take (i := 7) (v := ?_) (by simp only [List.getElem?_toArray, List.getElem?_cons_succ, List.getElem?_cons_zero]; exact rfl) (by kernel_rfl) (by kernel_rfl) (by kernel_rfl) (by intro _ _ _ h; exact h) (Or.inl ⟨by rfl, ?_⟩) (by assumption) ?_; rotate_left; (focus (intro w' hSw; (try dsimp only at hSw); go_simp; (try with_reducible rfl))); try simp only [Act.put, List.setIfInBounds_toArray, List.set_cons_zero, List.set_cons_succ])
            (refine wpAnyH_take (i := 8) (v := ?_) (by simp only [List.getElem?_toArray, List.getElem?_cons_succ, List.getElem?_cons_zero]; exact rfl) (by kernel_rfl) (by kernel_rfl) (by kernel_rfl) (by intro _ _ _ h; exact h) (Or.inl ⟨by rfl, ?_⟩) (by assumption) ?_; rotate_left; (focus (intro w' hSw; (try dsimp only at hSw); go_simp; (try with_reducible rfl))); try simp only [Act.put, List.setIfInBounds_toArray, List.set_cons_zero, List.set_cons_succ])
            refine wpAnyH_ready (rs := [9]) (by kernel_rfl) (by simp) (AllReadyH.cons (by simp only [List.getElem?_toArray, List.getElem?_cons_succ, List.getElem?_cons_zero]; exact rfl) (fun K' hK => ?_) AllReadyH.nil)
            refine step_appE bcs_len bcs_one rfl (.tmp 36) (.tmp 40) 28 rfl _ Try.underlying28 Try.infoB rfl (by decide) (by decide) W4.heap.size _ (ps.take k ++ [(x, y, u)]) rfl (OwnE.gr HO8.out (Gr.drew (Gr.refl _))) ⟨g, 0, none⟩ (ps.length - k) 0 [] rfl (by have := HLL.out; simp; omega) (fun j z hz => by simp [ecs] at hz) (by have := HLN.out; have := HLE.out; simp; try omega) (by have := HLN.out; simp; try omega) (by have := (Below.drew HB8.out).size; exact this) ?_; intro v9 w9 ho9 hb9 _ _
            have e9 := HINS.out
            rw [e9] at ho9
            obtain ⟨A9, c9, rfl, ho9⟩ := OwnE.eta ho9
            have D9 : Below W4.heap.size W4 w9 := (Below.drew HB8.out).trans hb9
            have S9 := SixB.bel HS.out D9 (Nat.lt_of_succ_lt zz)
            have R9 := RbxB.bel HRB.out D9 zz
            (refine hK.out _ _ (S9) (fun hHeld => ?_); clear hK K'; try simp only [Act.put, List.setIfInBounds_toArray, List.set_cons_zero, List.set_cons_succ])
            refine wpAnyH_ready (rs := [10]) (by kernel_rfl) (by simp) (AllReadyH.cons (by simp only [List.getElem?_toArray, List.getElem?_cons_succ, List.getElem?_cons_zero]; exact rfl) (fun K' hK => ?_) AllReadyH.nil)
            go_simp
            (refine hK.out _ _ (S9) (fun hHeld => ?_); clear hK K'; try simp only [Act.put, List.setIfInBounds_toArray, List.set_cons_zero, List.set_cons_succ])
            have r0 := R9.1
            have r1 := R9.2.1
            have r2 := R9.2.2.1
            have rf := R9.2.2.2
            refine wpAnyH_ready (rs := [11]) (by kernel_rfl) (by simp) (AllReadyH.cons (by simp only [List.getElem?_toArray, List.getElem?_cons_succ, List.getElem?_cons_zero]; exact rfl) (fun K' hK => ?_) AllReadyH.nil)
            go_simp
            (refine hK.out _ _ (SixB.set (SixB.set (SixB.set S9))) (fun hHeld => ?_); clear hK K'; try simp only [Act.put, List.setIfInBounds_toArray, List.set_cons_zero, List.set_cons_succ])
            refine wpAnyH_done (by kernel_rfl) ?_ _
            go_wp2
            refine bodyPost_ret (v := .agg #[.int .i64 W, .int .i64 H, .slice A9 R.length c9]) (by simp [results, Try.results31, go_sem, r0, r1, r2]) rfl ⟨_, rfl, ?_, ?_⟩
            · exact OwnE.mono (OwnE.setOther (a := ⟨w.heap.size + 2, 2, none⟩) (OwnE.setOther (a := ⟨w.heap.size + 2, 1, none⟩) (OwnE.setOther (a := ⟨w.heap.size + 2, 0, none⟩) ho9 zz _) zz _) zz _) (by omega)
            · exact (((GG.out.below.trans (D9.mono GG.out.below.size)).setCell (by simp; omega) _).setCell (by simp; omega) _).setCell (by simp; omega) _
    · have hfl := hck
      have HLE := Lib.hid (plc_le ps (x, y, u))
      have HK1 := Lib.hid (show (ps.take (plc ps (x, y, u))).length = plc ps (x, y, u) by have := HLE.out; simp; omega)
      have HK2 := Lib.hid (show (ps.drop (plc ps (x, y, u))).length = ps.length - plc ps (x, y, u) by simp)
      have HP1 := Lib.hid (show ∀ j z, (ecs bcs (ps.take (plc ps (x, y, u))))[j]? = some z → w.cell? ((⟨g, 0, none⟩ : Addr).add j) = some z by have := OwnE.reads bcs_len h rfl 0 (plc ps (x, y, u)) (by have := HLE.out; omega); simpa using this)
      have HP2 := Lib.hid (show ∀ j z, (ecs bcs (ps.drop (plc ps (x, y, u))))[j]? = some z → w.cell? ((⟨g, plc ps (x, y, u) * 3, none⟩ : Addr).add j) = some z by have := OwnE.reads bcs_len h rfl (plc ps (x, y, u)) (ps.length - plc ps (x, y, u)) (by have := HLE.out; omega); rwa [List.take_of_length_le (by simp)] at this)
      have HBF := Lib.hid (plc_before ps (x, y, u))
      have HAT := Lib.hid (plc_at ps (x, y, u))
      have HEL := Lib.hid (fun j hj => OwnB.at h rfl j hj)
      obtain ⟨R, hR⟩ : ∃ R, ins ps (x, y, u) = R := ⟨_, rfl⟩
      have HINS := Lib.hid (show (ps.take (plc ps (x, y, u)) ++ [(x, y, u)]) ++ ps.drop (plc ps (x, y, u)) = R by rw [← hR]; unfold ins; simp)
      rw [hR]
      generalize plc ps (x, y, u) = pk at *
      have HCK := Lib.hid hck
      have HFL := Lib.hid hfl
      clear h hu hl hR hall hck hfl
      have gW : Gr w (((w.alloc (.cells #[.int .i64 W, .int .i64 H, .slice (some ⟨g, 0, none⟩) ps.length c] 30)).alloc (.cells #[.int .i64 x, .int .i64 y, .bool u] 34)).alloc (.cells #[.int .i64 0, .int .i64 0, .slice none 0 0] 30)) := Gr.alloc (Gr.alloc (Gr.alloc (Gr.refl _) _) _) _
      have sX : SixB (((w.alloc (.cells #[.int .i64 W, .int .i64 H, .slice (some ⟨g, 0, none⟩) ps.length c] 30)).alloc (.cells #[.int .i64 x, .int .i64 y, .bool u] 34)).alloc (.cells #[.int .i64 0, .int .i64 0, .slice none 0 0] 30)) w.heap.size W H (.slice (some ⟨g, 0, none⟩) ps.length c) x y u := ⟨by simp [go_sem], by simp [go_sem], by simp [go_sem], by simp [go_sem], by simp [go_sem], by simp [go_sem]⟩
      have rX : RbxB (((w.alloc (.cells #[.int .i64 W, .int .i64 H, .slice (some ⟨g, 0, none⟩) ps.length c] 30)).alloc (.cells #[.int .i64 x, .int .i64 y, .bool u] 34)).alloc (.cells #[.int .i64 0, .int .i64 0, .slice none 0 0] 30)) w.heap.size := ⟨by simp [go_sem], by simp [go_sem], by simp [go_sem], fun o => by simp [go_sem]⟩
      generalize hX : ((w.alloc (.cells #[.int .i64 W, .int .i64 H, .slice (some ⟨g, 0, none⟩) ps.length c] 30)).alloc (.cells #[.int .i64 x, .int .i64 y, .bool u] 34)).alloc (.cells #[.int .i64 0, .int .i64 0, .slice none 0 0] 30) = X at *
      have GW := Lib.hid gW
      have SX := Lib.hid sX
      have RX := Lib.hid rX
      clear gW sX rX
      go_enter Try.func31, Try.ntmps31
      go_wp2
      try rw [hX]
      clear hX
      go_loopw [5] (fun i wr => CkRel pk X i wr) (fun i _ => pk - (intOf i).toNat)
      case atStart => exact ⟨Gr.refl _, 0, Nat.zero_le _, rfl⟩
      case round =>
        obtain ⟨gr, k, hk, rfl⟩ := hrel
        have f0 := gr_all gr SX.out.2.2.1
        have f1 := gr_all gr SX.out.2.2.2.1
        have f2 := gr_all gr SX.out.2.2.2.2.1
        have f3 := gr_all gr SX.out.2.2.2.2.2
        have GR := Lib.hid gr
        have z0 : (0 : Int) ≤ (k : Int) := by omega
        clear gr
        by_cases hlt : k < pk
        · have HLT := Lib.hid hlt
          rcases hq : ps.getD k b0 with ⟨q0, q1, q2⟩
          obtain ⟨ec0, ec1, ec2, _⟩ := HEL.out k (by have := HLE.out; omega)
          rw [hq] at ec0 ec1 ec2
          simp only at ec0 ec1 ec2
          have h0 := gr_all (GW.out.trans GR.out) ec0
          have h1 := gr_all (GW.out.trans GR.out) ec1
          have h2 := gr_all (GW.out.trans GR.out) ec2
          have z1 : (k : Int) < (ps.length : Int) := by have := HLE.out; omega
          have z2 : decide ((k : Int) < (ps.length : Int)) = true := decide_eq_true z1
          have z3 : decide (k < ps.length) = true := decide_eq_true (by omega)
          have H4 := Lib.hid (show decide (Lt (q0, q1, q2) (x, y, u)) = true from decide_eq_true (by have := HBF.out k hlt; rw [hq] at this; exact this))
          have zk : (k : Int) < 200 := by have := HLN.out; have := HLE.out; have := HLT.out; omega
          clear ec0 ec1 ec2 hq hlt
          go_wp2
          (refine wp_region_quiet_grown mixed (by kernel_rfl) ?_; (repeat (first | go_big_quiet_step ((first | (go_at_call 51; exact Calls.grown_of (Try.avLess (q0, q1, q2) (x, y, u) _ H4.out _)))) | quiet_step ((first | (go_at_call 51; exact Calls.grown_of (Try.avLess (q0, q1, q2) (x, y, u) _ H4.out _)))))); refine wpQuiet_nil ?_; intro _ hw'; obtain ⟨⟨nq, osq⟩, hw''⟩ := hw'; subst hw'')
          go_wp2
          go_roundw
          case rel => exact ⟨Gr.grow (Gr.drewN GR.out _) _, k + 1, HLT.out, by go_num⟩
          case measure => have := HLT.out; simp [intOf]; omega
        · obtain rfl : k = pk := by omega
          by_cases hle : k < ps.length
          · have HLL := Lib.hid hle
            rcases hq : ps.getD k b0 with ⟨q0, q1, q2⟩
            obtain ⟨ec0, ec1, ec2, _⟩ := HEL.out k (by have := HLE.out; omega)
            rw [hq] at ec0 ec1 ec2
            simp only at ec0 ec1 ec2
            have h0 := gr_all (GW.out.trans GR.out) ec0
            have h1 := gr_all (GW.out.trans GR.out) ec1
            have h2 := gr_all (GW.out.trans GR.out) ec2
            have z1 : (k : Int) < (ps.length : Int) := by have := HLE.out; omega
            have z2 : decide ((k : Int) < (ps.length : Int)) = true := decide_eq_true z1
            have z3 : decide (k < ps.length) = true := decide_eq_true (by omega)
            have H4 := Lib.hid (show decide (Lt (q0, q1, q2) (x, y, u)) = false from decide_eq_false (by have := HAT.out hle; rw [hq] at this; exact this))
            clear ec0 ec1 ec2 hq hlt hle
            go_wp2
            (refine wp_region_quiet_grown mixed (by kernel_rfl) ?_; (repeat (first | go_big_quiet_step ((first | (go_at_call 51; exact Calls.grown_of (Try.avLess (q0, q1, q2) (x, y, u) _ H4.out _)))) | quiet_step ((first | (go_at_call 51; exact Calls.grown_of (Try.avLess (q0, q1, q2) (x, y, u) _ H4.out _)))))); refine wpQuiet_nil ?_; intro _ hw'; obtain ⟨⟨nq, osq⟩, hw''⟩ := hw'; subst hw'')
            go_wp2
            have hc2 : k ≤ c := by have := HLL.out; omega
            have zc1 : (k : Int) ≤ (c : Int) := by omega
            have zc2 : ¬ c = k := HCK.out
            have zc3 : (ps.length : Int) ≤ (c : Int) := by omega
            have zc4 : (k : Int) ≤ (ps.length : Int) := by have := HLL.out; omega
            have zc5 : k ≤ ps.length := by have := HLL.out; omega
            obtain ⟨W4, hW4⟩ : ∃ W4, W4 = Go.Sort.grow (wr.drewN nq) osq := ⟨_, rfl⟩
            rw [← hW4]
            have gX4 : Gr X W4 := by rw [hW4]; exact Gr.grow (Gr.drewN GR.out _) _
            have GG := Lib.hid (GW.out.trans gX4)
            have HS := Lib.hid (SixB.gr SX.out gX4)
            have HRB := Lib.hid (RbxB.bel RX.out gX4.below (show w.heap.size + 2 < X.heap.size from World.block_lt_of_cell? _ _ RX.out.1))
            have zz : w.heap.size + 2 < W4.heap.size := World.block_lt_of_cell? _ _ HRB.out.1
            have HQ1 := Lib.hid (fun j z hz => (GG.out.keep0 (HP1.out j z hz)))
            have HQ2 := Lib.hid (fun j z hz => (GG.out.keep0 (HP2.out j z hz)))
            clear gX4 hW4
            refine wp_region_held_drew (S := fun W' => W'.cell? ⟨w.heap.size, 0, none⟩ = some (.int .i64 W) ∧ W'.cell? ⟨w.heap.size, 1, none⟩ = some (.int .i64 H) ∧ W'.cell? ⟨w.heap.size, 2, none⟩ = some (.slice (some ⟨g, 0, none⟩) ps.length c) ∧ W'.cell? ⟨w.heap.size + 1, 0, none⟩ = some (.int .i64 x) ∧ W'.cell? ⟨w.heap.size + 1, 1, none⟩ = some (.int .i64 y) ∧ W'.cell? ⟨w.heap.size + 1, 2, none⟩ = some (.bool u)) (by kernel_rfl) (SixB.gr HS.out (Gr.drew (Gr.refl W4))) (fun hHeld => ?_)
            (refine wpAnyH_take (i := 1) (v := ?_) (by simp only [List.getElem?_toArray, List.getElem?_cons_succ, List.getElem?_cons_zero]; exact rfl) (by kernel_rfl) (by kernel_rfl) (by kernel_rfl) (by intro _ _ _ h; exact h) (Or.inl ⟨by rfl, ?_⟩) (by assumption) ?_; rotate_left; (focus (intro w' hSw; (try dsimp only at hSw); go_simp; (try with_reducible rfl))); try simp only [Act.put, List.setIfInBounds_toArray, List.set_cons_zero, List.set_cons_succ])
            (refine wpAnyH_take (i := 2) (v := ?_) (by simp only [List.getElem?_toArray, List.getElem?_cons_succ, List.getElem?_cons_zero]; exact rfl) (by kernel_rfl) (by kernel_rfl) (by kernel_rfl) (by intro _ _ _ h; exact h) (Or.inl ⟨by rfl, ?_⟩) (by assumption) ?_; rotate_left; (focus (intro w' hSw; (try dsimp only at hSw); go_simp; (try with_reducible rfl))); try simp only [Act.put, List.setIfInBounds_toArray, List.set_cons_zero, List.set_cons_succ])
            (refine wpAnyH_take (i := 3) (v := ?_) (by simp only [List.getElem?_toArray, List.getElem?_cons_succ, List.getElem?_cons_zero]; exact rfl) (by kernel_rfl) (by kernel_rfl) (by kernel_rfl) (by intro _ _ _ h; exact h) (Or.inl ⟨by rfl, ?_⟩) (by assumption) ?_; rotate_left; (focus (intro w' hSw; (try dsimp only at hSw); go_simp; (try with_reducible rfl))); try simp only [Act.put, List.setIfInBounds_toArray, List.set_cons_zero, List.set_cons_succ])
            (refine wpAnyH_take (i := 4) (v := ?_) (by simp only [List.getElem?_toArray, List.getElem?_cons_succ, List.getElem?_cons_zero]; exact rfl) (by kernel_rfl) (by kernel_rfl) (by kernel_rfl) (by intro _ _ _ h; exact h) (Or.inl ⟨by rfl, ?_⟩) (by assumption) ?_; rotate_left; (focus (intro w' hSw; (try dsimp only at hSw); go_simp; (try with_reducible rfl))); try simp only [Act.put, List.setIfInBounds_toArray, List.set_cons_zero, List.set_cons_succ])
            (refine wpAnyH_take (i := 6) (v := ?_) (by simp only [List.getElem?_toArray, List.getElem?_cons_succ, List.getElem?_cons_zero]; exact rfl) (by kernel_rfl) (by kernel_rfl) (by kernel_rfl) (by intro _ _ _ h; exact h) (Or.inl ⟨by rfl, ?_⟩) (by assumption) ?_; rotate_left; (focus (intro w' hSw; (try dsimp only at hSw); go_simp; (try with_reducible rfl))); try simp only [Act.put, List.setIfInBounds_toArray, List.set_cons_zero, List.set_cons_succ])
            refine wpAnyH_ready (rs := [0, 7]) (by kernel_rfl) (by simp) (AllReadyH.cons (by simp only [List.getElem?_toArray, List.getElem?_cons_succ, List.getElem?_cons_zero]; exact rfl) (fun K' hK => ?_) (AllReadyH.cons (by simp only [List.getElem?_toArray, List.getElem?_cons_succ, List.getElem?_cons_zero]; exact rfl) (fun K' hK => ?_) AllReadyH.nil))
            · go_simp
              (refine hK.out _ _ (SixB.gr HS.out (Gr.alloc (Gr.drew (Gr.refl W4)) _)) (fun hHeld => ?_); clear hK K'; try simp only [Act.put, List.setIfInBounds_toArray, List.set_cons_zero, List.set_cons_succ])
              refine wpAnyH_ready (rs := [5, 7]) (by kernel_rfl) (by simp) (AllReadyH.cons (by simp only [List.getElem?_toArray, List.getElem?_cons_succ, List.getElem?_cons_zero]; exact rfl) (fun K' hK => ?_) (AllReadyH.cons (by simp only [List.getElem?_toArray, List.getElem?_cons_succ, List.getElem?_cons_zero]; exact rfl) (fun K' hK => ?_) AllReadyH.nil))
              · refine step_appE bcs_len bcs_one rfl (.tmp 23) (.tmp 27) 28 rfl _ Try.underlying28 Try.infoB rfl (by decide) (by decide) W4.heap.size (.slice (some ⟨W4.heap.size, 0, none⟩) 0 0) [] rfl (OwnE.empty (b := W4.heap.size) (by refine heap_new' ?_; simp; done) (by omega)) ⟨g, 0, none⟩ k c (ps.take k) rfl HK1.out (fun j z hz => (show Gr W4 _ from (Gr.alloc (Gr.drew (Gr.refl W4)) _)).keep0 (HQ1.out j z hz)) (by simp) (by have := HK1.out; have := HLN.out; have := HLE.out; omega) (by (try simp); (try omega)) ?_; intro v1 w1 ho1 hb1 gb1 _; rw [List.nil_append] at ho1; obtain ⟨A1, c1, e1, ho1⟩ := OwnE.eta ho1; rw [HK1.out] at e1 ho1; subst e1
                have B1 : Below W4.heap.size W4 w1 := (Gr.alloc (Gr.drew (Gr.refl W4)) _).below.trans hb1
                (refine hK.out _ _ (SixB.bel HS.out B1 (Nat.lt_of_succ_lt zz)) (fun hHeld => ?_); clear hK K'; try simp only [Act.put, List.setIfInBounds_toArray, List.set_cons_zero, List.set_cons_succ])
                refine wpAnyH_ready (rs := [7]) (by kernel_rfl) (by simp) (AllReadyH.cons (by simp only [List.getElem?_toArray, List.getElem?_cons_succ, List.getElem?_cons_zero]; exact rfl) (fun K' hK => ?_) AllReadyH.nil)
                go_simp
                have B7 := B1.trans ((Gr.alloc (Gr.refl w1) (Obj.cells #[.int .i64 x, .int .i64 y, .bool u] 34)).below.mono B1.size)
                (refine hK.out _ _ (SixB.bel HS.out B7 (Nat.lt_of_succ_lt zz)) (fun hHeld => ?_); clear hK K'; try simp only [Act.put, List.setIfInBounds_toArray, List.set_cons_zero, List.set_cons_succ])
                refine wpAnyH_ready (rs := [8]) (by kernel_rfl) (by simp) (AllReadyH.cons (by simp only [List.getElem?_toArray, List.getElem?_cons_succ, List.getElem?_cons_zero]; exact rfl) (fun K' hK => ?_) AllReadyH.nil)
                refine step_appE bcs_len bcs_one rfl (.tmp 28) (.tmp 30) 28 rfl _ Try.underlying28 Try.infoB rfl (by decide) (by decide) W4.heap.size _ (ps.take k) rfl (OwnE.gr ho1 (Gr.alloc (Gr.refl _) _)) ⟨w1.heap.size, 0, none⟩ 1 1 [(x, y, u)] rfl rfl (fun j z hz => alloc_cells (by simpa [ecs, bcs] using hz)) (by have := HLN.out; have := HLE.out; simp; try omega) (by simp) (by have q := Below.size (B7); (try simp at q); (try simp); (try omega)) ?_; intro v8 w8 ho8 hb8 _ _; obtain ⟨A8, c8, e8, ho8⟩ := OwnE.eta ho8; rw [show (ps.take k ++ [(x, y, u)]).length = k + 1 by rw [List.length_append, HK1.out]; rfl] at e8 ho8; subst e8
                have B8 : Below W4.heap.size W4 w8 := (B7).trans hb8
                have S8 := SixB.bel HS.out B8 (Nat.lt_of_succ_lt zz)
                have R8 := RbxB.bel HRB.out B8 zz
                have HO8 := Lib.hid ho8
                have HB8 := Lib.hid B8
                (refine hK.out _ _ (S8) (fun hHeld => ?_); clear hK K'; try simp only [Act.put, List.setIfInBounds_toArray, List.set_cons_zero, List.set_cons_succ])
                refine wpAnyH_ready (rs := [9]) (by kernel_rfl) (by simp) (AllReadyH.cons (by simp only [List.getElem?_toArray, List.getElem?_cons_succ, List.getElem?_cons_zero]; exact rfl) (fun K' hK => ?_) AllReadyH.nil)
                go_simp
                (refine hK.out _ _ (S8) (fun hHeld => ?_); clear hK K'; try simp only [Act.put, List.setIfInBounds_toArray, List.set_cons_zero, List.set_cons_succ])
                refine wpAnyH_done (by kernel_rfl) ?_ _
                have HS8 := Lib.hid S8
                have HR8 := Lib.hid R8
                clear S8 R8 ho8
                go_wp2
                refine wp_region_held_drew (S := fun W' => W'.cell? ⟨w.heap.size, 0, none⟩ = some (.int .i64 W) ∧ W'.cell? ⟨w.heap.size, 1, none⟩ = some (.int .i64 H) ∧ W'.cell? ⟨w.heap.size, 2, none⟩ = some (.slice (some ⟨g, 0, none⟩) ps.length c) ∧ W'.cell? ⟨w.heap.size + 1, 0, none⟩ = some (.int .i64 x) ∧ W'.cell? ⟨w.heap.size + 1, 1, none⟩ = some (.int .i64 y) ∧ W'.cell? ⟨w.heap.size + 1, 2, none⟩ = some (.bool u)) (by kernel_rfl) (SixB.gr HS8.out (Gr.drew (Gr.refl _))) (fun hHeld => ?_)
                (refine wpAnyH_take (i := 0) (v := ?_) (by simp only [List.getElem?_toArray, List.getElem?_cons_succ, List.getElem?_cons_zero]; exact rfl) (by kernel_rfl) (by kernel_rfl) (by kernel_rfl) (by intro _ _ _ h; exact h) (Or.inl ⟨by rfl, ?_⟩) (by assumption) ?_; rotate_left; (focus (intro w' hSw; (try dsimp only at hSw); go_simp; (try with_reducible rfl))); try simp only [Act.put, List.setIfInBounds_toArray, List.set_cons_zero, List.set_cons_succ])
                (refine wpAnyH_take (i := 1) (v := ?_) (by simp only [List.getElem?_toArray, List.getElem?_cons_succ, List.getElem?_cons_zero]; exact rfl) (by kernel_rfl) (by kernel_rfl) (by kernel_rfl) (by intro _ _ _ h; exact h) (Or.inl ⟨by rfl, ?_⟩) (by assumption) ?_; rotate_left; (focus (intro w' hSw; (try dsimp only at hSw); go_simp; (try with_reducible rfl))); try simp only [Act.put, List.setIfInBounds_toArray, List.set_cons_zero, List.set_cons_succ])
                (refine wpAnyH_take (i := 2) (v := ?_) (by simp only [List.getElem?_toArray, List.getElem?_cons_succ, List.getElem?_cons_zero]; exact rfl) (by kernel_rfl) (by kernel_rfl) (by kernel_rfl) (by intro _ _ _ h; exact h) (Or.inl ⟨by rfl, ?_⟩) (by assumption) ?_; rotate_left; (focus (intro w' hSw; (try dsimp only at hSw); go_simp; (try with_reducible rfl))); try simp only [Act.put, List.setIfInBounds_toArray, List.set_cons_zero, List.set_cons_succ])
                (refine wpAnyH_take (i := 3) (v := ?_) (by simp only [List.getElem?_toArray, List.getElem?_cons_succ, List.getElem?_cons_zero]; exact rfl) (by kernel_rfl) (by kernel_rfl) (by kernel_rfl) (by intro _ _ _ h; exact h) (Or.inl ⟨by rfl, ?_⟩) (by assumption) ?_; rotate_left; (focus (intro w' hSw; (try dsimp only at hSw); go_simp; (try with_reducible rfl))); try simp only [Act.put, List.setIfInBounds_toArray, List.set_cons_zero, List.set_cons_succ])
                (refine wpAnyH_take (i := 4) (v := ?_) (by simp only [List.getElem?_toArray, List.getElem?_cons_succ, List.getElem?_cons_zero]; exact rfl) (by kernel_rfl) (by kernel_rfl) (by kernel_rfl) (by intro _ _ _ h; exact h) (Or.inl ⟨by rfl, ?_⟩) (by assumption) ?_; rotate_left; (focus (intro w' hSw; (try dsimp only at hSw); go_simp; (try with_reducible rfl))); try simp only [Act.put, List.setIfInBounds_toArray, List.set_cons_zero, List.set_cons_succ])
                (refine wpAnyH_take (i := 5) (v := ?_) (by simp only [List.getElem?_toArray, List.getElem?_cons_succ, List.getElem?_cons_zero]; exact rfl) (by kernel_rfl) (by kernel_rfl) (by kernel_rfl) (by intro _ _ _ h; exact h) (Or.inl ⟨by rfl, ?_⟩) (by assumption) ?_; rotate_left; (focus (intro w' hSw; (try dsimp only at hSw); go_simp; (try with_reducible rfl))); try simp only [Act.put, List.setIfInBounds_toArray, List.set_cons_zero, List.set_cons_succ])
                (refine wpAnyH_take (i := 6) (v := ?_) (by simp only [List.getElem?_toArray, List.getElem?_cons_succ, List.getElem?_cons_zero]; exact rfl) (by kernel_rfl) (by kernel_rfl) (by kernel_rfl) (by intro _ _ _ h; exact h) (Or.inl ⟨by rfl, ?_⟩) (by assumption) ?_; rotate_left; (focus (intro w' hSw; (try dsimp only at hSw); go_simp; (try with_reducible rfl))); try simp only [Act.put, List.setIfInBounds_toArray, List.set_cons_zero, List.set_cons_succ])
                (refine wpAnyH_take (i := 7) (v := ?_) (by simp only [List.getElem?_toArray, List.getElem?_cons_succ, List.getElem?_cons_zero]; exact rfl) (by kernel_rfl) (by kernel_rfl) (by kernel_rfl) (by intro _ _ _ h; exact h) (Or.inl ⟨by rfl, ?_⟩) (by assumption) ?_; rotate_left; (focus (intro w' hSw; (try dsimp only at hSw); go_simp; (try with_reducible rfl))); try simp only [Act.put, List.setIfInBounds_toArray, List.set_cons_zero, List.set_cons_succ])
                (refine wpAnyH_take (i := 8) (v := ?_) (by simp only [List.getElem?_toArray, List.getElem?_cons_succ, List.getElem?_cons_zero]; exact rfl) (by kernel_rfl) (by kernel_rfl) (by kernel_rfl) (by intro _ _ _ h; exact h) (Or.inl ⟨by rfl, ?_⟩) (by assumption) ?_; rotate_left; (focus (intro w' hSw; (try dsimp only at hSw); go_simp; (try with_reducible rfl))); try simp only [Act.put, List.setIfInBounds_toArray, List.set_cons_zero, List.set_cons_succ])
                refine wpAnyH_ready (rs := [9]) (by kernel_rfl) (by simp) (AllReadyH.cons (by simp only [List.getElem?_toArray, List.getElem?_cons_succ, List.getElem?_cons_zero]; exact rfl) (fun K' hK => ?_) AllReadyH.nil)
                refine step_appE bcs_len bcs_one rfl (.tmp 36) (.tmp 40) 28 rfl _ Try.underlying28 Try.infoB rfl (by decide) (by decide) W4.heap.size _ (ps.take k ++ [(x, y, u)]) rfl (OwnE.gr HO8.out (Gr.drew (Gr.refl _))) ⟨g, k * 3, none⟩ (ps.length - k) (c - k) (ps.drop k) rfl HK2.out (fun j z hz => Below.cell_of (Below.drew HB8.out) (HQ2.out j z hz)) (by have := HLN.out; have := HLE.out; simp; try omega) (by have := HLN.out; simp; try omega) (by have := (Below.drew HB8.out).size; exact this) ?_; intro v9 w9 ho9 hb9 _ _
                have e9 := HINS.out
                rw [e9] at ho9
                obtain ⟨A9, c9, rfl, ho9⟩ := OwnE.eta ho9
                have D9 : Below W4.heap.size W4 w9 := (Below.drew HB8.out).trans hb9
                have S9 := SixB.bel HS.out D9 (Nat.lt_of_succ_lt zz)
                have R9 := RbxB.bel HRB.out D9 zz
                (refine hK.out _ _ (S9) (fun hHeld => ?_); clear hK K'; try simp only [Act.put, List.setIfInBounds_toArray, List.set_cons_zero, List.set_cons_succ])
                refine wpAnyH_ready (rs := [10]) (by kernel_rfl) (by simp) (AllReadyH.cons (by simp only [List.getElem?_toArray, List.getElem?_cons_succ, List.getElem?_cons_zero]; exact rfl) (fun K' hK => ?_) AllReadyH.nil)
                go_simp
                (refine hK.out _ _ (S9) (fun hHeld => ?_); clear hK K'; try simp only [Act.put, List.setIfInBounds_toArray, List.set_cons_zero, List.set_cons_succ])
                have r0 := R9.1
                have r1 := R9.2.1
                have r2 := R9.2.2.1
                have rf := R9.2.2.2
                refine wpAnyH_ready (rs := [11]) (by kernel_rfl) (by simp) (AllReadyH.cons (by simp only [List.getElem?_toArray, List.getElem?_cons_succ, List.getElem?_cons_zero]; exact rfl) (fun K' hK => ?_) AllReadyH.nil)
                go_simp
                (refine hK.out _ _ (SixB.set (SixB.set (SixB.set S9))) (fun hHeld => ?_); clear hK K'; try simp only [Act.put, List.setIfInBounds_toArray, List.set_cons_zero, List.set_cons_succ])
                refine wpAnyH_done (by kernel_rfl) ?_ _
                go_wp2
                refine bodyPost_ret (v := .agg #[.int .i64 W, .int .i64 H, .slice A9 R.length c9]) (by simp [results, Try.results31, go_sem, r0, r1, r2]) rfl ⟨_, rfl, ?_, ?_⟩
                · exact OwnE.mono (OwnE.setOther (a := ⟨w.heap.size + 2, 2, none⟩) (OwnE.setOther (a := ⟨w.heap.size + 2, 1, none⟩) (OwnE.setOther (a := ⟨w.heap.size + 2, 0, none⟩) ho9 zz _) zz _) zz _) (by omega)
                · exact (((GG.out.below.trans (D9.mono GG.out.below.size)).setCell (by simp; omega) _).setCell (by simp; omega) _).setCell (by simp; omega) _
              · go_simp
                (refine hK.out _ _ (SixB.gr HS.out (Gr.alloc (Gr.alloc (Gr.drew (Gr.refl W4)) _) _)) (fun hHeld => ?_); clear hK K'; try simp only [Act.put, List.setIfInBounds_toArray, List.set_cons_zero, List.set_cons_succ])
                refine wpAnyH_ready (rs := [5]) (by kernel_rfl) (by simp) (AllReadyH.cons (by simp only [List.getElem?_toArray, List.getElem?_cons_succ, List.getElem?_cons_zero]; exact rfl) (fun K' hK => ?_) AllReadyH.nil)
                refine step_appE bcs_len bcs_one rfl (.tmp 23) (.tmp 27) 28 rfl _ Try.underlying28 Try.infoB rfl (by decide) (by decide) W4.heap.size (.slice (some ⟨W4.heap.size, 0, none⟩) 0 0) [] rfl (OwnE.empty (b := W4.heap.size) (((Gr.alloc (Gr.refl _) _).below.block W4.heap.size (by simp)).trans (by refine heap_new' ?_; simp; done)) (by omega)) ⟨g, 0, none⟩ k c (ps.take k) rfl HK1.out (fun j z hz => (show Gr W4 _ from (Gr.alloc (Gr.alloc (Gr.drew (Gr.refl W4)) _) _)).keep0 (HQ1.out j z hz)) (by simp) (by have := HK1.out; have := HLN.out; have := HLE.out; omega) (by (try simp); (try omega)) ?_; intro v1 w1 ho1 hb1 gb1 _; rw [List.nil_append] at ho1; obtain ⟨A1, c1, e1, ho1⟩ := OwnE.eta ho1; rw [HK1.out] at e1 ho1; subst e1
                have B1 : Below W4.heap.size W4 w1 := (Gr.alloc (Gr.alloc (Gr.drew (Gr.refl W4)) _) _).below.trans hb1
                (refine hK.out _ _ (SixB.bel HS.out B1 (Nat.lt_of_succ_lt zz)) (fun hHeld => ?_); clear hK K'; try simp only [Act.put, List.setIfInBounds_toArray, List.set_cons_zero, List.set_cons_succ])
                refine wpAnyH_ready (rs := [8]) (by kernel_rfl) (by simp) (AllReadyH.cons (by simp only [List.getElem?_toArray, List.getElem?_cons_succ, List.getElem?_cons_zero]; exact rfl) (fun K' hK => ?_) AllReadyH.nil)
                refine step_appE bcs_len bcs_one rfl (.tmp 28) (.tmp 30) 28 rfl _ Try.underlying28 Try.infoB rfl (by decide) (by decide) W4.heap.size _ (ps.take k) rfl (ho1) ⟨W4.heap.size + 1, 0, none⟩ 1 1 [(x, y, u)] rfl rfl (fun j z hz => gb1.cell (alloc_cells' (by simp; done) (by simpa [ecs, bcs] using hz)) (by cases j <;> simp [Value.ownBlock, Addr.add])) (by have := HLN.out; have := HLE.out; simp; try omega) (by simp) (by have q := Below.size (B1); (try simp at q); (try simp); (try omega)) ?_; intro v8 w8 ho8 hb8 _ _; obtain ⟨A8, c8, e8, ho8⟩ := OwnE.eta ho8; rw [show (ps.take k ++ [(x, y, u)]).length = k + 1 by rw [List.length_append, HK1.out]; rfl] at e8 ho8; subst e8
                have B8 : Below W4.heap.size W4 w8 := (B1).trans hb8
                have S8 := SixB.bel HS.out B8 (Nat.lt_of_succ_lt zz)
                have R8 := RbxB.bel HRB.out B8 zz
                have HO8 := Lib.hid ho8
                have HB8 := Lib.hid B8
                (refine hK.out _ _ (S8) (fun hHeld => ?_); clear hK K'; try simp only [Act.put, List.setIfInBounds_toArray, List.set_cons_zero, List.set_cons_succ])
                refine wpAnyH_ready (rs := [9]) (by kernel_rfl) (by simp) (AllReadyH.cons (by simp only [List.getElem?_toArray, List.getElem?_cons_succ, List.getElem?_cons_zero]; exact rfl) (fun K' hK => ?_) AllReadyH.nil)
                go_simp
                (refine hK.out _ _ (S8) (fun hHeld => ?_); clear hK K'; try simp only [Act.put, List.setIfInBounds_toArray, List.set_cons_zero, List.set_cons_succ])
                refine wpAnyH_done (by kernel_rfl) ?_ _
                have HS8 := Lib.hid S8
                have HR8 := Lib.hid R8
                clear S8 R8 ho8
                go_wp2
                refine wp_region_held_drew (S := fun W' => W'.cell? ⟨w.heap.size, 0, none⟩ = some (.int .i64 W) ∧ W'.cell? ⟨w.heap.size, 1, none⟩ = some (.int .i64 H) ∧ W'.cell? ⟨w.heap.size, 2, none⟩ = some (.slice (some ⟨g, 0, none⟩) ps.length c) ∧ W'.cell? ⟨w.heap.size + 1, 0, none⟩ = some (.int .i64 x) ∧ W'.cell? ⟨w.heap.size + 1, 1, none⟩ = some (.int .i64 y) ∧ W'.cell? ⟨w.heap.size + 1, 2, none⟩ = some (.bool u)) (by kernel_rfl) (SixB.gr HS8.out (Gr.drew (Gr.refl _))) (fun hHeld => ?_)
                (refine wpAnyH_take (i := 0) (v := ?_) (by simp only [List.getElem?_toArray, List.getElem?_cons_succ, List.getElem?_cons_zero]; exact rfl) (by kernel_rfl) (by kernel_rfl) (by kernel_rfl) (by intro _ _ _ h; exact h) (Or.inl ⟨by rfl, ?_⟩) (by assumption) ?_; rotate_left; (focus (intro w' hSw; (try dsimp only at hSw); go_simp; (try with_reducible rfl))); try simp only [Act.put, List.setIfInBounds_toArray, List.set_cons_zero, List.set_cons_succ])
                (refine wpAnyH_take (i := 1) (v := ?_) (by simp only [List.getElem?_toArray, List.getElem?_cons_succ, List.getElem?_cons_zero]; exact rfl) (by kernel_rfl) (by kernel_rfl) (by kernel_rfl) (by intro _ _ _ h; exact h) (Or.inl ⟨by rfl, ?_⟩) (by assumption) ?_; rotate_left; (focus (intro w' hSw; (try dsimp only at hSw); go_simp; (try with_reducible rfl))); try simp only [Act.put, List.setIfInBounds_toArray, List.set_cons_zero, List.set_cons_succ])
                (refine wpAnyH_take (i := 2) (v := ?_) (by simp only [List.getElem?_toArray, List.getElem?_cons_succ, List.getElem?_cons_zero]; exact rfl) (by kernel_rfl) (by kernel_rfl) (by kernel_rfl) (by intro _ _ _ h; exact h) (Or.inl ⟨by rfl, ?_⟩) (by assumption) ?_; rotate_left; (focus (intro w' hSw; (try dsimp only at hSw); go_simp; (try with_reducible rfl))); try simp only [Act.put, List.setIfInBounds_toArray, List.set_cons_zero, List.set_cons_succ])
                (refine wpAnyH_take (i := 3) (v := ?_) (by simp only [List.getElem?_toArray, List.getElem?_cons_succ, List.getElem?_cons_zero]; exact rfl) (by kernel_rfl) (by kernel_rfl) (by kernel_rfl) (by intro _ _ _ h; exact h) (Or.inl ⟨by rfl, ?_⟩) (by assumption) ?_; rotate_left; (focus (intro w' hSw; (try dsimp only at hSw); go_simp; (try with_reducible rfl))); try simp only [Act.put, List.setIfInBounds_toArray, List.set_cons_zero, List.set_cons_succ])
                (refine wpAnyH_take (i := 4) (v := ?_) (by simp only [List.getElem?_toArray, List.getElem?_cons_succ, List.getElem?_cons_zero]; exact rfl) (by kernel_rfl) (by kernel_rfl) (by kernel_rfl) (by intro _ _ _ h; exact h) (Or.inl ⟨by rfl, ?_⟩) (by assumption) ?_; rotate_left; (focus (intro w' hSw; (try dsimp only at hSw); go_simp; (try with_reducible rfl))); try simp only [Act.put, List.setIfInBounds_toArray, List.set_cons_zero, List.set_cons_succ])
                (refine wpAnyH_take (i := 5) (v := ?_) (by simp only [List.getElem?_toArray, List.getElem?_cons_succ, List.getElem?_cons_zero]; exact rfl) (by kernel_rfl) (by kernel_rfl) (by kernel_rfl) (by intro _ _ _ h; exact h) (Or.inl ⟨by rfl, ?_⟩) (by assumption) ?_; rotate_left; (focus (intro w' hSw; (try dsimp only at hSw); go_simp; (try with_reducible rfl))); try simp only [Act.put, List.setIfInBounds_toArray, List.set_cons_zero, List.set_cons_succ])
                (refine wpAnyH_take (i := 6) (v := ?_) (by simp only [List.getElem?_toArray, List.getElem?_cons_succ, List.getElem?_cons_zero]; exact rfl) (by kernel_rfl) (by kernel_rfl) (by kernel_rfl) (by intro _ _ _ h; exact h) (Or.inl ⟨by rfl, ?_⟩) (by assumption) ?_; rotate_left; (focus (intro w' hSw; (try dsimp only at hSw); go_simp; (try with_reducible rfl))); try simp only [Act.put, List.setIfInBounds_toArray, List.set_cons_zero, List.set_cons_succ])
                (refine wpAnyH_take (i := 7) (v := ?_) (by simp only [List.getElem?_toArray, List.getElem?_cons_succ, List.getElem?_cons_zero]; exact rfl) (by kernel_rfl) (by kernel_rfl) (by kernel_rfl) (by intro _ _ _ h; exact h) (Or.inl ⟨by rfl, ?_⟩) (by assumption) ?_; rotate_left; (focus (intro w' hSw; (try dsimp only at hSw); go_simp; (try with_reducible rfl))); try simp only [Act.put, List.setIfInBounds_toArray, List.set_cons_zero, List.set_cons_succ])
                (refine wpAnyH_take (i := 8) (v := ?_) (by simp only [List.getElem?_toArray, List.getElem?_cons_succ, List.getElem?_cons_zero]; exact rfl) (by kernel_rfl) (by kernel_rfl) (by kernel_rfl) (by intro _ _ _ h; exact h) (Or.inl ⟨by rfl, ?_⟩) (by assumption) ?_; rotate_left; (focus (intro w' hSw; (try dsimp only at hSw); go_simp; (try with_reducible rfl))); try simp only [Act.put, List.setIfInBounds_toArray, List.set_cons_zero, List.set_cons_succ])
                refine wpAnyH_ready (rs := [9]) (by kernel_rfl) (by simp) (AllReadyH.cons (by simp only [List.getElem?_toArray, List.getElem?_cons_succ, List.getElem?_cons_zero]; exact rfl) (fun K' hK => ?_) AllReadyH.nil)
                refine step_appE bcs_len bcs_one rfl (.tmp 36) (.tmp 40) 28 rfl _ Try.underlying28 Try.infoB rfl (by decide) (by decide) W4.heap.size _ (ps.take k ++ [(x, y, u)]) rfl (OwnE.gr HO8.out (Gr.drew (Gr.refl _))) ⟨g, k * 3, none⟩ (ps.length - k) (c - k) (ps.drop k) rfl HK2.out (fun j z hz => Below.cell_of (Below.drew HB8.out) (HQ2.out j z hz)) (by have := HLN.out; have := HLE.out; simp; try omega) (by have := HLN.out; simp; try omega) (by have := (Below.drew HB8.out).size; exact this) ?_; intro v9 w9 ho9 hb9 _ _
                have e9 := HINS.out
                rw [e9] at ho9
                obtain ⟨A9, c9, rfl, ho9⟩ := OwnE.eta ho9
                have D9 : Below W4.heap.size W4 w9 := (Below.drew HB8.out).trans hb9
                have S9 := SixB.bel HS.out D9 (Nat.lt_of_succ_lt zz)
                have R9 := RbxB.bel HRB.out D9 zz
                (refine hK.out _ _ (S9) (fun hHeld => ?_); clear hK K'; try simp only [Act.put, List.setIfInBounds_toArray, List.set_cons_zero, List.set_cons_succ])
                refine wpAnyH_ready (rs := [10]) (by kernel_rfl) (by simp) (AllReadyH.cons (by simp only [List.getElem?_toArray, List.getElem?_cons_succ, List.getElem?_cons_zero]; exact rfl) (fun K' hK => ?_) AllReadyH.nil)
                go_simp
                (refine hK.out _ _ (S9) (fun hHeld => ?_); clear hK K'; try simp only [Act.put, List.setIfInBounds_toArray, List.set_cons_zero, List.set_cons_succ])
                have r0 := R9.1
                have r1 := R9.2.1
                have r2 := R9.2.2.1
                have rf := R9.2.2.2
                refine wpAnyH_ready (rs := [11]) (by kernel_rfl) (by simp) (AllReadyH.cons (by simp only [List.getElem?_toArray, List.getElem?_cons_succ, List.getElem?_cons_zero]; exact rfl) (fun K' hK => ?_) AllReadyH.nil)
                go_simp
                (refine hK.out _ _ (SixB.set (SixB.set (SixB.set S9))) (fun hHeld => ?_); clear hK K'; try simp only [Act.put, List.setIfInBounds_toArray, List.set_cons_zero, List.set_cons_succ])
                refine wpAnyH_done (by kernel_rfl) ?_ _
                go_wp2
                refine bodyPost_ret (v := .agg #[.int .i64 W, .int .i64 H, .slice A9 R.length c9]) (by simp [results, Try.results31, go_sem, r0, r1, r2]) rfl ⟨_, rfl, ?_, ?_⟩
                · exact OwnE.mono (OwnE.setOther (a := ⟨w.heap.size + 2, 2, none⟩) (OwnE.setOther (a := ⟨w.heap.size + 2, 1, none⟩) (OwnE.setOther (a := ⟨w.heap.size + 2, 0, none⟩) ho9 zz _) zz _) zz _) (by omega)
                · exact (((GG.out.below.trans (D9.mono GG.out.below.size)).setCell (by simp; omega) _).setCell (by simp; omega) _).setCell (by simp; omega) _
            · go_simp
              (refine hK.out _ _ (SixB.gr HS.out (Gr.alloc (Gr.drew (Gr.refl W4)) _)) (fun hHeld => ?_); clear hK K'; try simp only [Act.put, List.setIfInBounds_toArray, List.set_cons_zero, List.set_cons_succ])
              refine wpAnyH_ready (rs := [0]) (by kernel_rfl) (by simp) (AllReadyH.cons (by simp only [List.getElem?_toArray, List.getElem?_cons_succ, List.getElem?_cons_zero]; exact rfl) (fun K' hK => ?_) AllReadyH.nil)
              go_simp
              (refine hK.out _ _ (SixB.gr HS.out (Gr.alloc (Gr.alloc (Gr.drew (Gr.refl W4)) _) _)) (fun hHeld => ?_); clear hK K'; try simp only [Act.put, List.setIfInBounds_toArray, List.set_cons_zero, List.set_cons_succ])
              refine wpAnyH_ready (rs := [5]) (by kernel_rfl) (by simp) (AllReadyH.cons (by simp only [List.getElem?_toArray, List.getElem?_cons_succ, List.getElem?_cons_zero]; exact rfl) (fun K' hK => ?_) AllReadyH.nil)
              refine step_appE bcs_len bcs_one rfl (.tmp 23) (.tmp 27) 28 rfl _ Try.underlying28 Try.infoB rfl (by decide) (by decide) W4.heap.size (.slice (some ⟨W4.heap.size + 1, 0, none⟩) 0 0) [] rfl (OwnE.empty (b := W4.heap.size + 1) (by refine heap_new' ?_; simp; done) (by omega)) ⟨g, 0, none⟩ k c (ps.take k) rfl HK1.out (fun j z hz => (show Gr W4 _ from (Gr.alloc (Gr.alloc (Gr.drew (Gr.refl W4)) _) _)).keep0 (HQ1.out j z hz)) (by simp) (by have := HK1.out; have := HLN.out; have := HLE.out; omega) (by (try simp); (try omega)) ?_; intro v1 w1 ho1 hb1 gb1 _; rw [List.nil_append] at ho1; obtain ⟨A1, c1, e1, ho1⟩ := OwnE.eta ho1; rw [HK1.out] at e1 ho1; subst e1
              have B1 : Below W4.heap.size W4 w1 := (Gr.alloc (Gr.alloc (Gr.drew (Gr.refl W4)) _) _).below.trans hb1
              (refine hK.out _ _ (SixB.bel HS.out B1 (Nat.lt_of_succ_lt zz)) (fun hHeld => ?_); clear hK K'; try simp only [Act.put, List.setIfInBounds_toArray, List.set_cons_zero, List.set_cons_succ])
              refine wpAnyH_ready (rs := [8]) (by kernel_rfl) (by simp) (AllReadyH.cons (by simp only [List.getElem?_toArray, List.getElem?_cons_succ, List.getElem?_cons_zero]; exact rfl) (fun K' hK => ?_) AllReadyH.nil)
              refine step_appE bcs_len bcs_one rfl (.tmp 28) (.tmp 30) 28 rfl _ Try.underlying28 Try.infoB rfl (by decide) (by decide) W4.heap.size _ (ps.take k) rfl (ho1) ⟨W4.heap.size, 0, none⟩ 1 1 [(x, y, u)] rfl rfl (fun j z hz => gb1.cell ((Gr.alloc (Gr.refl _) _).keep0 (alloc_cells' (by simp; done) (by simpa [ecs, bcs] using hz))) (by cases j <;> simp [Value.ownBlock, Addr.add])) (by have := HLN.out; have := HLE.out; simp; try omega) (by simp) (by have q := Below.size (B1); (try simp at q); (try simp); (try omega)) ?_; intro v8 w8 ho8 hb8 _ _; obtain ⟨A8, c8, e8, ho8⟩ := OwnE.eta ho8; rw [show (ps.take k ++ [(x, y, u)]).length = k + 1 by rw [List.length_append, HK1.out]; rfl] at e8 ho8; subst e8
              have B8 : Below W4.heap.size W4 w8 := (B1).trans hb8
              have S8 := SixB.bel HS.out B8 (Nat.lt_of_succ_lt zz)
              have R8 := RbxB.bel HRB.out B8 zz
              have HO8 := Lib.hid ho8
              have HB8 := Lib.hid B8
              (refine hK.out _ _ (S8) (fun hHeld => ?_); clear hK K'; try simp only [Act.put, List.setIfInBounds_toArray, List.set_cons_zero, List.set_cons_succ])
              refine wpAnyH_ready (rs := [9]) (by kernel_rfl) (by simp) (AllReadyH.cons (by simp only [List.getElem?_toArray, List.getElem?_cons_succ, List.getElem?_cons_zero]; exact rfl) (fun K' hK => ?_) AllReadyH.nil)
              go_simp
              (refine hK.out _ _ (S8) (fun hHeld => ?_); clear hK K'; try simp only [Act.put, List.setIfInBounds_toArray, List.set_cons_zero, List.set_cons_succ])
              refine wpAnyH_done (by kernel_rfl) ?_ _
              have HS8 := Lib.hid S8
              have HR8 := Lib.hid R8
              clear S8 R8 ho8
              go_wp2
              refine wp_region_held_drew (S := fun W' => W'.cell? ⟨w.heap.size, 0, none⟩ = some (.int .i64 W) ∧ W'.cell? ⟨w.heap.size, 1, none⟩ = some (.int .i64 H) ∧ W'.cell? ⟨w.heap.size, 2, none⟩ = some (.slice (some ⟨g, 0, none⟩) ps.length c) ∧ W'.cell? ⟨w.heap.size + 1, 0, none⟩ = some (.int .i64 x) ∧ W'.cell? ⟨w.heap.size + 1, 1, none⟩ = some (.int .i64 y) ∧ W'.cell? ⟨w.heap.size + 1, 2, none⟩ = some (.bool u)) (by kernel_rfl) (SixB.gr HS8.out (Gr.drew (Gr.refl _))) (fun hHeld => ?_)
              (refine wpAnyH_take (i := 0) (v := ?_) (by simp only [List.getElem?_toArray, List.getElem?_cons_succ, List.getElem?_cons_zero]; exact rfl) (by kernel_rfl) (by kernel_rfl) (by kernel_rfl) (by intro _ _ _ h; exact h) (Or.inl ⟨by rfl, ?_⟩) (by assumption) ?_; rotate_left; (focus (intro w' hSw; (try dsimp only at hSw); go_simp; (try with_reducible rfl))); try simp only [Act.put, List.setIfInBounds_toArray, List.set_cons_zero, List.set_cons_succ])
              (refine wpAnyH_take (i := 1) (v := ?_) (by simp only [List.getElem?_toArray, List.getElem?_cons_succ, List.getElem?_cons_zero]; exact rfl) (by kernel_rfl) (by kernel_rfl) (by kernel_rfl) (by intro _ _ _ h; exact h) (Or.inl ⟨by rfl, ?_⟩) (by assumption) ?_; rotate_left; (focus (intro w' hSw; (try dsimp only at hSw); go_simp; (try with_reducible rfl))); try simp only [Act.put, List.setIfInBounds_toArray, List.set_cons_zero, List.set_cons_succ])
              (refine wpAnyH_take (i := 2) (v := ?_) (by simp only [List.getElem?_toArray, List.getElem?_cons_succ, List.getElem?_cons_zero]; exact rfl) (by kernel_rfl) (by kernel_rfl) (by kernel_rfl) (by intro _ _ _ h; exact h) (Or.inl ⟨by rfl, ?_⟩) (by assumption) ?_; rotate_left; (focus (intro w' hSw; (try dsimp only at hSw); go_simp; (try with_reducible rfl))); try simp only [Act.put, List.setIfInBounds_toArray, List.set_cons_zero, List.set_cons_succ])
              (refine wpAnyH_take (i := 3) (v := ?_) (by simp only [List.getElem?_toArray, List.getElem?_cons_succ, List.getElem?_cons_zero]; exact rfl) (by kernel_rfl) (by kernel_rfl) (by kernel_rfl) (by intro _ _ _ h; exact h) (Or.inl ⟨by rfl, ?_⟩) (by assumption) ?_; rotate_left; (focus (intro w' hSw; (try dsimp only at hSw); go_simp; (try with_reducible rfl))); try simp only [Act.put, List.setIfInBounds_toArray, List.set_cons_zero, List.set_cons_succ])
              (refine wpAnyH_take (i := 4) (v := ?_) (by simp only [List.getElem?_toArray, List.getElem?_cons_succ, List.getElem?_cons_zero]; exact rfl) (by kernel_rfl) (by kernel_rfl) (by kernel_rfl) (by intro _ _ _ h; exact h) (Or.inl ⟨by rfl, ?_⟩) (by assumption) ?_; rotate_left; (focus (intro w' hSw; (try dsimp only at hSw); go_simp; (try with_reducible rfl))); try simp only [Act.put, List.setIfInBounds_toArray, List.set_cons_zero, List.set_cons_succ])
              (refine wpAnyH_take (i := 5) (v := ?_) (by simp only [List.getElem?_toArray, List.getElem?_cons_succ, List.getElem?_cons_zero]; exact rfl) (by kernel_rfl) (by kernel_rfl) (by kernel_rfl) (by intro _ _ _ h; exact h) (Or.inl ⟨by rfl, ?_⟩) (by assumption) ?_; rotate_left; (focus (intro w' hSw; (try dsimp only at hSw); go_simp; (try with_reducible rfl))); try simp only [Act.put, List.setIfInBounds_toArray, List.set_cons_zero, List.set_cons_succ])
              (refine wpAnyH_take (i := 6) (v := ?_) (by simp only [List.getElem?_toArray, List.getElem?_cons_succ, List.getElem?_cons_zero]; exact rfl) (by kernel_rfl) (by kernel_rfl) (by kernel_rfl) (by intro _ _ _ h; exact h) (Or.inl ⟨by rfl, ?_⟩) (by assumption) ?_; rotate_left; (focus (intro w' hSw; (try dsimp only at hSw); go_simp; (try with_reducible rfl))); try simp only [Act.put, List.setIfInBounds_toArray, List.set_cons_zero, List.set_cons_succ])
              (refine wpAnyH_take (i := 7) (v := ?_) (by simp only [List.getElem?_toArray, List.getElem?_cons_succ, List.getElem?_cons_zero]; exact rfl) (by kernel_rfl) (by kernel_rfl) (by kernel_rfl) (by intro _ _ _ h; exact h) (Or.inl ⟨by rfl, ?_⟩) (by assumption) ?_; rotate_left; (focus (intro w' hSw; (try dsimp only at hSw); go_simp; (try with_reducible rfl))); try simp only [Act.put, List.setIfInBounds_toArray, List.set_cons_zero, List.set_cons_succ])
              (refine wpAnyH_take (i := 8) (v := ?_) (by simp only [List.getElem?_toArray, List.getElem?_cons_succ, List.getElem?_cons_zero]; exact rfl) (by kernel_rfl) (by kernel_rfl) (by kernel_rfl) (by intro _ _ _ h; exact h) (Or.inl ⟨by rfl, ?_⟩) (by assumption) ?_; rotate_left; (focus (intro w' hSw; (try dsimp only at hSw); go_simp; (try with_reducible rfl))); try simp only [Act.put, List.setIfInBounds_toArray, List.set_cons_zero, List.set_cons_succ])
              refine wpAnyH_ready (rs := [9]) (by kernel_rfl) (by simp) (AllReadyH.cons (by simp only [List.getElem?_toArray, List.getElem?_cons_succ, List.getElem?_cons_zero]; exact rfl) (fun K' hK => ?_) AllReadyH.nil)
              refine step_appE bcs_len bcs_one rfl (.tmp 36) (.tmp 40) 28 rfl _ Try.underlying28 Try.infoB rfl (by decide) (by decide) W4.heap.size _ (ps.take k ++ [(x, y, u)]) rfl (OwnE.gr HO8.out (Gr.drew (Gr.refl _))) ⟨g, k * 3, none⟩ (ps.length - k) (c - k) (ps.drop k) rfl HK2.out (fun j z hz => Below.cell_of (Below.drew HB8.out) (HQ2.out j z hz)) (by have := HLN.out; have := HLE.out; simp; try omega) (by have := HLN.out; simp; try omega) (by have := (Below.drew HB8.out).size; exact this) ?_; intro v9 w9 ho9 hb9 _ _
              have e9 := HINS.out
              rw [e9] at ho9
              obtain ⟨A9, c9, rfl, ho9⟩ := OwnE.eta ho9
              have D9 : Below W4.heap.size W4 w9 := (Below.drew HB8.out).trans hb9
              have S9 := SixB.bel HS.out D9 (Nat.lt_of_succ_lt zz)
              have R9 := RbxB.bel HRB.out D9 zz
              (refine hK.out _ _ (S9) (fun hHeld => ?_); clear hK K'; try simp only [Act.put, List.setIfInBounds_toArray, List.set_cons_zero, List.set_cons_succ])
              refine wpAnyH_ready (rs := [10]) (by kernel_rfl) (by simp) (AllReadyH.cons (by simp only [List.getElem?_toArray, List.getElem?_cons_succ, List.getElem?_cons_zero]; exact rfl) (fun K' hK => ?_) AllReadyH.nil)
              go_simp
              (refine hK.out _ _ (S9) (fun hHeld => ?_); clear hK K'; try simp only [Act.put, List.setIfInBounds_toArray, List.set_cons_zero, List.set_cons_succ])
              have r0 := R9.1
              have r1 := R9.2.1
              have r2 := R9.2.2.1
              have rf := R9.2.2.2
              refine wpAnyH_ready (rs := [11]) (by kernel_rfl) (by simp) (AllReadyH.cons (by simp only [List.getElem?_toArray, List.getElem?_cons_succ, List.getElem?_cons_zero]; exact rfl) (fun K' hK => ?_) AllReadyH.nil)
              go_simp
              (refine hK.out _ _ (SixB.set (SixB.set (SixB.set S9))) (fun hHeld => ?_); clear hK K'; try simp only [Act.put, List.setIfInBounds_toArray, List.set_cons_zero, List.set_cons_succ])
              refine wpAnyH_done (by kernel_rfl) ?_ _
              go_wp2
              refine bodyPost_ret (v := .agg #[.int .i64 W, .int .i64 H, .slice A9 R.length c9]) (by simp [results, Try.results31, go_sem, r0, r1, r2]) rfl ⟨_, rfl, ?_, ?_⟩
              · exact OwnE.mono (OwnE.setOther (a := ⟨w.heap.size + 2, 2, none⟩) (OwnE.setOther (a := ⟨w.heap.size + 2, 1, none⟩) (OwnE.setOther (a := ⟨w.heap.size + 2, 0, none⟩) ho9 zz _) zz _) zz _) (by omega)
              · exact (((GG.out.below.trans (D9.mono GG.out.below.size)).setCell (by simp; omega) _).setCell (by simp; omega) _).setCell (by simp; omega) _
          · have HLL := Lib.hid (show k = ps.length by have := HLE.out; omega)
            have z2 : decide ((k : Int) < (ps.length : Int)) = false := decide_eq_false (by have := HLL.out; omega)
            have z2' : ¬ (k : Int) < (ps.length : Int) := by have := HLL.out; omega
            have z3 : decide (k < ps.length) = false := decide_eq_false hle
            clear hlt
            go_wp2
            (refine wp_region_quiet_grown mixed (by kernel_rfl) ?_; (repeat (first | go_big_quiet_step (skip) | quiet_step (skip))); refine wpQuiet_nil ?_; intro _ hw'; obtain ⟨⟨nq, osq⟩, hw''⟩ := hw'; subst hw'')
            go_wp2
            have hc2 : k ≤ c := by have := HLL.out; omega
            have zc1 : (k : Int) ≤ (c : Int) := by omega
            have zc2 : ¬ c = k := HCK.out
            have zc3 : (ps.length : Int) ≤ (c : Int) := by omega
            have zc4 : (k : Int) ≤ (ps.length : Int) := by have := HLL.out; omega
            have zc5 : k ≤ ps.length := by have := HLL.out; omega
            obtain ⟨W4, hW4⟩ : ∃ W4, W4 = Go.Sort.grow (wr.drewN nq) osq := ⟨_, rfl⟩
            rw [← hW4]
            have gX4 : Gr X W4 := by rw [hW4]; exact Gr.grow (Gr.drewN GR.out _) _
            have GG := Lib.hid (GW.out.trans gX4)
            have HS := Lib.hid (SixB.gr SX.out gX4)
            have HRB := Lib.hid (RbxB.bel RX.out gX4.below (show w.heap.size + 2 < X.heap.size from World.block_lt_of_cell? _ _ RX.out.1))
            have zz : w.heap.size + 2 < W4.heap.size := World.block_lt_of_cell? _ _ HRB.out.1
            have HQ1 := Lib.hid (fun j z hz => (GG.out.keep0 (HP1.out j z hz)))
            have HQ2 := Lib.hid (fun j z hz => (GG.out.keep0 (HP2.out j z hz)))
            clear gX4 hW4
            refine wp_region_held_drew (S := fun W' => W'.cell? ⟨w.heap.size, 0, none⟩ = some (.int .i64 W) ∧ W'.cell? ⟨w.heap.size, 1, none⟩ = some (.int .i64 H) ∧ W'.cell? ⟨w.heap.size, 2, none⟩ = some (.slice (some ⟨g, 0, none⟩) ps.length c) ∧ W'.cell? ⟨w.heap.size + 1, 0, none⟩ = some (.int .i64 x) ∧ W'.cell? ⟨w.heap.size + 1, 1, none⟩ = some (.int .i64 y) ∧ W'.cell? ⟨w.heap.size + 1, 2, none⟩ = some (.bool u)) (by kernel_rfl) (SixB.gr HS.out (Gr.drew (Gr.refl W4))) (fun hHeld => ?_)
            (refine wpAnyH_take (i := 1) (v := ?_) (by simp only [List.getElem?_toArray, List.getElem?_cons_succ, List.getElem?_cons_zero]; exact rfl) (by kernel_rfl) (by kernel_rfl) (by kernel_rfl) (by intro _ _ _ h; exact h) (Or.inl ⟨by rfl, ?_⟩) (by assumption) ?_; rotate_left; (focus (intro w' hSw; (try dsimp only at hSw); go_simp; (try with_reducible rfl))); try simp only [Act.put, List.setIfInBounds_toArray, List.set_cons_zero, List.set_cons_succ])
            (refine wpAnyH_take (i := 2) (v := ?_) (by simp only [List.getElem?_toArray, List.getElem?_cons_succ, List.getElem?_cons_zero]; exact rfl) (by kernel_rfl) (by kernel_rfl) (by kernel_rfl) (by intro _ _ _ h; exact h) (Or.inl ⟨by rfl, ?_⟩) (by assumption) ?_; rotate_left; (focus (intro w' hSw; (try dsimp only at hSw); go_simp; (try with_reducible rfl))); try simp only [Act.put, List.setIfInBounds_toArray, List.set_cons_zero, List.set_cons_succ])
            (refine wpAnyH_take (i := 3) (v := ?_) (by simp only [List.getElem?_toArray, List.getElem?_cons_succ, List.getElem?_cons_zero]; exact rfl) (by kernel_rfl) (by kernel_rfl) (by kernel_rfl) (by intro _ _ _ h; exact h) (Or.inl ⟨by rfl, ?_⟩) (by assumption) ?_; rotate_left; (focus (intro w' hSw; (try dsimp only at hSw); go_simp; (try with_reducible rfl))); try simp only [Act.put, List.setIfInBounds_toArray, List.set_cons_zero, List.set_cons_succ])
            (refine wpAnyH_take (i := 4) (v := ?_) (by simp only [List.getElem?_toArray, List.getElem?_cons_succ, List.getElem?_cons_zero]; exact rfl) (by kernel_rfl) (by kernel_rfl) (by kernel_rfl) (by intro _ _ _ h; exact h) (Or.inl ⟨by rfl, ?_⟩) (by assumption) ?_; rotate_left; (focus (intro w' hSw; (try dsimp only at hSw); go_simp; (try with_reducible rfl))); try simp only [Act.put, List.setIfInBounds_toArray, List.set_cons_zero, List.set_cons_succ])
            (refine wpAnyH_take (i := 6) (v := ?_) (by simp only [List.getElem?_toArray, List.getElem?_cons_succ, List.getElem?_cons_zero]; exact rfl) (by kernel_rfl) (by kernel_rfl) (by kernel_rfl) (by intro _ _ _ h; exact h) (Or.inl ⟨by rfl, ?_⟩) (by assumption) ?_; rotate_left; (focus (intro w' hSw; (try dsimp only at hSw); go_simp; (try with_reducible rfl))); try simp only [Act.put, List.setIfInBounds_toArray, List.set_cons_zero, List.set_cons_succ])
            refine wpAnyH_ready (rs := [0, 7]) (by kernel_rfl) (by simp) (AllReadyH.cons (by simp only [List.getElem?_toArray, List.getElem?_cons_succ, List.getElem?_cons_zero]; exact rfl) (fun K' hK => ?_) (AllReadyH.cons (by simp only [List.getElem?_toArray, List.getElem?_cons_succ, List.getElem?_cons_zero]; exact rfl) (fun K' hK => ?_) AllReadyH.nil))
            · go_simp
              (refine hK.out _ _ (SixB.gr HS.out (Gr.alloc (Gr.drew (Gr.refl W4)) _)) (fun hHeld => ?_); clear hK K'; try simp only [Act.put, List.setIfInBounds_toArray, List.set_cons_zero, List.set_cons_succ])
              refine wpAnyH_ready (rs := [5, 7]) (by kernel_rfl) (by simp) (AllReadyH.cons (by simp only [List.getElem?_toArray, List.getElem?_cons_succ, List.getElem?_cons_zero]; exact rfl) (fun K' hK => ?_) (AllReadyH.cons (by simp only [List.getElem?_toArray, List.getElem?_cons_succ, List.getElem?_cons_zero]; exact rfl) (fun K' hK => ?_) AllReadyH.nil))
              · refine step_appE bcs_len bcs_one rfl (.tmp 23) (.tmp 27) 28 rfl _ Try.underlying28 Try.infoB rfl (by decide) (by decide) W4.heap.size (.slice (some ⟨W4.heap.size, 0, none⟩) 0 0) [] rfl (OwnE.empty (b := W4.heap.size) (by refine heap_new' ?_; simp; done) (by omega)) ⟨g, 0, none⟩ k c (ps.take k) rfl HK1.out (fun j z hz => (show Gr W4 _ from (Gr.alloc (Gr.drew (Gr.refl W4)) _)).keep0 (HQ1.out j z hz)) (by simp) (by have := HK1.out; have := HLN.out; have := HLE.out; omega) (by (try simp); (try omega)) ?_; intro v1 w1 ho1 hb1 gb1 _; rw [List.nil_append] at ho1; obtain ⟨A1, c1, e1, ho1⟩ := OwnE.eta ho1; rw [HK1.out] at e1 ho1; subst e1
                have B1 : Below W4.heap.size W4 w1 := (Gr.alloc (Gr.drew (Gr.refl W4)) _).below.trans hb1
                (refine hK.out _ _ (SixB.bel HS.out B1 (Nat.lt_of_succ_lt zz)) (fun hHeld => ?_); clear hK K'; try simp only [Act.put, List.setIfInBounds_toArray, List.set_cons_zero, List.set_cons_succ])
                refine wpAnyH_ready (rs := [7]) (by kernel_rfl) (by simp) (AllReadyH.cons (by simp only [List.getElem?_toArray, List.getElem?_cons_succ, List.getElem?_cons_zero]; exact rfl) (fun K' hK => ?_) AllReadyH.nil)
                go_simp
                have B7 := B1.trans ((Gr.alloc (Gr.refl w1) (Obj.cells #[.int .i64 x, .int .i64 y, .bool u] 34)).below.mono B1.size)
                (refine hK.out _ _ (SixB.bel HS.out B7 (Nat.lt_of_succ_lt zz)) (fun hHeld => ?_); clear hK K'; try simp only [Act.put, List.setIfInBounds_toArray, List.set_cons_zero, List.set_cons_succ])
                refine wpAnyH_ready (rs := [8]) (by kernel_rfl) (by simp) (AllReadyH.cons (by simp only [List.getElem?_toArray, List.getElem?_cons_succ, List.getElem?_cons_zero]; exact rfl) (fun K' hK => ?_) AllReadyH.nil)
                refine step_appE bcs_len bcs_one rfl (.tmp 28) (.tmp 30) 28 rfl _ Try.underlying28 Try.infoB rfl (by decide) (by decide) W4.heap.size _ (ps.take k) rfl (OwnE.gr ho1 (Gr.alloc (Gr.refl _) _)) ⟨w1.heap.size, 0, none⟩ 1 1 [(x, y, u)] rfl rfl (fun j z hz => alloc_cells (by simpa [ecs, bcs] using hz)) (by have := HLN.out; have := HLE.out; simp; try omega) (by simp) (by have q := Below.size (B7); (try simp at q); (try simp); (try omega)) ?_; intro v8 w8 ho8 hb8 _ _; obtain ⟨A8, c8, e8, ho8⟩ := OwnE.eta ho8; rw [show (ps.take k ++ [(x, y, u)]).length = k + 1 by rw [List.length_append, HK1.out]; rfl] at e8 ho8; subst e8
                have B8 : Below W4.heap.size W4 w8 := (B7).trans hb8
                have S8 := SixB.bel HS.out B8 (Nat.lt_of_succ_lt zz)
                have R8 := RbxB.bel HRB.out B8 zz
                have HO8 := Lib.hid ho8
                have HB8 := Lib.hid B8
                (refine hK.out _ _ (S8) (fun hHeld => ?_); clear hK K'; try simp only [Act.put, List.setIfInBounds_toArray, List.set_cons_zero, List.set_cons_succ])
                refine wpAnyH_ready (rs := [9]) (by kernel_rfl) (by simp) (AllReadyH.cons (by simp only [List.getElem?_toArray, List.getElem?_cons_succ, List.getElem?_cons_zero]; exact rfl) (fun K' hK => ?_) AllReadyH.nil)
                go_simp
                (refine hK.out _ _ (S8) (fun hHeld => ?_); clear hK K'; try simp only [Act.put, List.setIfInBounds_toArray, List.set_cons_zero, List.set_cons_succ])
                refine wpAnyH_done (by kernel_rfl) ?_ _
                have HS8 := Lib.hid S8
                have HR8 := Lib.hid R8
                clear S8 R8 ho8
                go_wp2
                refine wp_region_held_drew (S := fun W' => W'.cell? ⟨w.heap.size, 0, none⟩ = some (.int .i64 W) ∧ W'.cell? ⟨w.heap.size, 1, none⟩ = some (.int .i64 H) ∧ W'.cell? ⟨w.heap.size, 2, none⟩ = some (.slice (some ⟨g, 0, none⟩) ps.length c) ∧ W'.cell? ⟨w.heap.size + 1, 0, none⟩ = some (.int .i64 x) ∧ W'.cell? ⟨w.heap.size + 1, 1, none⟩ = some (.int .i64 y) ∧ W'.cell? ⟨w.heap.size + 1, 2, none⟩ = some (.bool u)) (by kernel_rfl) (SixB.gr HS8.out (Gr.drew (Gr.refl _))) (fun hHeld => ?_)
                (refine wpAnyH_take (i := 0) (v := ?_) (by simp only [List.getElem?_toArray, List.getElem?_cons_succ, List.getElem?_cons_zero]; exact rfl) (by kernel_rfl) (by kernel_rfl) (by kernel_rfl) (by intro _ _ _ h; exact h) (Or.inl ⟨by rfl, ?_⟩) (by assumption) ?_; rotate_left; (focus (intro w' hSw; (try dsimp only at hSw); go_simp; (try with_reducible rfl))); try simp only [Act.put, List.setIfInBounds_toArray, List.set_cons_zero, List.set_cons_succ])
                (refine wpAnyH_take (i := 1) (v := ?_) (by simp only [List.getElem?_toArray, List.getElem?_cons_succ, List.getElem?_cons_zero]; exact rfl) (by kernel_rfl) (by kernel_rfl) (by kernel_rfl) (by intro _ _ _ h; exact h) (Or.inl ⟨by rfl, ?_⟩) (by assumption) ?_; rotate_left; (focus (intro w' hSw; (try dsimp only at hSw); go_simp; (try with_reducible rfl))); try simp only [Act.put, List.setIfInBounds_toArray, List.set_cons_zero, List.set_cons_succ])
                (refine wpAnyH_take (i := 2) (v := ?_) (by simp only [List.getElem?_toArray, List.getElem?_cons_succ, List.getElem?_cons_zero]; exact rfl) (by kernel_rfl) (by kernel_rfl) (by kernel_rfl) (by intro _ _ _ h; exact h) (Or.inl ⟨by rfl, ?_⟩) (by assumption) ?_; rotate_left; (focus (intro w' hSw; (try dsimp only at hSw); go_simp; (try with_reducible rfl))); try simp only [Act.put, List.setIfInBounds_toArray, List.set_cons_zero, List.set_cons_succ])
                (refine wpAnyH_take (i := 3) (v := ?_) (by simp only [List.getElem?_toArray, List.getElem?_cons_succ, List.getElem?_cons_zero]; exact rfl) (by kernel_rfl) (by kernel_rfl) (by kernel_rfl) (by intro _ _ _ h; exact h) (Or.inl ⟨by rfl, ?_⟩) (by assumption) ?_; rotate_left; (focus (intro w' hSw; (try dsimp only at hSw); go_simp; (try with_reducible rfl))); try simp only [Act.put, List.setIfInBounds_toArray, List.set_cons_zero, List.set_cons_succ])
                (refine wpAnyH_take (i := 4) (v := ?_) (by simp only [List.getElem?_toArray, List.getElem?_cons_succ, List.getElem?_cons_zero]; exact rfl) (by kernel_rfl) (by kernel_rfl) (by kernel_rfl) (by intro _ _ _ h; exact h) (Or.inl ⟨by rfl, ?_⟩) (by assumption) ?_; rotate_left; (focus (intro w' hSw; (try dsimp only at hSw); go_simp; (try with_reducible rfl))); try simp only [Act.put, List.setIfInBounds_toArray, List.set_cons_zero, List.set_cons_succ])
                (refine wpAnyH_take (i := 5) (v := ?_) (by simp only [List.getElem?_toArray, List.getElem?_cons_succ, List.getElem?_cons_zero]; exact rfl) (by kernel_rfl) (by kernel_rfl) (by kernel_rfl) (by intro _ _ _ h; exact h) (Or.inl ⟨by rfl, ?_⟩) (by assumption) ?_; rotate_left; (focus (intro w' hSw; (try dsimp only at hSw); go_simp; (try with_reducible rfl))); try simp only [Act.put, List.setIfInBounds_toArray, List.set_cons_zero, List.set_cons_succ])
                (refine wpAnyH_take (i := 6) (v := ?_) (by simp only [List.getElem?_toArray, List.getElem?_cons_succ, List.getElem?_cons_zero]; exact rfl) (by kernel_rfl) (by kernel_rfl) (by kernel_rfl) (by intro _ _ _ h; exact h) (Or.inl ⟨by rfl, ?_⟩) (by assumption) ?_; rotate_left; (focus (intro w' hSw; (try dsimp only at hSw); go_simp; (try with_reducible rfl))); try simp only [Act.put, List.setIfInBounds_toArray, List.set_cons_zero, List.set_cons_succ])
                (refine wpAnyH_take (i := 7) (v := ?_) (by simp only [List.getElem?_toArray, List.getElem?_cons_succ, List.getElem?_cons_zero]; exact rfl) (by kernel_rfl) (by kernel_rfl) (by kernel_rfl) (by intro _ _ _ h; exact h) (Or.inl ⟨by rfl, ?_⟩) (by assumption) ?_; rotate_left; (focus (intro w' hSw; (try dsimp only at hSw); go_simp; (try with_reducible rfl))); try simp only [Act.put, List.setIfInBounds_toArray, List.set_cons_zero, List.set_cons_succ])
                (refine wpAnyH_take (i := 8) (v := ?_) (by simp only [List.getElem?_toArray, List.getElem?_cons_succ, List.getElem?_cons_zero]; exact rfl) (by kernel_rfl) (by kernel_rfl) (by kernel_rfl) (by intro _ _ _ h; exact h) (Or.inl ⟨by rfl, ?_⟩) (by assumption) ?_; rotate_left; (focus (intro w' hSw; (try dsimp only at hSw); go_simp; (try with_reducible rfl))); try simp only [Act.put, List.setIfInBounds_toArray, List.set_cons_zero, List.set_cons_succ])
                refine wpAnyH_ready (rs := [9]) (by kernel_rfl) (by simp) (AllReadyH.cons (by simp only [List.getElem?_toArray, List.getElem?_cons_succ, List.getElem?_cons_zero]; exact rfl) (fun K' hK => ?_) AllReadyH.nil)
                refine step_appE bcs_len bcs_one rfl (.tmp 36) (.tmp 40) 28 rfl _ Try.underlying28 Try.infoB rfl (by decide) (by decide) W4.heap.size _ (ps.take k ++ [(x, y, u)]) rfl (OwnE.gr HO8.out (Gr.drew (Gr.refl _))) ⟨g, k * 3, none⟩ (ps.length - k) (c - k) (ps.drop k) rfl HK2.out (fun j z hz => Below.cell_of (Below.drew HB8.out) (HQ2.out j z hz)) (by have := HLN.out; have := HLE.out; simp; try omega) (by have := HLN.out; simp; try omega) (by have := (Below.drew HB8.out).size; exact this) ?_; intro v9 w9 ho9 hb9 _ _
                have e9 := HINS.out
                rw [e9] at ho9
                obtain ⟨A9, c9, rfl, ho9⟩ := OwnE.eta ho9
                have D9 : Below W4.heap.size W4 w9 := (Below.drew HB8.out).trans hb9
                have S9 := SixB.bel HS.out D9 (Nat.lt_of_succ_lt zz)
                have R9 := RbxB.bel HRB.out D9 zz
                (refine hK.out _ _ (S9) (fun hHeld => ?_); clear hK K'; try simp only [Act.put, List.setIfInBounds_toArray, List.set_cons_zero, List.set_cons_succ])
                refine wpAnyH_ready (rs := [10]) (by kernel_rfl) (by simp) (AllReadyH.cons (by simp only [List.getElem?_toArray, List.getElem?_cons_succ, List.getElem?_cons_zero]; exact rfl) (fun K' hK => ?_) AllReadyH.nil)
                go_simp
                (refine hK.out _ _ (S9) (fun hHeld => ?_); clear hK K'; try simp only [Act.put, List.setIfInBounds_toArray, List.set_cons_zero, List.set_cons_succ])
                have r0 := R9.1
                have r1 := R9.2.1
                have r2 := R9.2.2.1
                have rf := R9.2.2.2
                refine wpAnyH_ready (rs := [11]) (by kernel_rfl) (by simp) (AllReadyH.cons (by simp only [List.getElem?_toArray, List.getElem?_cons_succ, List.getElem?_cons_zero]; exact rfl) (fun K' hK => ?_) AllReadyH.nil)
                go_simp
                (refine hK.out _ _ (SixB.set (SixB.set (SixB.set S9))) (fun hHeld => ?_); clear hK K'; try simp only [Act.put, List.setIfInBounds_toArray, List.set_cons_zero, List.set_cons_succ])
                refine wpAnyH_done (by kernel_rfl) ?_ _
                go_wp2
                refine bodyPost_ret (v := .agg #[.int .i64 W, .int .i64 H, .slice A9 R.length c9]) (by simp [results, Try.results31, go_sem, r0, r1, r2]) rfl ⟨_, rfl, ?_, ?_⟩
                · exact OwnE.mono (OwnE.setOther (a := ⟨w.heap.size + 2, 2, none⟩) (OwnE.setOther (a := ⟨w.heap.size + 2, 1, none⟩) (OwnE.setOther (a := ⟨w.heap.size + 2, 0, none⟩) ho9 zz _) zz _) zz _) (by omega)
                · exact (((GG.out.below.trans (D9.mono GG.out.below.size)).setCell (by simp; omega) _).setCell (by simp; omega) _).setCell (by simp; omega) _
              · go_simp
                (refine hK.out _ _ (SixB.gr HS.out (Gr.alloc (Gr.alloc (Gr.drew (Gr.refl W4)) _) _)) (fun hHeld => ?_); clear hK K'; try simp only [Act.put, List.setIfInBounds_toArray, List.set_cons_zero, List.set_cons_succ])
                refine wpAnyH_ready (rs := [5]) (by kernel_rfl) (by simp) (AllReadyH.cons (by simp only [List.getElem?_toArray, List.getElem?_cons_succ, List.getElem?_cons_zero]; exact rfl) (fun K' hK => ?_) AllReadyH.nil)
                refine step_appE bcs_len bcs_one rfl (.tmp 23) (.tmp 27) 28 rfl _ Try.underlying28 Try.infoB rfl (by decide) (by decide) W4.heap.size (.slice (some ⟨W4.heap.size, 0, none⟩) 0 0) [] rfl (OwnE.empty (b := W4.heap.size) (((Gr.alloc (Gr.refl _) _).below.block W4.heap.size (by simp)).trans (by refine heap_new' ?_; simp; done)) (by omega)) ⟨g, 0, none⟩ k c (ps.take k) rfl HK1.out (fun j z hz => (show Gr W4 _ from (Gr.alloc (Gr.alloc (Gr.drew (Gr.refl W4)) _) _)).keep0 (HQ1.out j z hz)) (by simp) (by have := HK1.out; have := HLN.out; have := HLE.out; omega) (by (try simp); (try omega)) ?_; intro v1 w1 ho1 hb1 gb1 _; rw [List.nil_append] at ho1; obtain ⟨A1, c1, e1, ho1⟩ := OwnE.eta ho1; rw [HK1.out] at e1 ho1; subst e1
                have B1 : Below W4.heap.size W4 w1 := (Gr.alloc (Gr.alloc (Gr.drew (Gr.refl W4)) _) _).below.trans hb1
                (refine hK.out _ _ (SixB.bel HS.out B1 (Nat.lt_of_succ_lt zz)) (fun hHeld => ?_); clear hK K'; try simp only [Act.put, List.setIfInBounds_toArray, List.set_cons_zero, List.set_cons_succ])
                refine wpAnyH_ready (rs := [8]) (by kernel_rfl) (by simp) (AllReadyH.cons (by simp only [List.getElem?_toArray, List.getElem?_cons_succ, List.getElem?_cons_zero]; exact rfl) (fun K' hK => ?_) AllReadyH.nil)
                refine step_appE bcs_len bcs_one rfl (.tmp 28) (.tmp 30) 28 rfl _ Try.underlying28 Try.infoB rfl (by decide) (by decide) W4.heap.size _ (ps.take k) rfl (ho1) ⟨W4.heap.size + 1, 0, none⟩ 1 1 [(x, y, u)] rfl rfl (fun j z hz => gb1.cell (alloc_cells' (by simp; done) (by simpa [ecs, bcs] using hz)) (by cases j <;> simp [Value.ownBlock, Addr.add])) (by have := HLN.out; have := HLE.out; simp; try omega) (by simp) (by have q := Below.size (B1); (try simp at q); (try simp); (try omega)) ?_; intro v8 w8 ho8 hb8 _ _; obtain ⟨A8, c8, e8, ho8⟩ := OwnE.eta ho8; rw [show (ps.take k ++ [(x, y, u)]).length = k + 1 by rw [List.length_append, HK1.out]; rfl] at e8 ho8; subst e8
                have B8 : Below W4.heap.size W4 w8 := (B1).trans hb8
                have S8 := SixB.bel HS.out B8 (Nat.lt_of_succ_lt zz)
                have R8 := RbxB.bel HRB.out B8 zz
                have HO8 := Lib.hid ho8
                have HB8 := Lib.hid B8
                (refine hK.out _ _ (S8) (fun hHeld => ?_); clear hK K'; try simp only [Act.put, List.setIfInBounds_toArray, List.set_cons_zero, List.set_cons_succ])
                refine wpAnyH_ready (rs := [9]) (by kernel_rfl) (by simp) (AllReadyH.cons (by simp only [List.getElem?_toArray, List.getElem?_cons_succ, List.getElem?_cons_zero]; exact rfl) (fun K' hK => ?_) AllReadyH.nil)
                go_simp
                (refine hK.out _ _ (S8) (fun hHeld => ?_); clear hK K'; try simp only [Act.put, List.setIfInBounds_toArray, List.set_cons_zero, List.set_cons_succ])
                refine wpAnyH_done (by kernel_rfl) ?_ _
                have HS8 := Lib.hid S8
                have HR8 := Lib.hid R8
                clear S8 R8 ho8
                go_wp2
                refine wp_region_held_drew (S := fun W' => W'.cell? ⟨w.heap.size, 0, none⟩ = some (.int .i64 W) ∧ W'.cell? ⟨w.heap.size, 1, none⟩ = some (.int .i64 H) ∧ W'.cell? ⟨w.heap.size, 2, none⟩ = some (.slice (some ⟨g, 0, none⟩) ps.length c) ∧ W'.cell? ⟨w.heap.size + 1, 0, none⟩ = some (.int .i64 x) ∧ W'.cell? ⟨w.heap.size + 1, 1, none⟩ = some (.int .i64 y) ∧ W'.cell? ⟨w.heap.size + 1, 2, none⟩ = some (.bool u)) (by kernel_rfl) (SixB.gr HS8.out (Gr.drew (Gr.refl _))) (fun hHeld => ?_)
                (refine wpAnyH_take (i := 0) (v := ?_) (by simp only [List.getElem?_toArray, List.getElem?_cons_succ, List.getElem?_cons_zero]; exact rfl) (by kernel_rfl) (by kernel_rfl) (by kernel_rfl) (by intro _ _ _ h; exact h) (Or.inl ⟨by rfl, ?_⟩) (by assumption) ?_; rotate_left; (focus (intro w' hSw; (try dsimp only at hSw); go_simp; (try with_reducible rfl))); try simp only [Act.put, List.setIfInBounds_toArray, List.set_cons_zero, List.set_cons_succ])
                (refine wpAnyH_take (i := 1) (v := ?_) (by simp only [List.getElem?_toArray, List.getElem?_cons_succ, List.getElem?_cons_zero]; exact rfl) (by kernel_rfl) (by kernel_rfl) (by kernel_rfl) (by intro _ _ _ h; exact h) (Or.inl ⟨by rfl, ?_⟩) (by assumption) ?_; rotate_left; (focus (intro w' hSw; (try dsimp only at hSw); go_simp; (try with_reducible rfl))); try simp only [Act.put, List.setIfInBounds_toArray, List.set_cons_zero, List.set_cons_succ])
                (refine wpAnyH_take (i := 2) (v := ?_) (by simp only [List.getElem?_toArray, List.getElem?_cons_succ, List.getElem?_cons_zero]; exact rfl) (by kernel_rfl) (by kernel_rfl) (by kernel_rfl) (by intro _ _ _ h; exact h) (Or.inl ⟨by rfl, ?_⟩) (by assumption) ?_; rotate_left; (focus (intro w' hSw; (try dsimp only at hSw); go_simp; (try with_reducible rfl))); try simp only [Act.put, List.setIfInBounds_toArray, List.set_cons_zero, List.set_cons_succ])
                (refine wpAnyH_take (i := 3) (v := ?_) (by simp only [List.getElem?_toArray, List.getElem?_cons_succ, List.getElem?_cons_zero]; exact rfl) (by kernel_rfl) (by kernel_rfl) (by kernel_rfl) (by intro _ _ _ h; exact h) (Or.inl ⟨by rfl, ?_⟩) (by assumption) ?_; rotate_left; (focus (intro w' hSw; (try dsimp only at hSw); go_simp; (try with_reducible rfl))); try simp only [Act.put, List.setIfInBounds_toArray, List.set_cons_zero, List.set_cons_succ])
                (refine wpAnyH_take (i := 4) (v := ?_) (by simp only [List.getElem?_toArray, List.getElem?_cons_succ, List.getElem?_cons_zero]; exact rfl) (by kernel_rfl) (by kernel_rfl) (by kernel_rfl) (by intro _ _ _ h; exact h) (Or.inl ⟨by rfl, ?_⟩) (by assumption) ?_; rotate_left; (focus (intro w' hSw; (try dsimp only at hSw); go_simp; (try with_reducible rfl))); try simp only [Act.put, List.setIfInBounds_toArray, List.set_cons_zero, List.set_cons_succ])
                (refine wpAnyH_take (i := 5) (v := ?_) (by simp only [List.getElem?_toArray, List.getElem?_cons_succ, List.getElem?_cons_zero]; exact rfl) (by kernel_rfl) (by kernel_rfl) (by kernel_rfl) (by intro _ _ _ h; exact h) (Or.inl ⟨by rfl, ?_⟩) (by assumption) ?_; rotate_left; (focus (intro w' hSw; (try dsimp only at hSw); go_simp; (try with_reducible rfl))); try simp only [Act.put, List.setIfInBounds_toArray, List.set_cons_zero, List.set_cons_succ])
                (refine wpAnyH_take (i := 6) (v := ?_) (by simp only [List.getElem?_toArray, List.getElem?_cons_succ, List.getElem?_cons_zero]; exact rfl) (by kernel_rfl) (by kernel_rfl) (by kernel_rfl) (by intro _ _ _ h; exact h) (Or.inl ⟨by rfl, ?_⟩) (by assumption) ?_; rotate_left; (focus (intro w' hSw; (try dsimp only at hSw); go_simp; (try with_reducible rfl))); try simp only [Act.put, List.setIfInBounds_toArray, List.set_cons_zero, List.set_cons_succ])
                (refine wpAnyH_take (i := 7) (v := ?_) (by simp only [List.getElem?_toArray, List.getElem?_cons_succ, List.getElem?_cons_zero]; exact rfl) (by kernel_rfl) (by kernel_rfl) (by kernel_rfl) (by intro _ _ _ h; exact h) (Or.inl ⟨by rfl, ?_⟩) (by assumption) ?_; rotate_left; (focus (intro w' hSw; (try dsimp only at hSw); go_simp; (try with_reducible rfl))); try simp only [Act.put, List.setIfInBounds_toArray, List.set_cons_zero, List.set_cons_succ])
                (refine wpAnyH_take (i := 8) (v := ?_) (by simp only [List.getElem?_toArray, List.getElem?_cons_succ, List.getElem?_cons_zero]; exact rfl) (by kernel_rfl) (by kernel_rfl) (by kernel_rfl) (by intro _ _ _ h; exact h) (Or.inl ⟨by rfl, ?_⟩) (by assumption) ?_; rotate_left; (focus (intro w' hSw; (try dsimp only at hSw); go_simp; (try with_reducible rfl))); try simp only [Act.put, List.setIfInBounds_toArray, List.set_cons_zero, List.set_cons_succ])
                refine wpAnyH_ready (rs := [9]) (by kernel_rfl) (by simp) (AllReadyH.cons (by simp only [List.getElem?_toArray, List.getElem?_cons_succ, List.getElem?_cons_zero]; exact rfl) (fun K' hK => ?_) AllReadyH.nil)
                refine step_appE bcs_len bcs_one rfl (.tmp 36) (.tmp 40) 28 rfl _ Try.underlying28 Try.infoB rfl (by decide) (by decide) W4.heap.size _ (ps.take k ++ [(x, y, u)]) rfl (OwnE.gr HO8.out (Gr.drew (Gr.refl _))) ⟨g, k * 3, none⟩ (ps.length - k) (c - k) (ps.drop k) rfl HK2.out (fun j z hz => Below.cell_of (Below.drew HB8.out) (HQ2.out j z hz)) (by have := HLN.out; have := HLE.out; simp; try omega) (by have := HLN.out; simp; try omega) (by have := (Below.drew HB8.out).size; exact this) ?_; intro v9 w9 ho9 hb9 _ _
                have e9 := HINS.out
                rw [e9] at ho9
                obtain ⟨A9, c9, rfl, ho9⟩ := OwnE.eta ho9
                have D9 : Below W4.heap.size W4 w9 := (Below.drew HB8.out).trans hb9
                have S9 := SixB.bel HS.out D9 (Nat.lt_of_succ_lt zz)
                have R9 := RbxB.bel HRB.out D9 zz
                (refine hK.out _ _ (S9) (fun hHeld => ?_); clear hK K'; try simp only [Act.put, List.setIfInBounds_toArray, List.set_cons_zero, List.set_cons_succ])
                refine wpAnyH_ready (rs := [10]) (by kernel_rfl) (by simp) (AllReadyH.cons (by simp only [List.getElem?_toArray, List.getElem?_cons_succ, List.getElem?_cons_zero]; exact rfl) (fun K' hK => ?_) AllReadyH.nil)
                go_simp
                (refine hK.out _ _ (S9) (fun hHeld => ?_); clear hK K'; try simp only [Act.put, List.setIfInBounds_toArray, List.set_cons_zero, List.set_cons_succ])
                have r0 := R9.1
                have r1 := R9.2.1
                have r2 := R9.2.2.1
                have rf := R9.2.2.2
                refine wpAnyH_ready (rs := [11]) (by kernel_rfl) (by simp) (AllReadyH.cons (by simp only [List.getElem?_toArray, List.getElem?_cons_succ, List.getElem?_cons_zero]; exact rfl) (fun K' hK => ?_) AllReadyH.nil)
                go_simp
                (refine hK.out _ _ (SixB.set (SixB.set (SixB.set S9))) (fun hHeld => ?_); clear hK K'; try simp only [Act.put, List.setIfInBounds_toArray, List.set_cons_zero, List.set_cons_succ])
                refine wpAnyH_done (by kernel_rfl) ?_ _
                go_wp2
                refine bodyPost_ret (v := .agg #[.int .i64 W, .int .i64 H, .slice A9 R.length c9]) (by simp [results, Try.results31, go_sem, r0, r1, r2]) rfl ⟨_, rfl, ?_, ?_⟩
                · exact OwnE.mono (OwnE.setOther (a := ⟨w.heap.size + 2, 2, none⟩) (OwnE.setOther (a := ⟨w.heap.size + 2, 1, none⟩) (OwnE.setOther (a := ⟨w.heap.size + 2, 0, none⟩) ho9 zz _) zz _) zz _) (by omega)
                · exact (((GG.out.below.trans (D9.mono GG.out.below.size)).setCell (by simp; omega) _).setCell (by simp; omega) _).setCell (by simp; omega) _
            · go_simp
              (refine hK.out _ _ (SixB.gr HS.out (Gr.alloc (Gr.drew (Gr.refl W4)) _)) (fun hHeld => ?_); clear hK K'; try simp only [Act.put, List.setIfInBounds_toArray, List.set_cons_zero, List.set_cons_succ])
              refine wpAnyH_ready (rs := [0]) (by kernel_rfl) (by simp) (AllReadyH.cons (by simp only [List.getElem?_toArray, List.getElem?_cons_succ, List.getElem?_cons_zero]; exact rfl) (fun K' hK => ?_) AllReadyH.nil)
              go_simp
              (refine hK.out _ _ (SixB.gr HS.out (Gr.alloc (Gr.alloc (Gr.drew (Gr.refl W4)) _) _)) (fun hHeld => ?_); clear hK K'; try simp only [Act.put, List.setIfInBounds_toArray, List.set_cons_zero, List.set_cons_succ])
              refine wpAnyH_ready (rs := [5]) (by kernel_rfl) (by simp) (AllReadyH.cons (by simp only [List.getElem?_toArray, List.getElem?_cons_succ, List.getElem?_cons_zero]; exact rfl) (fun K' hK => ?_) AllReadyH.nil)
              refine step_appE bcs_len bcs_one rfl (.tmp 23) (.tmp 27) 28 rfl _ Try.underlying28 Try.infoB rfl (by decide) (by decide) W4.heap.size (.slice (some ⟨W4.heap.size + 1, 0, none⟩) 0 0) [] rfl (OwnE.empty (b := W4.heap.size + 1) (by refine heap_new' ?_; simp; done) (by omega)) ⟨g, 0, none⟩ k c (ps.take k) rfl HK1.out (fun j z hz => (show Gr W4 _ from (Gr.alloc (Gr.alloc (Gr.drew (Gr.refl W4)) _) _)).keep0 (HQ1.out j z hz)) (by simp) (by have := HK1.out; have := HLN.out; have := HLE.out; omega) (by (try simp); (try omega)) ?_; intro v1 w1 ho1 hb1 gb1 _; rw [List.nil_append] at ho1; obtain ⟨A1, c1, e1, ho1⟩ := OwnE.eta ho1; rw [HK1.out] at e1 ho1; subst e1
              have B1 : Below W4.heap.size W4 w1 := (Gr.alloc (Gr.alloc (Gr.drew (Gr.refl W4)) _) _).below.trans hb1
              (refine hK.out _ _ (SixB.bel HS.out B1 (Nat.lt_of_succ_lt zz)) (fun hHeld => ?_); clear hK K'; try simp only [Act.put, List.setIfInBounds_toArray, List.set_cons_zero, List.set_cons_succ])
              refine wpAnyH_ready (rs := [8]) (by kernel_rfl) (by simp) (AllReadyH.cons (by simp only [List.getElem?_toArray, List.getElem?_cons_succ, List.getElem?_cons_zero]; exact rfl) (fun K' hK => ?_) AllReadyH.nil)
              refine step_appE bcs_len bcs_one rfl (.tmp 28) (.tmp 30) 28 rfl _ Try.underlying28 Try.infoB rfl (by decide) (by decide) W4.heap.size _ (ps.take k) rfl (ho1) ⟨W4.heap.size, 0, none⟩ 1 1 [(x, y, u)] rfl rfl (fun j z hz => gb1.cell ((Gr.alloc (Gr.refl _) _).keep0 (alloc_cells' (by simp; done) (by simpa [ecs, bcs] using hz))) (by cases j <;> simp [Value.ownBlock, Addr.add])) (by have := HLN.out; have := HLE.out; simp; try omega) (by simp) (by have q := Below.size (B1); (try simp at q); (try simp); (try omega)) ?_; intro v8 w8 ho8 hb8 _ _; obtain ⟨A8, c8, e8, ho8⟩ := OwnE.eta ho8; rw [show (ps.take k ++ [(x, y, u)]).length = k + 1 by rw [List.length_append, HK1.out]; rfl] at e8 ho8; subst e8
              have B8 : Below W4.heap.size W4 w8 := (B1).trans hb8
              have S8 := SixB.bel HS.out B8 (Nat.lt_of_succ_lt zz)
              have R8 := RbxB.bel HRB.out B8 zz
              have HO8 := Lib.hid ho8
              have HB8 := Lib.hid B8
              (refine hK.out _ _ (S8) (fun hHeld => ?_); clear hK K'; try simp only [Act.put, List.setIfInBounds_toArray, List.set_cons_zero, List.set_cons_succ])
              refine wpAnyH_ready (rs := [9]) (by kernel_rfl) (by simp) (AllReadyH.cons (by simp only [List.getElem?_toArray, List.getElem?_cons_succ, List.getElem?_cons_zero]; exact rfl) (fun K' hK => ?_) AllReadyH.nil)
              go_simp
              (refine hK.out _ _ (S8) (fun hHeld => ?_); clear hK K'; try simp only [Act.put, List.setIfInBounds_toArray, List.set_cons_zero, List.set_cons_succ])
              refine wpAnyH_done (by kernel_rfl) ?_ _
              have HS8 := Lib.hid S8
              have HR8 := Lib.hid R8
              clear S8 R8 ho8
              go_wp2
              refine wp_region_held_drew (S := fun W' => W'.cell? ⟨w.heap.size, 0, none⟩ = some (.int .i64 W) ∧ W'.cell? ⟨w.heap.size, 1, none⟩ = some (.int .i64 H) ∧ W'.cell? ⟨w.heap.size, 2, none⟩ = some (.slice (some ⟨g, 0, none⟩) ps.length c) ∧ W'.cell? ⟨w.heap.size + 1, 0, none⟩ = some (.int .i64 x) ∧ W'.cell? ⟨w.heap.size + 1, 1, none⟩ = some (.int .i64 y) ∧ W'.cell? ⟨w.heap.size + 1, 2, none⟩ = some (.bool u)) (by kernel_rfl) (SixB.gr HS8.out (Gr.drew (Gr.refl _))) (fun hHeld => ?_)
              (refine wpAnyH_take (i := 0) (v := ?_) (by simp only [List.getElem?_toArray, List.getElem?_cons_succ, List.getElem?_cons_zero]; exact rfl) (by kernel_rfl) (by kernel_rfl) (by kernel_rfl) (by intro _ _ _ h; exact h) (Or.inl ⟨by rfl, ?_⟩) (by assumption) ?_; rotate_left; (focus (intro w' hSw; (try dsimp only at hSw); go_simp; (try with_reducible rfl))); try simp only [Act.put, List.setIfInBounds_toArray, List.set_cons_zero, List.set_cons_succ])
              (refine wpAnyH_take (i := 1) (v := ?_) (by simp only [List.getElem?_toArray, List.getElem?_cons_succ, List.getElem?_cons_zero]; exact rfl) (by kernel_rfl) (by kernel_rfl) (by kernel_rfl) (by intro _ _ _ h; exact h) (Or.inl ⟨by rfl, ?_⟩) (by assumption) ?_; rotate_left; (focus (intro w' hSw; (try dsimp only at hSw); go_simp; (try with_reducible rfl))); try simp only [Act.put, List.setIfInBounds_toArray, List.set_cons_zero, List.set_cons_succ])
              (refine wpAnyH_take (i := 2) (v := ?_) (by simp only [List.getElem?_toArray, List.getElem?_cons_succ, List.getElem?_cons_zero]; exact rfl) (by kernel_rfl) (by kernel_rfl) (by kernel_rfl) (by intro _ _ _ h; exact h) (Or.inl ⟨by rfl, ?_⟩) (by assumption) ?_; rotate_left; (focus (intro w' hSw; (try dsimp only at hSw); go_simp; (try with_reducible rfl))); try simp only [Act.put, List.setIfInBounds_toArray, List.set_cons_zero, List.set_cons_succ])
              (refine wpAnyH_take (i := 3) (v := ?_) (by simp only [List.getElem?_toArray, List.getElem?_cons_succ, List.getElem?_cons_zero]; exact rfl) (by kernel_rfl) (by kernel_rfl) (by kernel_rfl) (by intro _ _ _ h; exact h) (Or.inl ⟨by rfl, ?_⟩) (by assumption) ?_; rotate_left; (focus (intro w' hSw; (try dsimp only at hSw); go_simp; (try with_reducible rfl))); try simp only [Act.put, List.setIfInBounds_toArray, List.set_cons_zero, List.set_cons_succ])
              (refine wpAnyH_take (i := 4) (v := ?_) (by simp only [List.getElem?_toArray, List.getElem?_cons_succ, List.getElem?_cons_zero]; exact rfl) (by kernel_rfl) (by kernel_rfl) (by kernel_rfl) (by intro _ _ _ h; exact h) (Or.inl ⟨by rfl, ?_⟩) (by assumption) ?_; rotate_left; (focus (intro w' hSw; (try dsimp only at hSw); go_simp; (try with_reducible rfl))); try simp only [Act.put, List.setIfInBounds_toArray, List.set_cons_zero, List.set_cons_succ])
              (refine wpAnyH_take (i := 5) (v := ?_) (by simp only [List.getElem?_toArray, List.getElem?_cons_succ, List.getElem?_cons_zero]; exact rfl) (by kernel_rfl) (by kernel_rfl) (by kernel_rfl) (by intro _ _ _ h; exact h) (Or.inl ⟨by rfl, ?_⟩) (by assumption) ?_; rotate_left; (focus (intro w' hSw; (try dsimp only at hSw); go_simp; (try with_reducible rfl))); try simp only [Act.put, List.setIfInBounds_toArray, List.set_cons_zero, List.set_cons_succ])
              (refine wpAnyH_take (i := 6) (v := ?_) (by simp only [List.getElem?_toArray, List.getElem?_cons_succ, List.getElem?_cons_zero]; exact rfl) (by kernel_rfl) (by kernel_rfl) (by kernel_rfl) (by intro _ _ _ h; exact h) (Or.inl ⟨by rfl, ?_⟩) (by assumption) ?_; rotate_left; (focus (intro w' hSw; (try dsimp only at hSw); go_simp; (try with_reducible rfl))); try simp only [Act.put, List.setIfInBounds_toArray, List.set_cons_zero, List.set_cons_succ])
              (refine wpAnyH_take (i := 7) (v := ?_) (by simp only [List.getElem?_toArray, List.getElem?_cons_succ, List.getElem?_cons_zero]; exact rfl) (by kernel_rfl) (by kernel_rfl) (by kernel_rfl) (by intro _ _ _ h; exact h) (Or.inl ⟨by rfl, ?_⟩) (by assumption) ?_; rotate_left; (focus (intro w' hSw; (try dsimp only at hSw); go_simp; (try with_reducible rfl))); try simp only [Act.put, List.setIfInBounds_toArray, List.set_cons_zero, List.set_cons_succ])
              (refine wpAnyH_take (i := 8) (v := ?_) (by simp only [List.getElem?_toArray, List.getElem?_cons_succ, List.getElem?_cons_zero]; exact rfl) (by kernel_rfl) (by kernel_rfl) (by kernel_rfl) (by intro _ _ _ h; exact h) (Or.inl ⟨by rfl, ?_⟩) (by assumption) ?_; rotate_left; (focus (intro w' hSw; (try dsimp only at hSw); go_simp; (try with_reducible rfl))); try simp only [Act.put, List.setIfInBounds_toArray, List.set_cons_zero, List.set_cons_succ])
              refine wpAnyH_ready (rs := [9]) (by kernel_rfl) (by simp) (AllReadyH.cons (by simp only [List.getElem?_toArray, List.getElem?_cons_succ, List.getElem?_cons_zero]; exact rfl) (fun K' hK => ?_) AllReadyH.nil)
              refine step_appE bcs_len bcs_one rfl (.tmp 36) (.tmp 40) 28 rfl _ Try.underlying28 Try.infoB rfl (by decide) (by decide) W4.heap.size _ (ps.take k ++ [(x, y, u)]) rfl (OwnE.gr HO8.out (Gr.drew (Gr.refl _))) ⟨g, k * 3, none⟩ (ps.length - k) (c - k) (ps.drop k) rfl HK2.out (fun j z hz => Below.cell_of (Below.drew HB8.out) (HQ2.out j z hz)) (by have := HLN.out; have := HLE.out; simp; try omega) (by have := HLN.out; simp; try omega) (by have := (Below.drew HB8.out).size; exact this) ?_; intro v9 w9 ho9 hb9 _ _
              have e9 := HINS.out
              rw [e9] at ho9
              obtain ⟨A9, c9, rfl, ho9⟩ := OwnE.eta ho9
              have D9 : Below W4.heap.size W4 w9 := (Below.drew HB8.out).trans hb9
              have S9 := SixB.bel HS.out D9 (Nat.lt_of_succ_lt zz)
              have R9 := RbxB.bel HRB.out D9 zz
              (refine hK.out _ _ (S9) (fun hHeld => ?_); clear hK K'; try simp only [Act.put, List.setIfInBounds_toArray, List.set_cons_zero, List.set_cons_succ])
              refine wpAnyH_ready (rs := [10]) (by kernel_rfl) (by simp) (AllReadyH.cons (by simp only [List.getElem?_toArray, List.getElem?_cons_succ, List.getElem?_cons_zero]; exact rfl) (fun K' hK => ?_) AllReadyH.nil)
              go_simp
              (refine hK.out _ _ (S9) (fun hHeld => ?_); clear hK K'; try simp only [Act.put, List.setIfInBounds_toArray, List.set_cons_zero, List.set_cons_succ])
              have r0 := R9.1
              have r1 := R9.2.1
              have r2 := R9.2.2.1
              have rf := R9.2.2.2
              refine wpAnyH_ready (rs := [11]) (by kernel_rfl) (by simp) (AllReadyH.cons (by simp only [List.getElem?_toArray, List.getElem?_cons_succ, List.getElem?_cons_zero]; exact rfl) (fun K' hK => ?_) AllReadyH.nil)
              go_simp
              (refine hK.out _ _ (SixB.set (SixB.set (SixB.set S9))) (fun hHeld => ?_); clear hK K'; try simp only [Act.put, List.setIfInBounds_toArray, List.set_cons_zero, List.set_cons_succ])
              refine wpAnyH_done (by kernel_rfl) ?_ _
              go_wp2
              refine bodyPost_ret (v := .agg #[.int .i64 W, .int .i64 H, .slice A9 R.length c9]) (by simp [results, Try.results31, go_sem, r0, r1, r2]) rfl ⟨_, rfl, ?_, ?_⟩
              · exact OwnE.mono (OwnE.setOther (a := ⟨w.heap.size + 2, 2, none⟩) (OwnE.setOther (a := ⟨w.heap.size + 2, 1, none⟩) (OwnE.setOther (a := ⟨w.heap.size + 2, 0, none⟩) ho9 zz _) zz _) zz _) (by omega)
              · exact (((GG.out.below.trans (D9.mono GG.out.below.size)).setCell (by simp; omega) _).setCell (by simp; omega) _).setCell (by simp; omega) _
end Go.Proofs
