/-
  Chapter 4: a city told from the other side, the program.
-/
import Derived.Test.YtnpkhoiblemodaaMrW
import Derived.Test.YtnpkhoiblemodaaSrB
import Derived.Test.YtnpkhoiblemodaaBrH
import Derived.Deep.DeepCutAuto
namespace Go.Proofs
open Go.RowKit Av
set_option linter.unusedVariables false
set_option linter.unusedSimpArgs false
theorem keepD {w : World} {a : Addr} {v : Value} (h : w.cell? a = some v) : w.drew.cell? a = some v := (Gr.drew (Gr.refl w)).keep0 h
theorem cell_set_lt {w : World} {a b : Addr} {u v : Value} (h : w.cell? a = some v) (hb : a.block < b.block) : (w.setCell b u).cell? a = some v := by
  unfold World.cell? at *
  rw [heap_setCell_other w b a.block u (fun e => by omega)]
  exact h
theorem cell_set_gt {w : World} {a b : Addr} {u v : Value} (h : w.cell? a = some v) (hb : b.block < a.block) : (w.setCell b u).cell? a = some v := by
  unfold World.cell? at *
  rw [heap_setCell_other w b a.block u (fun e => by omega)]
  exact h
theorem four_k2 {w w' : World} {a b c d : Addr} {x y z u : Value} (h : w.cell? a = some x ∧ w.cell? b = some y ∧ w.cell? c = some z ∧ w.cell? d = some u) (g : Below w.heap.size w w') : w'.cell? a = some x ∧ w'.cell? b = some y ∧ w'.cell? c = some z ∧ w'.cell? d = some u :=
  ⟨cell_k2 g h.1, cell_k2 g h.2.1, cell_k2 g h.2.2.1, cell_k2 g h.2.2.2⟩
theorem four_gb {w w' : World} {row : Option Nat} (d : w.grownBy w' row) {n m : Nat} {i j k l : Nat} {x y z u : Value} (h : w.cell? ⟨n, i, none⟩ = some x ∧ w.cell? ⟨n, j, none⟩ = some y ∧ w.cell? ⟨m, k, none⟩ = some z ∧ w.cell? ⟨m, l, none⟩ = some u) (h1 : some n ≠ row) (h2 : some m ≠ row) : w'.cell? ⟨n, i, none⟩ = some x ∧ w'.cell? ⟨n, j, none⟩ = some y ∧ w'.cell? ⟨m, k, none⟩ = some z ∧ w'.cell? ⟨m, l, none⟩ = some u :=
  ⟨d.cell h.1 h1, d.cell h.2.1 h1, d.cell h.2.2.1 h2, d.cell h.2.2.2 h2⟩
theorem Bx.set1 {w : World} {n m : Nat} {a b c x : Value} (h : Bx w n a b c) (hne : n ≠ m) (o : Nat) : Bx (w.setCell ⟨m, o, none⟩ x) n a b c := by
  have k : ∀ (i : Nat) (v : Value), w.cell? ⟨n, i, none⟩ = some v → (w.setCell ⟨m, o, none⟩ x).cell? ⟨n, i, none⟩ = some v := fun i v q => (World.cell?_setCell_other _ _ _ _ (by intro e; cases e; exact hne rfl)).trans q
  exact ⟨k _ _ h.1, k _ _ h.2.1, k _ _ h.2.2.1, fun i => (World.frozen?_setCell _ _ _ _).trans (h.2.2.2 i)⟩
theorem Bx.own2 {w : World} {n : Nat} {a b c z : Value} (h : Bx w n a b c) : Bx (w.setCell ⟨n, 2, none⟩ z) n a b z :=
  ⟨(World.cell?_setCell_other _ _ _ _ (by simp)).trans h.1, (World.cell?_setCell_other _ _ _ _ (by simp)).trans h.2.1, World.cell?_setCell_same _ _ _ h.2.2.1, fun i => (World.frozen?_setCell _ _ _ _).trans (h.2.2.2 i)⟩
def IRel (w : World) (N : Nat) (W H : Int) (V : Value) (ps : List Blk) (i : Value) (wr : World) : Prop := ∃ k : Nat, k ≤ ps.length ∧ i = .int .i64 k ∧ ∃ A4 c4, OwnB wr (N + 1) (.slice A4 k c4) ((ps.take k).map (mirB W)) ∧ Bx wr w.heap.size (.int .i64 W) (.int .i64 H) V ∧ Bx wr (w.heap.size + 1) (.int .i64 0) (.int .i64 0) (.slice none 0 0) ∧ Bx wr N (.int .i64 W) (.int .i64 H) (.slice A4 k c4) ∧ Below w.heap.size w wr
set_option maxRecDepth 100000 in
set_option maxHeartbeats 3200000 in
theorem Try.iMirrorT (w : World) (W H : Int) (B : Nat) (a : Value) (ps : List Blk) (hg : okB W H ps = true) (hl : ps.length ≤ 1048576) (h : OwnB w B a ps) :
    Calls Try.prog 26 #[.agg #[.int .i64 W, .int .i64 H, a]] w (RetC w W H (mirL W ps ps.length) true) := by
  have mixed : Try.prog.follows .mixedOrders = true := by kernel_rfl
  have hok : Ok W H ps := of_decide_eq_true hg
  have HIS := Lib.hid (fun j hj => hok.2.2.2.2.2.1 _ (getD_mem ps j hj))
  have h30 := hok.2.2.2.2.1
  have SM := Lib.hid (sort_mir hok)
  have w8 := hok.2.1
  have w1 := hok.1
  have hH8 := hok.2.2.2.1
  have hH1 := hok.2.2.1
  obtain ⟨A, c, rfl, h2⟩ := OwnE.eta h
  have PG := Lib.hid (fun (X : World) (g : Gr w X) => Try.iIsCity X W H B _ ps _ hg hl (OwnE.gr h2 g))
  have HC := Lib.hid (OwnB.elsM h2)
  clear h h2 hg hok
  go_enter Try.func26, Try.ntmps26
  go_wp2_with (first | (go_at_call 33; refine (PG.out _ (by repeat (first | exact Gr.refl _ | refine Gr.alloc ?_ _ | refine Gr.trans ?_ (by assumption) | refine Gr.drew ?_ | refine Gr.drewN ?_ _ | refine Gr.grow ?_ _ | refine Gr.setCell ?_ (by (try simp); (try omega)) _))).mono ?_; rintro e W1 ⟨rfl, q1⟩; have a0 : W1.cell? ⟨w.heap.size, 0, none⟩ = some (.int .i64 W) := q1.keep0 (by simp [go_sem]); have a1 : W1.cell? ⟨w.heap.size, 1, none⟩ = some (.int .i64 H) := q1.keep0 (by simp [go_sem]); have a2 : W1.cell? ⟨w.heap.size, 2, none⟩ = some (.slice A ps.length c) := q1.keep0 (by simp [go_sem]); have r0 : W1.cell? ⟨w.heap.size + 1, 0, none⟩ = some (.int .i64 0) := q1.keep0 (by simp [go_sem]); have r1 : W1.cell? ⟨w.heap.size + 1, 1, none⟩ = some (.int .i64 0) := q1.keep0 (by simp [go_sem]); have r2 : W1.cell? ⟨w.heap.size + 1, 2, none⟩ = some (.slice none 0 0) := q1.keep0 (by simp [go_sem]); have zW : w.heap.size + 1 < W1.heap.size := World.block_lt_of_cell? _ _ r0; have zW' : w.heap.size < W1.heap.size := Nat.lt_of_succ_lt zW; have rf : ∀ o, W1.frozen? ⟨w.heap.size + 1, o, none⟩ = false := fun o => ((bcell q1.below).2 _ _ (by simp)).trans (by simp [go_sem])))
  have GW := Lib.hid (show Gr w W1 from (by repeat (first | exact Gr.refl _ | refine Gr.alloc ?_ _ | refine Gr.trans ?_ (by assumption) | refine Gr.drew ?_ | refine Gr.drewN ?_ _ | refine Gr.grow ?_ _ | refine Gr.setCell ?_ (by (try simp); (try omega)) _)))
  have ff : ∀ o, W1.frozen? ⟨w.heap.size, o, none⟩ = false := fun o => ((bcell q1.below).2 _ _ (by simp; omega)).trans (by simp [go_sem])
  have hw1 : w.heap.size + 1 < W1.heap.size := World.block_lt_of_cell? _ _ r0
  have Z1 := Lib.hid (show Bx W1 w.heap.size (.int .i64 W) (.int .i64 H) (.slice A ps.length c) from ⟨a0, a1, a2, ff⟩)
  have Z2 := Lib.hid (show Bx W1 (w.heap.size + 1) (.int .i64 0) (.int .i64 0) (.slice none 0 0) from ⟨r0, r1, r2, rf⟩)
  have gA := Gr.alloc (Gr.refl W1) (.cells #[.int .i64 W, .int .i64 H, .slice none 0 0] 30)
  go_loopw [6, 7, 8, 21] (fun _ _ _ i wr => IRel w W1.heap.size W H (.slice A ps.length c) ps i wr) (fun _ _ _ i _ => (ps.length - intOf i).toNat)
  case atStart => exact ⟨0, Nat.zero_le _, rfl, none, 0, OwnE.nil _ _ _ _ _, Z1.out.bel gA.below Z1.out.lt, Z2.out.bel gA.below Z2.out.lt, ⟨by simp [go_sem], by simp [go_sem], by simp [go_sem], fun o => by simp [go_sem]⟩, GW.out.below.trans (gA.below.mono GW.out.below.size)⟩
  case round =>
    obtain ⟨k, hk, rfl, A4, c4, ho, x1, x2, x3, hb⟩ := hrel
    by_cases hlt : k < ps.length
    · obtain ⟨g, rfl, c0, c1, c2⟩ := HC.out k hlt
      have q := HIS.out k hlt
      rcases hp : ps.getD k b0 with ⟨x, y, u⟩
      rw [hp] at c0 c1 c2 q
      simp only at c0 c1 c2
      have e0 := cell_k2 hb c0
      have e1 := cell_k2 hb c1
      have e2 := cell_k2 hb c2
      have z0 : (0 : Int) ≤ (k : Int) := by omega
      have z1 : (k : Int) < (ps.length : Int) := by omega
      have bx0 : 0 ≤ x := q.1
      have bx1 : x ≤ 7 := by have := q.2.1; have := up_b (x, y, u); simp only at this; omega
      obtain ⟨X, hX⟩ : ∃ X, wr.alloc (.cells #[.int .i64 x, .int .i64 y, .bool u] 34) = X := ⟨_, rfl⟩
      have gX : Gr wr X := by rw [← hX]; exact Gr.alloc (Gr.refl _) _
      have y0 : X.cell? ⟨wr.heap.size, 0, none⟩ = some (.int .i64 x) := by rw [← hX]; simp [go_sem]
      have y1 : X.cell? ⟨wr.heap.size, 1, none⟩ = some (.int .i64 y) := by rw [← hX]; simp [go_sem]
      have y2 : X.cell? ⟨wr.heap.size, 2, none⟩ = some (.bool u) := by rw [← hX]; simp [go_sem]
      have HX := Lib.hid hX
      clear hX
      obtain ⟨u1, hu1⟩ : ∃ u1 : Int, (if u then 1 else 0) = u1 := ⟨_, rfl⟩
      have HU := Lib.hid hu1
      clear hu1
      go_upto_region 7 with fail
      rw [HX.out]
      clear HX
      go_upto_region 8 with (first | (go_at_call 49; refine (Try.blockCorners x y u u1 HU.out _).mono ?_; rintro e w2 ⟨rfl, g2⟩))
      have HC1 := Lib.hid (show ∃ d1 d2 : Int, ws (ws (x + 1) - u1) = d1 ∧ ws (y + u1) = d2 ∧ d1 = x + 1 - up (x, y, u) ∧ d2 = y + up (x, y, u) ∧ 0 ≤ d1 ∧ d1 ≤ 8 from by
        have hy := q.2.2
        have h8 := hH8
        simp only at hy
        have e : up (x, y, u) = u1 := HU.out
        have hu2 : u1 = 0 ∨ u1 = 1 := by rw [← e]; rcases up_b (x, y, u) with z | z <;> omega
        refine ⟨x + 1 - u1, y + u1, ?_, ?_, by rw [e], by rw [e], by omega, by omega⟩
        · rw [show ws (x + 1) = x + 1 by unfold ws; exact IntWalk.i64_in _ (by omega)]; unfold ws; exact IntWalk.i64_in _ (by omega)
        · unfold ws; exact IntWalk.i64_in _ (by omega))
      obtain ⟨d1, d2, hd1, hd2, ed1, ed2, hd0, hd8⟩ := HC1.out
      rw [hd1, hd2]
      clear hd1 hd2 HC1
      obtain ⟨Y, hY⟩ : ∃ Y, ((w2.alloc (.cells #[.int .i64 x, .int .i64 y] 66)).alloc (.cells #[.int .i64 d1, .int .i64 d2] 66)) = Y := ⟨_, rfl⟩
      rw [hY]
      have gY : Gr wr Y := by rw [← hY]; exact Gr.alloc (Gr.alloc (gX.trans g2) _) _
      have p0 : Y.cell? ⟨w2.heap.size, 0, none⟩ = some (.int .i64 x) := by rw [← hY]; simp [go_sem]
      have p1 : Y.cell? ⟨w2.heap.size, 1, none⟩ = some (.int .i64 y) := by rw [← hY]; simp [go_sem]
      have r0 : Y.cell? ⟨w2.heap.size + 1, 0, none⟩ = some (.int .i64 d1) := by rw [← hY]; simp [go_sem]
      have r1 : Y.cell? ⟨w2.heap.size + 1, 1, none⟩ = some (.int .i64 d2) := by rw [← hY]; simp [go_sem]
      have pf : Y.frozen? ⟨w2.heap.size, 0, none⟩ = false := by rw [← hY]; simp [go_sem]
      have rf' : Y.frozen? ⟨w2.heap.size + 1, 0, none⟩ = false := by rw [← hY]; simp [go_sem]
      have Y1 := Lib.hid (x1.bel gY.below x1.lt)
      have t0 := Y1.out.1
      have wW : IntKind.i64.wrap (W - 1) = W - 1 := IntWalk.i64_in _ (by omega)
      have wx : IntKind.i64.wrap (W - 1 - x) = W - 1 - x := IntWalk.i64_in _ (by omega)
      have wd : IntKind.i64.wrap (W - 1 - d1) = W - 1 - d1 := IntWalk.i64_in _ (by omega)
      have ED := Lib.hid (And.intro ed1 ed2)
      clear hY ed1 ed2
      have tS : ∀ (v : Value) (W' : World) (b : Nat), b ≠ w.heap.size → W'.cell? ⟨w.heap.size, 0, none⟩ = some (.int .i64 W) → (W'.setCell ⟨b, 0, none⟩ v).cell? ⟨w.heap.size, 0, none⟩ = some (.int .i64 W) := fun v W' b hb q => (World.cell?_setCell_other _ _ _ _ (by intro e; cases e; exact hb rfl)).trans q
      have n1 : w2.heap.size ≠ w.heap.size := by have := gX.below.size; have := g2.below.size; have := x1.lt; omega
      have n2 : w2.heap.size + 1 ≠ w.heap.size := by have := gX.below.size; have := g2.below.size; have := x1.lt; omega
      refine wp_region_held_drew (S := fun W' => W'.cell? ⟨w.heap.size, 0, none⟩ = some (.int .i64 W)) (by kernel_rfl) (keepD t0) (fun hHeld => ?_)
      (refine wpAnyH_take (i := 0) (v := ?_) (by simp only [List.getElem?_toArray, List.getElem?_cons_succ, List.getElem?_cons_zero]; exact rfl) (by kernel_rfl) (by kernel_rfl) (by kernel_rfl) (by intro _ _ _ h; exact h) (Or.inl ⟨by rfl, ?_⟩) (by assumption) ?_; rotate_left; (focus (intro w' hSw; (try dsimp only at hSw); go_simp; (try with_reducible rfl))); try simp only [Act.put, List.setIfInBounds_toArray, List.set_cons_zero, List.set_cons_succ])
      (refine wpAnyH_take (i := 1) (v := ?_) (by simp only [List.getElem?_toArray, List.getElem?_cons_succ, List.getElem?_cons_zero]; exact rfl) (by kernel_rfl) (by kernel_rfl) (by kernel_rfl) (by intro _ _ _ h; exact h) (Or.inl ⟨by rfl, ?_⟩) (by assumption) ?_; rotate_left; (focus (intro w' hSw; (try dsimp only at hSw); go_simp; (try with_reducible rfl))); try simp only [Act.put, List.setIfInBounds_toArray, List.set_cons_zero, List.set_cons_succ])
      (refine wpAnyH_take (i := 2) (v := ?_) (by simp only [List.getElem?_toArray, List.getElem?_cons_succ, List.getElem?_cons_zero]; exact rfl) (by kernel_rfl) (by kernel_rfl) (by kernel_rfl) (by intro _ _ _ h; exact h) (Or.inl ⟨by rfl, ?_⟩) (by assumption) ?_; rotate_left; (focus (intro w' hSw; (try dsimp only at hSw); go_simp; (try with_reducible rfl))); try simp only [Act.put, List.setIfInBounds_toArray, List.set_cons_zero, List.set_cons_succ])
      (refine wpAnyH_take (i := 3) (v := ?_) (by simp only [List.getElem?_toArray, List.getElem?_cons_succ, List.getElem?_cons_zero]; exact rfl) (by kernel_rfl) (by kernel_rfl) (by kernel_rfl) (by intro _ _ _ h; exact h) (Or.inl ⟨by rfl, ?_⟩) (by assumption) ?_; rotate_left; (focus (intro w' hSw; (try dsimp only at hSw); go_simp; (try with_reducible rfl))); try simp only [Act.put, List.setIfInBounds_toArray, List.set_cons_zero, List.set_cons_succ])
      (refine wpAnyH_take (i := 6) (v := ?_) (by simp only [List.getElem?_toArray, List.getElem?_cons_succ, List.getElem?_cons_zero]; exact rfl) (by kernel_rfl) (by kernel_rfl) (by kernel_rfl) (by intro _ _ _ h; exact h) (Or.inl ⟨by rfl, ?_⟩) (by assumption) ?_; rotate_left; (focus (intro w' hSw; (try dsimp only at hSw); go_simp; (try with_reducible rfl))); try simp only [Act.put, List.setIfInBounds_toArray, List.set_cons_zero, List.set_cons_succ])
      (refine wpAnyH_take (i := 7) (v := ?_) (by simp only [List.getElem?_toArray, List.getElem?_cons_succ, List.getElem?_cons_zero]; exact rfl) (by kernel_rfl) (by kernel_rfl) (by kernel_rfl) (by intro _ _ _ h; exact h) (Or.inl ⟨by rfl, ?_⟩) (by assumption) ?_; rotate_left; (focus (intro w' hSw; (try dsimp only at hSw); go_simp; (try with_reducible rfl))); try simp only [Act.put, List.setIfInBounds_toArray, List.set_cons_zero, List.set_cons_succ])
      (refine wpAnyH_take (i := 8) (v := ?_) (by simp only [List.getElem?_toArray, List.getElem?_cons_succ, List.getElem?_cons_zero]; exact rfl) (by kernel_rfl) (by kernel_rfl) (by kernel_rfl) (by intro _ _ _ h; exact h) (Or.inl ⟨by rfl, ?_⟩) (by assumption) ?_; rotate_left; (focus (intro w' hSw; (try dsimp only at hSw); go_simp; (try with_reducible rfl))); try simp only [Act.put, List.setIfInBounds_toArray, List.set_cons_zero, List.set_cons_succ])
      (refine wpAnyH_take (i := 9) (v := ?_) (by simp only [List.getElem?_toArray, List.getElem?_cons_succ, List.getElem?_cons_zero]; exact rfl) (by kernel_rfl) (by kernel_rfl) (by kernel_rfl) (by intro _ _ _ h; exact h) (Or.inl ⟨by rfl, ?_⟩) (by assumption) ?_; rotate_left; (focus (intro w' hSw; (try dsimp only at hSw); go_simp; (try with_reducible rfl))); try simp only [Act.put, List.setIfInBounds_toArray, List.set_cons_zero, List.set_cons_succ])
      refine wpAnyH_ready (rs := [4, 10]) (by kernel_rfl) (by simp) (AllReadyH.cons (by simp only [List.getElem?_toArray, List.getElem?_cons_succ, List.getElem?_cons_zero]; exact rfl) (fun K' hK => ?_) (AllReadyH.cons (by simp only [List.getElem?_toArray, List.getElem?_cons_succ, List.getElem?_cons_zero]; exact rfl) (fun K' hK => ?_) AllReadyH.nil))
      · go_simp
        (refine hK.out _ _ (keepD t0) (fun hHeld => ?_); clear hK K'; try simp only [Act.put, List.setIfInBounds_toArray, List.set_cons_zero, List.set_cons_succ])
        (refine wpAnyH_take (i := 5) (v := ?_) (by simp only [List.getElem?_toArray, List.getElem?_cons_succ, List.getElem?_cons_zero]; exact rfl) (by kernel_rfl) (by kernel_rfl) (by kernel_rfl) (by intro _ _ _ h; exact h) (Or.inl ⟨by rfl, ?_⟩) (by assumption) ?_; rotate_left; (focus (intro w' hSw; (try dsimp only at hSw); go_simp; (try with_reducible rfl))); try simp only [Act.put, List.setIfInBounds_toArray, List.set_cons_zero, List.set_cons_succ])
        (refine wpAnyH_take (i := 12) (v := ?_) (by simp only [List.getElem?_toArray, List.getElem?_cons_succ, List.getElem?_cons_zero]; exact rfl) (by kernel_rfl) (by kernel_rfl) (by kernel_rfl) (by intro _ _ _ h; exact h) (Or.inl ⟨by rfl, ?_⟩) (by assumption) ?_; rotate_left; (focus (intro w' hSw; (try dsimp only at hSw); go_simp; (try with_reducible rfl))); try simp only [Act.put, List.setIfInBounds_toArray, List.set_cons_zero, List.set_cons_succ])
        refine wpAnyH_ready (rs := [10, 13]) (by kernel_rfl) (by simp) (AllReadyH.cons (by simp only [List.getElem?_toArray, List.getElem?_cons_succ, List.getElem?_cons_zero]; exact rfl) (fun K' hK => ?_) (AllReadyH.cons (by simp only [List.getElem?_toArray, List.getElem?_cons_succ, List.getElem?_cons_zero]; exact rfl) (fun K' hK => ?_) AllReadyH.nil))
        · go_simp
          (refine hK.out _ _ (keepD t0) (fun hHeld => ?_); clear hK K'; try simp only [Act.put, List.setIfInBounds_toArray, List.set_cons_zero, List.set_cons_succ])
          (refine wpAnyH_take (i := 11) (v := ?_) (by simp only [List.getElem?_toArray, List.getElem?_cons_succ, List.getElem?_cons_zero]; exact rfl) (by kernel_rfl) (by kernel_rfl) (by kernel_rfl) (by intro _ _ _ h; exact h) (Or.inl ⟨by rfl, ?_⟩) (by assumption) ?_; rotate_left; (focus (intro w' hSw; (try dsimp only at hSw); go_simp; (try with_reducible rfl))); try simp only [Act.put, List.setIfInBounds_toArray, List.set_cons_zero, List.set_cons_succ])
          refine wpAnyH_ready (rs := [13]) (by kernel_rfl) (by simp) (AllReadyH.cons (by simp only [List.getElem?_toArray, List.getElem?_cons_succ, List.getElem?_cons_zero]; exact rfl) (fun K' hK => ?_) AllReadyH.nil)
          go_simp
          (refine hK.out _ _ (tS _ _ _ n1 (keepD t0)) (fun hHeld => ?_); clear hK K'; try simp only [Act.put, List.setIfInBounds_toArray, List.set_cons_zero, List.set_cons_succ])
          (refine wpAnyH_take (i := 14) (v := ?_) (by simp only [List.getElem?_toArray, List.getElem?_cons_succ, List.getElem?_cons_zero]; exact rfl) (by kernel_rfl) (by kernel_rfl) (by kernel_rfl) (by intro _ _ _ h; exact h) (Or.inl ⟨by rfl, ?_⟩) (by assumption) ?_; rotate_left; (focus (intro w' hSw; (try dsimp only at hSw); go_simp; (try with_reducible rfl))); try simp only [Act.put, List.setIfInBounds_toArray, List.set_cons_zero, List.set_cons_succ])
          refine wpAnyH_ready (rs := [15]) (by kernel_rfl) (by simp) (AllReadyH.cons (by simp only [List.getElem?_toArray, List.getElem?_cons_succ, List.getElem?_cons_zero]; exact rfl) (fun K' hK => ?_) AllReadyH.nil)
          go_simp
          (refine hK.out _ _ (tS _ _ _ n2 (tS _ _ _ n1 (keepD t0))) (fun hHeld => ?_); clear hK K'; try simp only [Act.put, List.setIfInBounds_toArray, List.set_cons_zero, List.set_cons_succ])
          refine wpAnyH_done (by kernel_rfl) ?_ _
          go_upto_region 9 with fail
          obtain ⟨Z, hZ⟩ : ∃ Z, ((Y.setCell ⟨w2.heap.size, 0, none⟩ (.int .i64 (W - 1 - x))).setCell ⟨w2.heap.size + 1, 0, none⟩ (.int .i64 (W - 1 - d1))).drew = Z := ⟨_, rfl⟩
          rw [hZ]
          have gZ : Below wr.heap.size wr Z := by rw [← hZ]; exact ((gY.below.drew.setCell (by have := gX.below.size; have := g2.below.size; simp; omega) _).setCell (by have := gX.below.size; have := g2.below.size; simp; omega) _)
          have k0 : Z.cell? ⟨w2.heap.size, 0, none⟩ = some (.int .i64 (W - 1 - x)) := by rw [← hZ]; exact ((World.cell?_setCell_other _ _ _ _ (by simp)).trans (World.cell?_setCell_same _ _ _ (keepD p0)))
          have k1 : Z.cell? ⟨w2.heap.size, 1, none⟩ = some (.int .i64 y) := by rw [← hZ]; exact ((World.cell?_setCell_other _ _ _ _ (by simp)).trans ((World.cell?_setCell_other _ _ _ _ (by simp)).trans (keepD p1)))
          have k2 : Z.cell? ⟨w2.heap.size + 1, 0, none⟩ = some (.int .i64 (W - 1 - d1)) := by rw [← hZ]; exact (World.cell?_setCell_same _ _ _ ((World.cell?_setCell_other _ _ _ _ (by simp)).trans (keepD r0)))
          have k3 : Z.cell? ⟨w2.heap.size + 1, 1, none⟩ = some (.int .i64 d2) := by rw [← hZ]; exact ((World.cell?_setCell_other _ _ _ _ (by simp)).trans ((World.cell?_setCell_other _ _ _ _ (by simp)).trans (keepD r1)))
          have zq5 : wr.heap.size ≤ w2.heap.size := by have := gX.below.size; have := g2.below.size; omega
          have zN : W1.heap.size < wr.heap.size := x3.lt
          have HW := Lib.hid (And.intro (x1.bel gZ x1.lt) (And.intro (x2.bel gZ x2.lt) (x3.bel gZ zN)))
          have HO := Lib.hid (OwnE.below ho gZ (Nat.le_refl _))
          have HBZ := Lib.hid (hb.trans (gZ.mono hb.size))
          have P2 := HW.out.2.2.2.2.1
          have nq : ∀ q, wr.heap.size ≤ q → some q ≠ (Value.slice A4 k c4).ownBlock := fun q hq e => by have := OwnE.lt ho q e.symm; omega
          have NQ := Lib.hid nq
          have SZ := Lib.hid (show wr.heap.size ≤ Z.heap.size from gZ.size)
          obtain ⟨m0, m1, m2, hm⟩ : ∃ m0 m1 m2, mirB W (x, y, u) = (m0, m1, m2) := ⟨_, _, _, rfl⟩
          have BB := Lib.hid (fun (V : World) => Try.blockBetween V (W - 1 - x) y (W - 1 - d1) d2 m0 m1 m2 (by rw [← hm, ED.out.1, ED.out.2]; exact mir_bb))
          have HM := Lib.hid (show (ps.take (k + 1)).map (mirB W) = (ps.take k).map (mirB W) ++ [(m0, m1, m2)] by rw [List.take_succ_eq_append_getElem (show k < ps.length by omega), List.map_append, ← hm, ← hp, getD_eq _ _ (by omega)]; rfl)
          have LK := Lib.hid (show ((ps.take k).map (mirB W)).length ≤ 1000000000 by rw [List.length_map, List.length_take]; omega)
          have HS := Lib.hid (And.intro k0 (And.intro k1 (And.intro k2 k3)))
          have hN : w.heap.size + 1 < W1.heap.size := hw1
          clear hZ hm k0 k1 k2 k3 p0 p1 r0 r1 pf rf' gY gX y0 y1 y2 g2 t0 tS n1 n2 x1 x2 x3 ho hb gZ nq
          clear e0 e1 e2 c0 c1 c2 q
          generalize hq5 : w2.heap.size = q5 at *
          clear hq5
          refine wp_region_held_drew (S := fun W' => W'.cell? ⟨q5, 0, none⟩ = some (.int .i64 (W - 1 - x)) ∧ W'.cell? ⟨q5, 1, none⟩ = some (.int .i64 y) ∧ W'.cell? ⟨q5 + 1, 0, none⟩ = some (.int .i64 (W - 1 - d1)) ∧ W'.cell? ⟨q5 + 1, 1, none⟩ = some (.int .i64 d2)) (by kernel_rfl) (four_k2 HS.out (Below.drew (Below.refl _ _))) (fun hHeld => ?_)
          (refine wpAnyH_take (i := 0) (v := ?_) (by simp only [List.getElem?_toArray, List.getElem?_cons_succ, List.getElem?_cons_zero]; exact rfl) (by kernel_rfl) (by kernel_rfl) (by kernel_rfl) (by intro _ _ _ h; exact h) (Or.inl ⟨by rfl, ?_⟩) (by assumption) ?_; rotate_left; (focus (intro w' hSw; (try dsimp only at hSw); go_simp; (try with_reducible rfl))); try simp only [Act.put, List.setIfInBounds_toArray, List.set_cons_zero, List.set_cons_succ])
          (refine wpAnyH_take (i := 2) (v := ?_) (by simp only [List.getElem?_toArray, List.getElem?_cons_succ, List.getElem?_cons_zero]; exact rfl) (by kernel_rfl) (by kernel_rfl) (by kernel_rfl) (by intro _ _ _ h; exact h) (Or.inl ⟨by rfl, ?_⟩) (by assumption) ?_; rotate_left; (focus (intro w' hSw; (try dsimp only at hSw); go_simp; (try with_reducible rfl))); try simp only [Act.put, List.setIfInBounds_toArray, List.set_cons_zero, List.set_cons_succ])
          (refine wpAnyH_take (i := 3) (v := ?_) (by simp only [List.getElem?_toArray, List.getElem?_cons_succ, List.getElem?_cons_zero]; exact rfl) (by kernel_rfl) (by kernel_rfl) (by kernel_rfl) (by intro _ _ _ h; exact h) (Or.inl ⟨by rfl, ?_⟩) (by assumption) ?_; rotate_left; (focus (intro w' hSw; (try dsimp only at hSw); go_simp; (try with_reducible rfl))); try simp only [Act.put, List.setIfInBounds_toArray, List.set_cons_zero, List.set_cons_succ])
          refine wpAnyH_ready (rs := [1, 4]) (by kernel_rfl) (by simp) (AllReadyH.cons (by simp only [List.getElem?_toArray, List.getElem?_cons_succ, List.getElem?_cons_zero]; exact rfl) (fun K' hK => ?_) (AllReadyH.cons (by simp only [List.getElem?_toArray, List.getElem?_cons_succ, List.getElem?_cons_zero]; exact rfl) (fun K' hK => ?_) AllReadyH.nil))
          · go_simp
            (refine hK.out _ _ (hHeld) (fun hHeld => ?_); clear hK K'; try simp only [Act.put, List.setIfInBounds_toArray, List.set_cons_zero, List.set_cons_succ])
            refine wpAnyH_ready (rs := [4]) (by kernel_rfl) (by simp) (AllReadyH.cons (by simp only [List.getElem?_toArray, List.getElem?_cons_succ, List.getElem?_cons_zero]; exact rfl) (fun K' hK => ?_) AllReadyH.nil)
            go_simp
            (go_at_call 43; refine (BB.out _).mono ?_; rintro e w3 ⟨rfl, g3⟩)
            have G3 : Gr Z w3 := (Gr.drew (Gr.refl _)).trans g3
            have S3 := four_k2 HS.out G3.below
            have p3 := G3.keep0 P2
            have z3 : W1.heap.size < w3.heap.size := World.block_lt_of_cell? _ _ p3
            (refine hK.out _ _ (S3) (fun hHeld => ?_); clear hK K'; try simp only [Act.put, List.setIfInBounds_toArray, List.set_cons_zero, List.set_cons_succ])
            refine wpAnyH_ready (rs := [5]) (by kernel_rfl) (by simp) (AllReadyH.cons (by simp only [List.getElem?_toArray, List.getElem?_cons_succ, List.getElem?_cons_zero]; exact rfl) (fun K' hK => ?_) AllReadyH.nil)
            go_simp
            (refine hK.out _ _ (four_k2 S3 (Gr.alloc (Gr.refl _) _).below) (fun hHeld => ?_); clear hK K'; try simp only [Act.put, List.setIfInBounds_toArray, List.set_cons_zero, List.set_cons_succ])
            refine wpAnyH_ready (rs := [6]) (by kernel_rfl) (by simp) (AllReadyH.cons (by simp only [List.getElem?_toArray, List.getElem?_cons_succ, List.getElem?_cons_zero]; exact rfl) (fun K' hK => ?_) AllReadyH.nil)
            refine step_appE bcs_len bcs_one rfl (.tmp 45) (.tmp 49) 28 rfl 34 Try.underlying28 Try.infoB rfl (by decide) (by decide) (W1.heap.size + 1) _ _ rfl (HO.out.gr (Gr.alloc G3 _)) ⟨w3.heap.size, 0, none⟩ 1 1 [(m0, m1, m2)] rfl rfl (fun j u hu => alloc_cells (by simpa [ecs, bcs] using hu)) LK.out (by simp) (by have := G3.below.size; have := SZ.out; simp; omega) ?_; intro v4 w4 ho4 hb4 gb4 _; rw [← HM.out] at ho4; obtain ⟨A5, c5, rfl, ho4⟩ := OwnE.eta ho4; rw [List.length_map, List.length_take, Nat.min_eq_left (show k + 1 ≤ ps.length by omega)] at ho4 ⊢
            have S4 := four_gb gb4 (four_k2 S3 (Gr.alloc (Gr.refl _) (.cells #[.int .i64 m0, .int .i64 m1, .bool m2] 34)).below) (NQ.out _ zq5) (NQ.out _ (Nat.le_succ_of_le zq5))
            have bz : Below (W1.heap.size + 1) Z w4 := ((Gr.alloc G3 _).below.mono (by have := SZ.out; omega)).trans hb4
            have X4 := Lib.hid (And.intro (HW.out.1.bel bz (by omega)) (And.intro (HW.out.2.1.bel bz (by omega)) (HW.out.2.2.bel bz (by omega))))
            have p4 := X4.out.2.2.2.2.1
            have f4 := X4.out.2.2.2.2.2
            have B4 := Lib.hid (HBZ.out.trans (bz.mono (by omega)))
            have O4 := Lib.hid ho4
            have zN5 : W1.heap.size < q5 := by omega
            clear ho4 hb4 gb4 bz
            (refine hK.out _ _ (S4) (fun hHeld => ?_); clear hK K'; try simp only [Act.put, List.setIfInBounds_toArray, List.set_cons_zero, List.set_cons_succ])
            refine wpAnyH_ready (rs := [7]) (by kernel_rfl) (by simp) (AllReadyH.cons (by simp only [List.getElem?_toArray, List.getElem?_cons_succ, List.getElem?_cons_zero]; exact rfl) (fun K' hK => ?_) AllReadyH.nil)
            go_simp
            (refine hK.out _ _ (S4) (fun hHeld => ?_); clear hK K'; try simp only [Act.put, List.setIfInBounds_toArray, List.set_cons_zero, List.set_cons_succ])
            refine wpAnyH_ready (rs := [8]) (by kernel_rfl) (by simp) (AllReadyH.cons (by simp only [List.getElem?_toArray, List.getElem?_cons_succ, List.getElem?_cons_zero]; exact rfl) (fun K' hK => ?_) AllReadyH.nil)
            go_simp
            (refine hK.out _ _ (⟨cell_set_gt S4.1 zN5, cell_set_gt S4.2.1 zN5, cell_set_gt S4.2.2.1 (Nat.lt_succ_of_lt zN5), cell_set_gt S4.2.2.2 (Nat.lt_succ_of_lt zN5)⟩) (fun hHeld => ?_); clear hK K'; try simp only [Act.put, List.setIfInBounds_toArray, List.set_cons_zero, List.set_cons_succ])
            refine wpAnyH_done (by kernel_rfl) ?_ _
            go_wp2
            go_roundw
            case rel => exact ⟨k + 1, by omega, by go_num, A5, c5, by first | exact OwnE.setOther (a := ⟨W1.heap.size, 2, none⟩) O4.out (Nat.lt_succ_self W1.heap.size) _ | (exact OwnE.setOther (a := ⟨W1.heap.size, 2, none⟩) O4.out (Nat.lt_succ_self W1.heap.size) _), Bx.set1 X4.out.1 (by omega) _, Bx.set1 X4.out.2.1 (by omega) _, Bx.own2 X4.out.2.2, B4.out.setCell (by simp; omega) _⟩
            case measure => simp [intOf]; omega
          · go_simp
            (go_at_call 43; refine (BB.out _).mono ?_; rintro e w3 ⟨rfl, g3⟩)
            have G3 : Gr Z w3 := (Gr.drew (Gr.refl _)).trans g3
            have S3 := four_k2 HS.out G3.below
            have p3 := G3.keep0 P2
            have z3 : W1.heap.size < w3.heap.size := World.block_lt_of_cell? _ _ p3
            (refine hK.out _ _ (S3) (fun hHeld => ?_); clear hK K'; try simp only [Act.put, List.setIfInBounds_toArray, List.set_cons_zero, List.set_cons_succ])
            refine wpAnyH_ready (rs := [1, 5]) (by kernel_rfl) (by simp) (AllReadyH.cons (by simp only [List.getElem?_toArray, List.getElem?_cons_succ, List.getElem?_cons_zero]; exact rfl) (fun K' hK => ?_) (AllReadyH.cons (by simp only [List.getElem?_toArray, List.getElem?_cons_succ, List.getElem?_cons_zero]; exact rfl) (fun K' hK => ?_) AllReadyH.nil))
            · go_simp
              (refine hK.out _ _ (S3) (fun hHeld => ?_); clear hK K'; try simp only [Act.put, List.setIfInBounds_toArray, List.set_cons_zero, List.set_cons_succ])
              refine wpAnyH_ready (rs := [5]) (by kernel_rfl) (by simp) (AllReadyH.cons (by simp only [List.getElem?_toArray, List.getElem?_cons_succ, List.getElem?_cons_zero]; exact rfl) (fun K' hK => ?_) AllReadyH.nil)
              go_simp
              (refine hK.out _ _ (four_k2 S3 (Gr.alloc (Gr.refl _) _).below) (fun hHeld => ?_); clear hK K'; try simp only [Act.put, List.setIfInBounds_toArray, List.set_cons_zero, List.set_cons_succ])
              refine wpAnyH_ready (rs := [6]) (by kernel_rfl) (by simp) (AllReadyH.cons (by simp only [List.getElem?_toArray, List.getElem?_cons_succ, List.getElem?_cons_zero]; exact rfl) (fun K' hK => ?_) AllReadyH.nil)
              refine step_appE bcs_len bcs_one rfl (.tmp 45) (.tmp 49) 28 rfl 34 Try.underlying28 Try.infoB rfl (by decide) (by decide) (W1.heap.size + 1) _ _ rfl (HO.out.gr (Gr.alloc G3 _)) ⟨w3.heap.size, 0, none⟩ 1 1 [(m0, m1, m2)] rfl rfl (fun j u hu => alloc_cells (by simpa [ecs, bcs] using hu)) LK.out (by simp) (by have := G3.below.size; have := SZ.out; simp; omega) ?_; intro v4 w4 ho4 hb4 gb4 _; rw [← HM.out] at ho4; obtain ⟨A5, c5, rfl, ho4⟩ := OwnE.eta ho4; rw [List.length_map, List.length_take, Nat.min_eq_left (show k + 1 ≤ ps.length by omega)] at ho4 ⊢
              have S4 := four_gb gb4 (four_k2 S3 (Gr.alloc (Gr.refl _) (.cells #[.int .i64 m0, .int .i64 m1, .bool m2] 34)).below) (NQ.out _ zq5) (NQ.out _ (Nat.le_succ_of_le zq5))
              have bz : Below (W1.heap.size + 1) Z w4 := ((Gr.alloc G3 _).below.mono (by have := SZ.out; omega)).trans hb4
              have X4 := Lib.hid (And.intro (HW.out.1.bel bz (by omega)) (And.intro (HW.out.2.1.bel bz (by omega)) (HW.out.2.2.bel bz (by omega))))
              have p4 := X4.out.2.2.2.2.1
              have f4 := X4.out.2.2.2.2.2
              have B4 := Lib.hid (HBZ.out.trans (bz.mono (by omega)))
              have O4 := Lib.hid ho4
              have zN5 : W1.heap.size < q5 := by omega
              clear ho4 hb4 gb4 bz
              (refine hK.out _ _ (S4) (fun hHeld => ?_); clear hK K'; try simp only [Act.put, List.setIfInBounds_toArray, List.set_cons_zero, List.set_cons_succ])
              refine wpAnyH_ready (rs := [7]) (by kernel_rfl) (by simp) (AllReadyH.cons (by simp only [List.getElem?_toArray, List.getElem?_cons_succ, List.getElem?_cons_zero]; exact rfl) (fun K' hK => ?_) AllReadyH.nil)
              go_simp
              (refine hK.out _ _ (S4) (fun hHeld => ?_); clear hK K'; try simp only [Act.put, List.setIfInBounds_toArray, List.set_cons_zero, List.set_cons_succ])
              refine wpAnyH_ready (rs := [8]) (by kernel_rfl) (by simp) (AllReadyH.cons (by simp only [List.getElem?_toArray, List.getElem?_cons_succ, List.getElem?_cons_zero]; exact rfl) (fun K' hK => ?_) AllReadyH.nil)
              go_simp
              (refine hK.out _ _ (⟨cell_set_gt S4.1 zN5, cell_set_gt S4.2.1 zN5, cell_set_gt S4.2.2.1 (Nat.lt_succ_of_lt zN5), cell_set_gt S4.2.2.2 (Nat.lt_succ_of_lt zN5)⟩) (fun hHeld => ?_); clear hK K'; try simp only [Act.put, List.setIfInBounds_toArray, List.set_cons_zero, List.set_cons_succ])
              refine wpAnyH_done (by kernel_rfl) ?_ _
              go_wp2
              go_roundw
              case rel => exact ⟨k + 1, by omega, by go_num, A5, c5, by first | exact OwnE.setOther (a := ⟨W1.heap.size, 2, none⟩) O4.out (Nat.lt_succ_self W1.heap.size) _ | (exact OwnE.setOther (a := ⟨W1.heap.size, 2, none⟩) O4.out (Nat.lt_succ_self W1.heap.size) _), Bx.set1 X4.out.1 (by omega) _, Bx.set1 X4.out.2.1 (by omega) _, Bx.own2 X4.out.2.2, B4.out.setCell (by simp; omega) _⟩
              case measure => simp [intOf]; omega
            · go_simp
              (refine hK.out _ _ (four_k2 S3 (Gr.alloc (Gr.refl _) _).below) (fun hHeld => ?_); clear hK K'; try simp only [Act.put, List.setIfInBounds_toArray, List.set_cons_zero, List.set_cons_succ])
              refine wpAnyH_ready (rs := [1]) (by kernel_rfl) (by simp) (AllReadyH.cons (by simp only [List.getElem?_toArray, List.getElem?_cons_succ, List.getElem?_cons_zero]; exact rfl) (fun K' hK => ?_) AllReadyH.nil)
              go_simp
              (refine hK.out _ _ (hHeld) (fun hHeld => ?_); clear hK K'; try simp only [Act.put, List.setIfInBounds_toArray, List.set_cons_zero, List.set_cons_succ])
              refine wpAnyH_ready (rs := [6]) (by kernel_rfl) (by simp) (AllReadyH.cons (by simp only [List.getElem?_toArray, List.getElem?_cons_succ, List.getElem?_cons_zero]; exact rfl) (fun K' hK => ?_) AllReadyH.nil)
              refine step_appE bcs_len bcs_one rfl (.tmp 45) (.tmp 49) 28 rfl 34 Try.underlying28 Try.infoB rfl (by decide) (by decide) (W1.heap.size + 1) _ _ rfl (HO.out.gr (Gr.alloc G3 _)) ⟨w3.heap.size, 0, none⟩ 1 1 [(m0, m1, m2)] rfl rfl (fun j u hu => alloc_cells (by simpa [ecs, bcs] using hu)) LK.out (by simp) (by have := G3.below.size; have := SZ.out; simp; omega) ?_; intro v4 w4 ho4 hb4 gb4 _; rw [← HM.out] at ho4; obtain ⟨A5, c5, rfl, ho4⟩ := OwnE.eta ho4; rw [List.length_map, List.length_take, Nat.min_eq_left (show k + 1 ≤ ps.length by omega)] at ho4 ⊢
              have S4 := four_gb gb4 (four_k2 S3 (Gr.alloc (Gr.refl _) (.cells #[.int .i64 m0, .int .i64 m1, .bool m2] 34)).below) (NQ.out _ zq5) (NQ.out _ (Nat.le_succ_of_le zq5))
              have bz : Below (W1.heap.size + 1) Z w4 := ((Gr.alloc G3 _).below.mono (by have := SZ.out; omega)).trans hb4
              have X4 := Lib.hid (And.intro (HW.out.1.bel bz (by omega)) (And.intro (HW.out.2.1.bel bz (by omega)) (HW.out.2.2.bel bz (by omega))))
              have p4 := X4.out.2.2.2.2.1
              have f4 := X4.out.2.2.2.2.2
              have B4 := Lib.hid (HBZ.out.trans (bz.mono (by omega)))
              have O4 := Lib.hid ho4
              have zN5 : W1.heap.size < q5 := by omega
              clear ho4 hb4 gb4 bz
              (refine hK.out _ _ (S4) (fun hHeld => ?_); clear hK K'; try simp only [Act.put, List.setIfInBounds_toArray, List.set_cons_zero, List.set_cons_succ])
              refine wpAnyH_ready (rs := [7]) (by kernel_rfl) (by simp) (AllReadyH.cons (by simp only [List.getElem?_toArray, List.getElem?_cons_succ, List.getElem?_cons_zero]; exact rfl) (fun K' hK => ?_) AllReadyH.nil)
              go_simp
              (refine hK.out _ _ (S4) (fun hHeld => ?_); clear hK K'; try simp only [Act.put, List.setIfInBounds_toArray, List.set_cons_zero, List.set_cons_succ])
              refine wpAnyH_ready (rs := [8]) (by kernel_rfl) (by simp) (AllReadyH.cons (by simp only [List.getElem?_toArray, List.getElem?_cons_succ, List.getElem?_cons_zero]; exact rfl) (fun K' hK => ?_) AllReadyH.nil)
              go_simp
              (refine hK.out _ _ (⟨cell_set_gt S4.1 zN5, cell_set_gt S4.2.1 zN5, cell_set_gt S4.2.2.1 (Nat.lt_succ_of_lt zN5), cell_set_gt S4.2.2.2 (Nat.lt_succ_of_lt zN5)⟩) (fun hHeld => ?_); clear hK K'; try simp only [Act.put, List.setIfInBounds_toArray, List.set_cons_zero, List.set_cons_succ])
              refine wpAnyH_done (by kernel_rfl) ?_ _
              go_wp2
              go_roundw
              case rel => exact ⟨k + 1, by omega, by go_num, A5, c5, by first | exact OwnE.setOther (a := ⟨W1.heap.size, 2, none⟩) O4.out (Nat.lt_succ_self W1.heap.size) _ | (exact OwnE.setOther (a := ⟨W1.heap.size, 2, none⟩) O4.out (Nat.lt_succ_self W1.heap.size) _), Bx.set1 X4.out.1 (by omega) _, Bx.set1 X4.out.2.1 (by omega) _, Bx.own2 X4.out.2.2, B4.out.setCell (by simp; omega) _⟩
              case measure => simp [intOf]; omega
        · go_simp
          (refine hK.out _ _ (tS _ _ _ n1 (keepD t0)) (fun hHeld => ?_); clear hK K'; try simp only [Act.put, List.setIfInBounds_toArray, List.set_cons_zero, List.set_cons_succ])
          refine wpAnyH_ready (rs := [10]) (by kernel_rfl) (by simp) (AllReadyH.cons (by simp only [List.getElem?_toArray, List.getElem?_cons_succ, List.getElem?_cons_zero]; exact rfl) (fun K' hK => ?_) AllReadyH.nil)
          go_simp
          (refine hK.out _ _ (tS _ _ _ n1 (keepD t0)) (fun hHeld => ?_); clear hK K'; try simp only [Act.put, List.setIfInBounds_toArray, List.set_cons_zero, List.set_cons_succ])
          (refine wpAnyH_take (i := 11) (v := ?_) (by simp only [List.getElem?_toArray, List.getElem?_cons_succ, List.getElem?_cons_zero]; exact rfl) (by kernel_rfl) (by kernel_rfl) (by kernel_rfl) (by intro _ _ _ h; exact h) (Or.inl ⟨by rfl, ?_⟩) (by assumption) ?_; rotate_left; (focus (intro w' hSw; (try dsimp only at hSw); go_simp; (try with_reducible rfl))); try simp only [Act.put, List.setIfInBounds_toArray, List.set_cons_zero, List.set_cons_succ])
          (refine wpAnyH_take (i := 14) (v := ?_) (by simp only [List.getElem?_toArray, List.getElem?_cons_succ, List.getElem?_cons_zero]; exact rfl) (by kernel_rfl) (by kernel_rfl) (by kernel_rfl) (by intro _ _ _ h; exact h) (Or.inl ⟨by rfl, ?_⟩) (by assumption) ?_; rotate_left; (focus (intro w' hSw; (try dsimp only at hSw); go_simp; (try with_reducible rfl))); try simp only [Act.put, List.setIfInBounds_toArray, List.set_cons_zero, List.set_cons_succ])
          refine wpAnyH_ready (rs := [15]) (by kernel_rfl) (by simp) (AllReadyH.cons (by simp only [List.getElem?_toArray, List.getElem?_cons_succ, List.getElem?_cons_zero]; exact rfl) (fun K' hK => ?_) AllReadyH.nil)
          go_simp
          (refine hK.out _ _ (tS _ _ _ n2 (tS _ _ _ n1 (keepD t0))) (fun hHeld => ?_); clear hK K'; try simp only [Act.put, List.setIfInBounds_toArray, List.set_cons_zero, List.set_cons_succ])
          refine wpAnyH_done (by kernel_rfl) ?_ _
          go_upto_region 9 with fail
          obtain ⟨Z, hZ⟩ : ∃ Z, ((Y.setCell ⟨w2.heap.size, 0, none⟩ (.int .i64 (W - 1 - x))).setCell ⟨w2.heap.size + 1, 0, none⟩ (.int .i64 (W - 1 - d1))).drew = Z := ⟨_, rfl⟩
          rw [hZ]
          have gZ : Below wr.heap.size wr Z := by rw [← hZ]; exact ((gY.below.drew.setCell (by have := gX.below.size; have := g2.below.size; simp; omega) _).setCell (by have := gX.below.size; have := g2.below.size; simp; omega) _)
          have k0 : Z.cell? ⟨w2.heap.size, 0, none⟩ = some (.int .i64 (W - 1 - x)) := by rw [← hZ]; exact ((World.cell?_setCell_other _ _ _ _ (by simp)).trans (World.cell?_setCell_same _ _ _ (keepD p0)))
          have k1 : Z.cell? ⟨w2.heap.size, 1, none⟩ = some (.int .i64 y) := by rw [← hZ]; exact ((World.cell?_setCell_other _ _ _ _ (by simp)).trans ((World.cell?_setCell_other _ _ _ _ (by simp)).trans (keepD p1)))
          have k2 : Z.cell? ⟨w2.heap.size + 1, 0, none⟩ = some (.int .i64 (W - 1 - d1)) := by rw [← hZ]; exact (World.cell?_setCell_same _ _ _ ((World.cell?_setCell_other _ _ _ _ (by simp)).trans (keepD r0)))
          have k3 : Z.cell? ⟨w2.heap.size + 1, 1, none⟩ = some (.int .i64 d2) := by rw [← hZ]; exact ((World.cell?_setCell_other _ _ _ _ (by simp)).trans ((World.cell?_setCell_other _ _ _ _ (by simp)).trans (keepD r1)))
          have zq5 : wr.heap.size ≤ w2.heap.size := by have := gX.below.size; have := g2.below.size; omega
          have zN : W1.heap.size < wr.heap.size := x3.lt
          have HW := Lib.hid (And.intro (x1.bel gZ x1.lt) (And.intro (x2.bel gZ x2.lt) (x3.bel gZ zN)))
          have HO := Lib.hid (OwnE.below ho gZ (Nat.le_refl _))
          have HBZ := Lib.hid (hb.trans (gZ.mono hb.size))
          have P2 := HW.out.2.2.2.2.1
          have nq : ∀ q, wr.heap.size ≤ q → some q ≠ (Value.slice A4 k c4).ownBlock := fun q hq e => by have := OwnE.lt ho q e.symm; omega
          have NQ := Lib.hid nq
          have SZ := Lib.hid (show wr.heap.size ≤ Z.heap.size from gZ.size)
          obtain ⟨m0, m1, m2, hm⟩ : ∃ m0 m1 m2, mirB W (x, y, u) = (m0, m1, m2) := ⟨_, _, _, rfl⟩
          have BB := Lib.hid (fun (V : World) => Try.blockBetween V (W - 1 - x) y (W - 1 - d1) d2 m0 m1 m2 (by rw [← hm, ED.out.1, ED.out.2]; exact mir_bb))
          have HM := Lib.hid (show (ps.take (k + 1)).map (mirB W) = (ps.take k).map (mirB W) ++ [(m0, m1, m2)] by rw [List.take_succ_eq_append_getElem (show k < ps.length by omega), List.map_append, ← hm, ← hp, getD_eq _ _ (by omega)]; rfl)
          have LK := Lib.hid (show ((ps.take k).map (mirB W)).length ≤ 1000000000 by rw [List.length_map, List.length_take]; omega)
          have HS := Lib.hid (And.intro k0 (And.intro k1 (And.intro k2 k3)))
          have hN : w.heap.size + 1 < W1.heap.size := hw1
          clear hZ hm k0 k1 k2 k3 p0 p1 r0 r1 pf rf' gY gX y0 y1 y2 g2 t0 tS n1 n2 x1 x2 x3 ho hb gZ nq
          clear e0 e1 e2 c0 c1 c2 q
          generalize hq5 : w2.heap.size = q5 at *
          clear hq5
          refine wp_region_held_drew (S := fun W' => W'.cell? ⟨q5, 0, none⟩ = some (.int .i64 (W - 1 - x)) ∧ W'.cell? ⟨q5, 1, none⟩ = some (.int .i64 y) ∧ W'.cell? ⟨q5 + 1, 0, none⟩ = some (.int .i64 (W - 1 - d1)) ∧ W'.cell? ⟨q5 + 1, 1, none⟩ = some (.int .i64 d2)) (by kernel_rfl) (four_k2 HS.out (Below.drew (Below.refl _ _))) (fun hHeld => ?_)
          (refine wpAnyH_take (i := 0) (v := ?_) (by simp only [List.getElem?_toArray, List.getElem?_cons_succ, List.getElem?_cons_zero]; exact rfl) (by kernel_rfl) (by kernel_rfl) (by kernel_rfl) (by intro _ _ _ h; exact h) (Or.inl ⟨by rfl, ?_⟩) (by assumption) ?_; rotate_left; (focus (intro w' hSw; (try dsimp only at hSw); go_simp; (try with_reducible rfl))); try simp only [Act.put, List.setIfInBounds_toArray, List.set_cons_zero, List.set_cons_succ])
          (refine wpAnyH_take (i := 2) (v := ?_) (by simp only [List.getElem?_toArray, List.getElem?_cons_succ, List.getElem?_cons_zero]; exact rfl) (by kernel_rfl) (by kernel_rfl) (by kernel_rfl) (by intro _ _ _ h; exact h) (Or.inl ⟨by rfl, ?_⟩) (by assumption) ?_; rotate_left; (focus (intro w' hSw; (try dsimp only at hSw); go_simp; (try with_reducible rfl))); try simp only [Act.put, List.setIfInBounds_toArray, List.set_cons_zero, List.set_cons_succ])
          (refine wpAnyH_take (i := 3) (v := ?_) (by simp only [List.getElem?_toArray, List.getElem?_cons_succ, List.getElem?_cons_zero]; exact rfl) (by kernel_rfl) (by kernel_rfl) (by kernel_rfl) (by intro _ _ _ h; exact h) (Or.inl ⟨by rfl, ?_⟩) (by assumption) ?_; rotate_left; (focus (intro w' hSw; (try dsimp only at hSw); go_simp; (try with_reducible rfl))); try simp only [Act.put, List.setIfInBounds_toArray, List.set_cons_zero, List.set_cons_succ])
          refine wpAnyH_ready (rs := [1, 4]) (by kernel_rfl) (by simp) (AllReadyH.cons (by simp only [List.getElem?_toArray, List.getElem?_cons_succ, List.getElem?_cons_zero]; exact rfl) (fun K' hK => ?_) (AllReadyH.cons (by simp only [List.getElem?_toArray, List.getElem?_cons_succ, List.getElem?_cons_zero]; exact rfl) (fun K' hK => ?_) AllReadyH.nil))
          · go_simp
            (refine hK.out _ _ (hHeld) (fun hHeld => ?_); clear hK K'; try simp only [Act.put, List.setIfInBounds_toArray, List.set_cons_zero, List.set_cons_succ])
            refine wpAnyH_ready (rs := [4]) (by kernel_rfl) (by simp) (AllReadyH.cons (by simp only [List.getElem?_toArray, List.getElem?_cons_succ, List.getElem?_cons_zero]; exact rfl) (fun K' hK => ?_) AllReadyH.nil)
            go_simp
            (go_at_call 43; refine (BB.out _).mono ?_; rintro e w3 ⟨rfl, g3⟩)
            have G3 : Gr Z w3 := (Gr.drew (Gr.refl _)).trans g3
            have S3 := four_k2 HS.out G3.below
            have p3 := G3.keep0 P2
            have z3 : W1.heap.size < w3.heap.size := World.block_lt_of_cell? _ _ p3
            (refine hK.out _ _ (S3) (fun hHeld => ?_); clear hK K'; try simp only [Act.put, List.setIfInBounds_toArray, List.set_cons_zero, List.set_cons_succ])
            refine wpAnyH_ready (rs := [5]) (by kernel_rfl) (by simp) (AllReadyH.cons (by simp only [List.getElem?_toArray, List.getElem?_cons_succ, List.getElem?_cons_zero]; exact rfl) (fun K' hK => ?_) AllReadyH.nil)
            go_simp
            (refine hK.out _ _ (four_k2 S3 (Gr.alloc (Gr.refl _) _).below) (fun hHeld => ?_); clear hK K'; try simp only [Act.put, List.setIfInBounds_toArray, List.set_cons_zero, List.set_cons_succ])
            refine wpAnyH_ready (rs := [6]) (by kernel_rfl) (by simp) (AllReadyH.cons (by simp only [List.getElem?_toArray, List.getElem?_cons_succ, List.getElem?_cons_zero]; exact rfl) (fun K' hK => ?_) AllReadyH.nil)
            refine step_appE bcs_len bcs_one rfl (.tmp 45) (.tmp 49) 28 rfl 34 Try.underlying28 Try.infoB rfl (by decide) (by decide) (W1.heap.size + 1) _ _ rfl (HO.out.gr (Gr.alloc G3 _)) ⟨w3.heap.size, 0, none⟩ 1 1 [(m0, m1, m2)] rfl rfl (fun j u hu => alloc_cells (by simpa [ecs, bcs] using hu)) LK.out (by simp) (by have := G3.below.size; have := SZ.out; simp; omega) ?_; intro v4 w4 ho4 hb4 gb4 _; rw [← HM.out] at ho4; obtain ⟨A5, c5, rfl, ho4⟩ := OwnE.eta ho4; rw [List.length_map, List.length_take, Nat.min_eq_left (show k + 1 ≤ ps.length by omega)] at ho4 ⊢
            have S4 := four_gb gb4 (four_k2 S3 (Gr.alloc (Gr.refl _) (.cells #[.int .i64 m0, .int .i64 m1, .bool m2] 34)).below) (NQ.out _ zq5) (NQ.out _ (Nat.le_succ_of_le zq5))
            have bz : Below (W1.heap.size + 1) Z w4 := ((Gr.alloc G3 _).below.mono (by have := SZ.out; omega)).trans hb4
            have X4 := Lib.hid (And.intro (HW.out.1.bel bz (by omega)) (And.intro (HW.out.2.1.bel bz (by omega)) (HW.out.2.2.bel bz (by omega))))
            have p4 := X4.out.2.2.2.2.1
            have f4 := X4.out.2.2.2.2.2
            have B4 := Lib.hid (HBZ.out.trans (bz.mono (by omega)))
            have O4 := Lib.hid ho4
            have zN5 : W1.heap.size < q5 := by omega
            clear ho4 hb4 gb4 bz
            (refine hK.out _ _ (S4) (fun hHeld => ?_); clear hK K'; try simp only [Act.put, List.setIfInBounds_toArray, List.set_cons_zero, List.set_cons_succ])
            refine wpAnyH_ready (rs := [7]) (by kernel_rfl) (by simp) (AllReadyH.cons (by simp only [List.getElem?_toArray, List.getElem?_cons_succ, List.getElem?_cons_zero]; exact rfl) (fun K' hK => ?_) AllReadyH.nil)
            go_simp
            (refine hK.out _ _ (S4) (fun hHeld => ?_); clear hK K'; try simp only [Act.put, List.setIfInBounds_toArray, List.set_cons_zero, List.set_cons_succ])
            refine wpAnyH_ready (rs := [8]) (by kernel_rfl) (by simp) (AllReadyH.cons (by simp only [List.getElem?_toArray, List.getElem?_cons_succ, List.getElem?_cons_zero]; exact rfl) (fun K' hK => ?_) AllReadyH.nil)
            go_simp
            (refine hK.out _ _ (⟨cell_set_gt S4.1 zN5, cell_set_gt S4.2.1 zN5, cell_set_gt S4.2.2.1 (Nat.lt_succ_of_lt zN5), cell_set_gt S4.2.2.2 (Nat.lt_succ_of_lt zN5)⟩) (fun hHeld => ?_); clear hK K'; try simp only [Act.put, List.setIfInBounds_toArray, List.set_cons_zero, List.set_cons_succ])
            refine wpAnyH_done (by kernel_rfl) ?_ _
            go_wp2
            go_roundw
            case rel => exact ⟨k + 1, by omega, by go_num, A5, c5, by first | exact OwnE.setOther (a := ⟨W1.heap.size, 2, none⟩) O4.out (Nat.lt_succ_self W1.heap.size) _ | (exact OwnE.setOther (a := ⟨W1.heap.size, 2, none⟩) O4.out (Nat.lt_succ_self W1.heap.size) _), Bx.set1 X4.out.1 (by omega) _, Bx.set1 X4.out.2.1 (by omega) _, Bx.own2 X4.out.2.2, B4.out.setCell (by simp; omega) _⟩
            case measure => simp [intOf]; omega
          · go_simp
            (go_at_call 43; refine (BB.out _).mono ?_; rintro e w3 ⟨rfl, g3⟩)
            have G3 : Gr Z w3 := (Gr.drew (Gr.refl _)).trans g3
            have S3 := four_k2 HS.out G3.below
            have p3 := G3.keep0 P2
            have z3 : W1.heap.size < w3.heap.size := World.block_lt_of_cell? _ _ p3
            (refine hK.out _ _ (S3) (fun hHeld => ?_); clear hK K'; try simp only [Act.put, List.setIfInBounds_toArray, List.set_cons_zero, List.set_cons_succ])
            refine wpAnyH_ready (rs := [1, 5]) (by kernel_rfl) (by simp) (AllReadyH.cons (by simp only [List.getElem?_toArray, List.getElem?_cons_succ, List.getElem?_cons_zero]; exact rfl) (fun K' hK => ?_) (AllReadyH.cons (by simp only [List.getElem?_toArray, List.getElem?_cons_succ, List.getElem?_cons_zero]; exact rfl) (fun K' hK => ?_) AllReadyH.nil))
            · go_simp
              (refine hK.out _ _ (S3) (fun hHeld => ?_); clear hK K'; try simp only [Act.put, List.setIfInBounds_toArray, List.set_cons_zero, List.set_cons_succ])
              refine wpAnyH_ready (rs := [5]) (by kernel_rfl) (by simp) (AllReadyH.cons (by simp only [List.getElem?_toArray, List.getElem?_cons_succ, List.getElem?_cons_zero]; exact rfl) (fun K' hK => ?_) AllReadyH.nil)
              go_simp
              (refine hK.out _ _ (four_k2 S3 (Gr.alloc (Gr.refl _) _).below) (fun hHeld => ?_); clear hK K'; try simp only [Act.put, List.setIfInBounds_toArray, List.set_cons_zero, List.set_cons_succ])
              refine wpAnyH_ready (rs := [6]) (by kernel_rfl) (by simp) (AllReadyH.cons (by simp only [List.getElem?_toArray, List.getElem?_cons_succ, List.getElem?_cons_zero]; exact rfl) (fun K' hK => ?_) AllReadyH.nil)
              refine step_appE bcs_len bcs_one rfl (.tmp 45) (.tmp 49) 28 rfl 34 Try.underlying28 Try.infoB rfl (by decide) (by decide) (W1.heap.size + 1) _ _ rfl (HO.out.gr (Gr.alloc G3 _)) ⟨w3.heap.size, 0, none⟩ 1 1 [(m0, m1, m2)] rfl rfl (fun j u hu => alloc_cells (by simpa [ecs, bcs] using hu)) LK.out (by simp) (by have := G3.below.size; have := SZ.out; simp; omega) ?_; intro v4 w4 ho4 hb4 gb4 _; rw [← HM.out] at ho4; obtain ⟨A5, c5, rfl, ho4⟩ := OwnE.eta ho4; rw [List.length_map, List.length_take, Nat.min_eq_left (show k + 1 ≤ ps.length by omega)] at ho4 ⊢
              have S4 := four_gb gb4 (four_k2 S3 (Gr.alloc (Gr.refl _) (.cells #[.int .i64 m0, .int .i64 m1, .bool m2] 34)).below) (NQ.out _ zq5) (NQ.out _ (Nat.le_succ_of_le zq5))
              have bz : Below (W1.heap.size + 1) Z w4 := ((Gr.alloc G3 _).below.mono (by have := SZ.out; omega)).trans hb4
              have X4 := Lib.hid (And.intro (HW.out.1.bel bz (by omega)) (And.intro (HW.out.2.1.bel bz (by omega)) (HW.out.2.2.bel bz (by omega))))
              have p4 := X4.out.2.2.2.2.1
              have f4 := X4.out.2.2.2.2.2
              have B4 := Lib.hid (HBZ.out.trans (bz.mono (by omega)))
              have O4 := Lib.hid ho4
              have zN5 : W1.heap.size < q5 := by omega
              clear ho4 hb4 gb4 bz
              (refine hK.out _ _ (S4) (fun hHeld => ?_); clear hK K'; try simp only [Act.put, List.setIfInBounds_toArray, List.set_cons_zero, List.set_cons_succ])
              refine wpAnyH_ready (rs := [7]) (by kernel_rfl) (by simp) (AllReadyH.cons (by simp only [List.getElem?_toArray, List.getElem?_cons_succ, List.getElem?_cons_zero]; exact rfl) (fun K' hK => ?_) AllReadyH.nil)
              go_simp
              (refine hK.out _ _ (S4) (fun hHeld => ?_); clear hK K'; try simp only [Act.put, List.setIfInBounds_toArray, List.set_cons_zero, List.set_cons_succ])
              refine wpAnyH_ready (rs := [8]) (by kernel_rfl) (by simp) (AllReadyH.cons (by simp only [List.getElem?_toArray, List.getElem?_cons_succ, List.getElem?_cons_zero]; exact rfl) (fun K' hK => ?_) AllReadyH.nil)
              go_simp
              (refine hK.out _ _ (⟨cell_set_gt S4.1 zN5, cell_set_gt S4.2.1 zN5, cell_set_gt S4.2.2.1 (Nat.lt_succ_of_lt zN5), cell_set_gt S4.2.2.2 (Nat.lt_succ_of_lt zN5)⟩) (fun hHeld => ?_); clear hK K'; try simp only [Act.put, List.setIfInBounds_toArray, List.set_cons_zero, List.set_cons_succ])
              refine wpAnyH_done (by kernel_rfl) ?_ _
              go_wp2
              go_roundw
              case rel => exact ⟨k + 1, by omega, by go_num, A5, c5, by first | exact OwnE.setOther (a := ⟨W1.heap.size, 2, none⟩) O4.out (Nat.lt_succ_self W1.heap.size) _ | (exact OwnE.setOther (a := ⟨W1.heap.size, 2, none⟩) O4.out (Nat.lt_succ_self W1.heap.size) _), Bx.set1 X4.out.1 (by omega) _, Bx.set1 X4.out.2.1 (by omega) _, Bx.own2 X4.out.2.2, B4.out.setCell (by simp; omega) _⟩
              case measure => simp [intOf]; omega
            · go_simp
              (refine hK.out _ _ (four_k2 S3 (Gr.alloc (Gr.refl _) _).below) (fun hHeld => ?_); clear hK K'; try simp only [Act.put, List.setIfInBounds_toArray, List.set_cons_zero, List.set_cons_succ])
              refine wpAnyH_ready (rs := [1]) (by kernel_rfl) (by simp) (AllReadyH.cons (by simp only [List.getElem?_toArray, List.getElem?_cons_succ, List.getElem?_cons_zero]; exact rfl) (fun K' hK => ?_) AllReadyH.nil)
              go_simp
              (refine hK.out _ _ (hHeld) (fun hHeld => ?_); clear hK K'; try simp only [Act.put, List.setIfInBounds_toArray, List.set_cons_zero, List.set_cons_succ])
              refine wpAnyH_ready (rs := [6]) (by kernel_rfl) (by simp) (AllReadyH.cons (by simp only [List.getElem?_toArray, List.getElem?_cons_succ, List.getElem?_cons_zero]; exact rfl) (fun K' hK => ?_) AllReadyH.nil)
              refine step_appE bcs_len bcs_one rfl (.tmp 45) (.tmp 49) 28 rfl 34 Try.underlying28 Try.infoB rfl (by decide) (by decide) (W1.heap.size + 1) _ _ rfl (HO.out.gr (Gr.alloc G3 _)) ⟨w3.heap.size, 0, none⟩ 1 1 [(m0, m1, m2)] rfl rfl (fun j u hu => alloc_cells (by simpa [ecs, bcs] using hu)) LK.out (by simp) (by have := G3.below.size; have := SZ.out; simp; omega) ?_; intro v4 w4 ho4 hb4 gb4 _; rw [← HM.out] at ho4; obtain ⟨A5, c5, rfl, ho4⟩ := OwnE.eta ho4; rw [List.length_map, List.length_take, Nat.min_eq_left (show k + 1 ≤ ps.length by omega)] at ho4 ⊢
              have S4 := four_gb gb4 (four_k2 S3 (Gr.alloc (Gr.refl _) (.cells #[.int .i64 m0, .int .i64 m1, .bool m2] 34)).below) (NQ.out _ zq5) (NQ.out _ (Nat.le_succ_of_le zq5))
              have bz : Below (W1.heap.size + 1) Z w4 := ((Gr.alloc G3 _).below.mono (by have := SZ.out; omega)).trans hb4
              have X4 := Lib.hid (And.intro (HW.out.1.bel bz (by omega)) (And.intro (HW.out.2.1.bel bz (by omega)) (HW.out.2.2.bel bz (by omega))))
              have p4 := X4.out.2.2.2.2.1
              have f4 := X4.out.2.2.2.2.2
              have B4 := Lib.hid (HBZ.out.trans (bz.mono (by omega)))
              have O4 := Lib.hid ho4
              have zN5 : W1.heap.size < q5 := by omega
              clear ho4 hb4 gb4 bz
              (refine hK.out _ _ (S4) (fun hHeld => ?_); clear hK K'; try simp only [Act.put, List.setIfInBounds_toArray, List.set_cons_zero, List.set_cons_succ])
              refine wpAnyH_ready (rs := [7]) (by kernel_rfl) (by simp) (AllReadyH.cons (by simp only [List.getElem?_toArray, List.getElem?_cons_succ, List.getElem?_cons_zero]; exact rfl) (fun K' hK => ?_) AllReadyH.nil)
              go_simp
              (refine hK.out _ _ (S4) (fun hHeld => ?_); clear hK K'; try simp only [Act.put, List.setIfInBounds_toArray, List.set_cons_zero, List.set_cons_succ])
              refine wpAnyH_ready (rs := [8]) (by kernel_rfl) (by simp) (AllReadyH.cons (by simp only [List.getElem?_toArray, List.getElem?_cons_succ, List.getElem?_cons_zero]; exact rfl) (fun K' hK => ?_) AllReadyH.nil)
              go_simp
              (refine hK.out _ _ (⟨cell_set_gt S4.1 zN5, cell_set_gt S4.2.1 zN5, cell_set_gt S4.2.2.1 (Nat.lt_succ_of_lt zN5), cell_set_gt S4.2.2.2 (Nat.lt_succ_of_lt zN5)⟩) (fun hHeld => ?_); clear hK K'; try simp only [Act.put, List.setIfInBounds_toArray, List.set_cons_zero, List.set_cons_succ])
              refine wpAnyH_done (by kernel_rfl) ?_ _
              go_wp2
              go_roundw
              case rel => exact ⟨k + 1, by omega, by go_num, A5, c5, by first | exact OwnE.setOther (a := ⟨W1.heap.size, 2, none⟩) O4.out (Nat.lt_succ_self W1.heap.size) _ | (exact OwnE.setOther (a := ⟨W1.heap.size, 2, none⟩) O4.out (Nat.lt_succ_self W1.heap.size) _), Bx.set1 X4.out.1 (by omega) _, Bx.set1 X4.out.2.1 (by omega) _, Bx.own2 X4.out.2.2, B4.out.setCell (by simp; omega) _⟩
              case measure => simp [intOf]; omega
      · go_simp
        (refine hK.out _ _ (keepD t0) (fun hHeld => ?_); clear hK K'; try simp only [Act.put, List.setIfInBounds_toArray, List.set_cons_zero, List.set_cons_succ])
        (refine wpAnyH_take (i := 11) (v := ?_) (by simp only [List.getElem?_toArray, List.getElem?_cons_succ, List.getElem?_cons_zero]; exact rfl) (by kernel_rfl) (by kernel_rfl) (by kernel_rfl) (by intro _ _ _ h; exact h) (Or.inl ⟨by rfl, ?_⟩) (by assumption) ?_; rotate_left; (focus (intro w' hSw; (try dsimp only at hSw); go_simp; (try with_reducible rfl))); try simp only [Act.put, List.setIfInBounds_toArray, List.set_cons_zero, List.set_cons_succ])
        refine wpAnyH_ready (rs := [4]) (by kernel_rfl) (by simp) (AllReadyH.cons (by simp only [List.getElem?_toArray, List.getElem?_cons_succ, List.getElem?_cons_zero]; exact rfl) (fun K' hK => ?_) AllReadyH.nil)
        go_simp
        (refine hK.out _ _ (keepD t0) (fun hHeld => ?_); clear hK K'; try simp only [Act.put, List.setIfInBounds_toArray, List.set_cons_zero, List.set_cons_succ])
        (refine wpAnyH_take (i := 5) (v := ?_) (by simp only [List.getElem?_toArray, List.getElem?_cons_succ, List.getElem?_cons_zero]; exact rfl) (by kernel_rfl) (by kernel_rfl) (by kernel_rfl) (by intro _ _ _ h; exact h) (Or.inl ⟨by rfl, ?_⟩) (by assumption) ?_; rotate_left; (focus (intro w' hSw; (try dsimp only at hSw); go_simp; (try with_reducible rfl))); try simp only [Act.put, List.setIfInBounds_toArray, List.set_cons_zero, List.set_cons_succ])
        (refine wpAnyH_take (i := 12) (v := ?_) (by simp only [List.getElem?_toArray, List.getElem?_cons_succ, List.getElem?_cons_zero]; exact rfl) (by kernel_rfl) (by kernel_rfl) (by kernel_rfl) (by intro _ _ _ h; exact h) (Or.inl ⟨by rfl, ?_⟩) (by assumption) ?_; rotate_left; (focus (intro w' hSw; (try dsimp only at hSw); go_simp; (try with_reducible rfl))); try simp only [Act.put, List.setIfInBounds_toArray, List.set_cons_zero, List.set_cons_succ])
        refine wpAnyH_ready (rs := [13]) (by kernel_rfl) (by simp) (AllReadyH.cons (by simp only [List.getElem?_toArray, List.getElem?_cons_succ, List.getElem?_cons_zero]; exact rfl) (fun K' hK => ?_) AllReadyH.nil)
        go_simp
        (refine hK.out _ _ (tS _ _ _ n1 (keepD t0)) (fun hHeld => ?_); clear hK K'; try simp only [Act.put, List.setIfInBounds_toArray, List.set_cons_zero, List.set_cons_succ])
        (refine wpAnyH_take (i := 14) (v := ?_) (by simp only [List.getElem?_toArray, List.getElem?_cons_succ, List.getElem?_cons_zero]; exact rfl) (by kernel_rfl) (by kernel_rfl) (by kernel_rfl) (by intro _ _ _ h; exact h) (Or.inl ⟨by rfl, ?_⟩) (by assumption) ?_; rotate_left; (focus (intro w' hSw; (try dsimp only at hSw); go_simp; (try with_reducible rfl))); try simp only [Act.put, List.setIfInBounds_toArray, List.set_cons_zero, List.set_cons_succ])
        refine wpAnyH_ready (rs := [15]) (by kernel_rfl) (by simp) (AllReadyH.cons (by simp only [List.getElem?_toArray, List.getElem?_cons_succ, List.getElem?_cons_zero]; exact rfl) (fun K' hK => ?_) AllReadyH.nil)
        go_simp
        (refine hK.out _ _ (tS _ _ _ n2 (tS _ _ _ n1 (keepD t0))) (fun hHeld => ?_); clear hK K'; try simp only [Act.put, List.setIfInBounds_toArray, List.set_cons_zero, List.set_cons_succ])
        refine wpAnyH_done (by kernel_rfl) ?_ _
        go_upto_region 9 with fail
        obtain ⟨Z, hZ⟩ : ∃ Z, ((Y.setCell ⟨w2.heap.size, 0, none⟩ (.int .i64 (W - 1 - x))).setCell ⟨w2.heap.size + 1, 0, none⟩ (.int .i64 (W - 1 - d1))).drew = Z := ⟨_, rfl⟩
        rw [hZ]
        have gZ : Below wr.heap.size wr Z := by rw [← hZ]; exact ((gY.below.drew.setCell (by have := gX.below.size; have := g2.below.size; simp; omega) _).setCell (by have := gX.below.size; have := g2.below.size; simp; omega) _)
        have k0 : Z.cell? ⟨w2.heap.size, 0, none⟩ = some (.int .i64 (W - 1 - x)) := by rw [← hZ]; exact ((World.cell?_setCell_other _ _ _ _ (by simp)).trans (World.cell?_setCell_same _ _ _ (keepD p0)))
        have k1 : Z.cell? ⟨w2.heap.size, 1, none⟩ = some (.int .i64 y) := by rw [← hZ]; exact ((World.cell?_setCell_other _ _ _ _ (by simp)).trans ((World.cell?_setCell_other _ _ _ _ (by simp)).trans (keepD p1)))
        have k2 : Z.cell? ⟨w2.heap.size + 1, 0, none⟩ = some (.int .i64 (W - 1 - d1)) := by rw [← hZ]; exact (World.cell?_setCell_same _ _ _ ((World.cell?_setCell_other _ _ _ _ (by simp)).trans (keepD r0)))
        have k3 : Z.cell? ⟨w2.heap.size + 1, 1, none⟩ = some (.int .i64 d2) := by rw [← hZ]; exact ((World.cell?_setCell_other _ _ _ _ (by simp)).trans ((World.cell?_setCell_other _ _ _ _ (by simp)).trans (keepD r1)))
        have zq5 : wr.heap.size ≤ w2.heap.size := by have := gX.below.size; have := g2.below.size; omega
        have zN : W1.heap.size < wr.heap.size := x3.lt
        have HW := Lib.hid (And.intro (x1.bel gZ x1.lt) (And.intro (x2.bel gZ x2.lt) (x3.bel gZ zN)))
        have HO := Lib.hid (OwnE.below ho gZ (Nat.le_refl _))
        have HBZ := Lib.hid (hb.trans (gZ.mono hb.size))
        have P2 := HW.out.2.2.2.2.1
        have nq : ∀ q, wr.heap.size ≤ q → some q ≠ (Value.slice A4 k c4).ownBlock := fun q hq e => by have := OwnE.lt ho q e.symm; omega
        have NQ := Lib.hid nq
        have SZ := Lib.hid (show wr.heap.size ≤ Z.heap.size from gZ.size)
        obtain ⟨m0, m1, m2, hm⟩ : ∃ m0 m1 m2, mirB W (x, y, u) = (m0, m1, m2) := ⟨_, _, _, rfl⟩
        have BB := Lib.hid (fun (V : World) => Try.blockBetween V (W - 1 - x) y (W - 1 - d1) d2 m0 m1 m2 (by rw [← hm, ED.out.1, ED.out.2]; exact mir_bb))
        have HM := Lib.hid (show (ps.take (k + 1)).map (mirB W) = (ps.take k).map (mirB W) ++ [(m0, m1, m2)] by rw [List.take_succ_eq_append_getElem (show k < ps.length by omega), List.map_append, ← hm, ← hp, getD_eq _ _ (by omega)]; rfl)
        have LK := Lib.hid (show ((ps.take k).map (mirB W)).length ≤ 1000000000 by rw [List.length_map, List.length_take]; omega)
        have HS := Lib.hid (And.intro k0 (And.intro k1 (And.intro k2 k3)))
        have hN : w.heap.size + 1 < W1.heap.size := hw1
        clear hZ hm k0 k1 k2 k3 p0 p1 r0 r1 pf rf' gY gX y0 y1 y2 g2 t0 tS n1 n2 x1 x2 x3 ho hb gZ nq
        clear e0 e1 e2 c0 c1 c2 q
        generalize hq5 : w2.heap.size = q5 at *
        clear hq5
        refine wp_region_held_drew (S := fun W' => W'.cell? ⟨q5, 0, none⟩ = some (.int .i64 (W - 1 - x)) ∧ W'.cell? ⟨q5, 1, none⟩ = some (.int .i64 y) ∧ W'.cell? ⟨q5 + 1, 0, none⟩ = some (.int .i64 (W - 1 - d1)) ∧ W'.cell? ⟨q5 + 1, 1, none⟩ = some (.int .i64 d2)) (by kernel_rfl) (four_k2 HS.out (Below.drew (Below.refl _ _))) (fun hHeld => ?_)
        (refine wpAnyH_take (i := 0) (v := ?_) (by simp only [List.getElem?_toArray, List.getElem?_cons_succ, List.getElem?_cons_zero]; exact rfl) (by kernel_rfl) (by kernel_rfl) (by kernel_rfl) (by intro _ _ _ h; exact h) (Or.inl ⟨by rfl, ?_⟩) (by assumption) ?_; rotate_left; (focus (intro w' hSw; (try dsimp only at hSw); go_simp; (try with_reducible rfl))); try simp only [Act.put, List.setIfInBounds_toArray, List.set_cons_zero, List.set_cons_succ])
        (refine wpAnyH_take (i := 2) (v := ?_) (by simp only [List.getElem?_toArray, List.getElem?_cons_succ, List.getElem?_cons_zero]; exact rfl) (by kernel_rfl) (by kernel_rfl) (by kernel_rfl) (by intro _ _ _ h; exact h) (Or.inl ⟨by rfl, ?_⟩) (by assumption) ?_; rotate_left; (focus (intro w' hSw; (try dsimp only at hSw); go_simp; (try with_reducible rfl))); try simp only [Act.put, List.setIfInBounds_toArray, List.set_cons_zero, List.set_cons_succ])
        (refine wpAnyH_take (i := 3) (v := ?_) (by simp only [List.getElem?_toArray, List.getElem?_cons_succ, List.getElem?_cons_zero]; exact rfl) (by kernel_rfl) (by kernel_rfl) (by kernel_rfl) (by intro _ _ _ h; exact h) (Or.inl ⟨by rfl, ?_⟩) (by assumption) ?_; rotate_left; (focus (intro w' hSw; (try dsimp only at hSw); go_simp; (try with_reducible rfl))); try simp only [Act.put, List.setIfInBounds_toArray, List.set_cons_zero, List.set_cons_succ])
        refine wpAnyH_ready (rs := [1, 4]) (by kernel_rfl) (by simp) (AllReadyH.cons (by simp only [List.getElem?_toArray, List.getElem?_cons_succ, List.getElem?_cons_zero]; exact rfl) (fun K' hK => ?_) (AllReadyH.cons (by simp only [List.getElem?_toArray, List.getElem?_cons_succ, List.getElem?_cons_zero]; exact rfl) (fun K' hK => ?_) AllReadyH.nil))
        · go_simp
          (refine hK.out _ _ (hHeld) (fun hHeld => ?_); clear hK K'; try simp only [Act.put, List.setIfInBounds_toArray, List.set_cons_zero, List.set_cons_succ])
          refine wpAnyH_ready (rs := [4]) (by kernel_rfl) (by simp) (AllReadyH.cons (by simp only [List.getElem?_toArray, List.getElem?_cons_succ, List.getElem?_cons_zero]; exact rfl) (fun K' hK => ?_) AllReadyH.nil)
          go_simp
          (go_at_call 43; refine (BB.out _).mono ?_; rintro e w3 ⟨rfl, g3⟩)
          have G3 : Gr Z w3 := (Gr.drew (Gr.refl _)).trans g3
          have S3 := four_k2 HS.out G3.below
          have p3 := G3.keep0 P2
          have z3 : W1.heap.size < w3.heap.size := World.block_lt_of_cell? _ _ p3
          (refine hK.out _ _ (S3) (fun hHeld => ?_); clear hK K'; try simp only [Act.put, List.setIfInBounds_toArray, List.set_cons_zero, List.set_cons_succ])
          refine wpAnyH_ready (rs := [5]) (by kernel_rfl) (by simp) (AllReadyH.cons (by simp only [List.getElem?_toArray, List.getElem?_cons_succ, List.getElem?_cons_zero]; exact rfl) (fun K' hK => ?_) AllReadyH.nil)
          go_simp
          (refine hK.out _ _ (four_k2 S3 (Gr.alloc (Gr.refl _) _).below) (fun hHeld => ?_); clear hK K'; try simp only [Act.put, List.setIfInBounds_toArray, List.set_cons_zero, List.set_cons_succ])
          refine wpAnyH_ready (rs := [6]) (by kernel_rfl) (by simp) (AllReadyH.cons (by simp only [List.getElem?_toArray, List.getElem?_cons_succ, List.getElem?_cons_zero]; exact rfl) (fun K' hK => ?_) AllReadyH.nil)
          refine step_appE bcs_len bcs_one rfl (.tmp 45) (.tmp 49) 28 rfl 34 Try.underlying28 Try.infoB rfl (by decide) (by decide) (W1.heap.size + 1) _ _ rfl (HO.out.gr (Gr.alloc G3 _)) ⟨w3.heap.size, 0, none⟩ 1 1 [(m0, m1, m2)] rfl rfl (fun j u hu => alloc_cells (by simpa [ecs, bcs] using hu)) LK.out (by simp) (by have := G3.below.size; have := SZ.out; simp; omega) ?_; intro v4 w4 ho4 hb4 gb4 _; rw [← HM.out] at ho4; obtain ⟨A5, c5, rfl, ho4⟩ := OwnE.eta ho4; rw [List.length_map, List.length_take, Nat.min_eq_left (show k + 1 ≤ ps.length by omega)] at ho4 ⊢
          have S4 := four_gb gb4 (four_k2 S3 (Gr.alloc (Gr.refl _) (.cells #[.int .i64 m0, .int .i64 m1, .bool m2] 34)).below) (NQ.out _ zq5) (NQ.out _ (Nat.le_succ_of_le zq5))
          have bz : Below (W1.heap.size + 1) Z w4 := ((Gr.alloc G3 _).below.mono (by have := SZ.out; omega)).trans hb4
          have X4 := Lib.hid (And.intro (HW.out.1.bel bz (by omega)) (And.intro (HW.out.2.1.bel bz (by omega)) (HW.out.2.2.bel bz (by omega))))
          have p4 := X4.out.2.2.2.2.1
          have f4 := X4.out.2.2.2.2.2
          have B4 := Lib.hid (HBZ.out.trans (bz.mono (by omega)))
          have O4 := Lib.hid ho4
          have zN5 : W1.heap.size < q5 := by omega
          clear ho4 hb4 gb4 bz
          (refine hK.out _ _ (S4) (fun hHeld => ?_); clear hK K'; try simp only [Act.put, List.setIfInBounds_toArray, List.set_cons_zero, List.set_cons_succ])
          refine wpAnyH_ready (rs := [7]) (by kernel_rfl) (by simp) (AllReadyH.cons (by simp only [List.getElem?_toArray, List.getElem?_cons_succ, List.getElem?_cons_zero]; exact rfl) (fun K' hK => ?_) AllReadyH.nil)
          go_simp
          (refine hK.out _ _ (S4) (fun hHeld => ?_); clear hK K'; try simp only [Act.put, List.setIfInBounds_toArray, List.set_cons_zero, List.set_cons_succ])
          refine wpAnyH_ready (rs := [8]) (by kernel_rfl) (by simp) (AllReadyH.cons (by simp only [List.getElem?_toArray, List.getElem?_cons_succ, List.getElem?_cons_zero]; exact rfl) (fun K' hK => ?_) AllReadyH.nil)
          go_simp
          (refine hK.out _ _ (⟨cell_set_gt S4.1 zN5, cell_set_gt S4.2.1 zN5, cell_set_gt S4.2.2.1 (Nat.lt_succ_of_lt zN5), cell_set_gt S4.2.2.2 (Nat.lt_succ_of_lt zN5)⟩) (fun hHeld => ?_); clear hK K'; try simp only [Act.put, List.setIfInBounds_toArray, List.set_cons_zero, List.set_cons_succ])
          refine wpAnyH_done (by kernel_rfl) ?_ _
          go_wp2
          go_roundw
          case rel => exact ⟨k + 1, by omega, by go_num, A5, c5, by first | exact OwnE.setOther (a := ⟨W1.heap.size, 2, none⟩) O4.out (Nat.lt_succ_self W1.heap.size) _ | (exact OwnE.setOther (a := ⟨W1.heap.size, 2, none⟩) O4.out (Nat.lt_succ_self W1.heap.size) _), Bx.set1 X4.out.1 (by omega) _, Bx.set1 X4.out.2.1 (by omega) _, Bx.own2 X4.out.2.2, B4.out.setCell (by simp; omega) _⟩
          case measure => simp [intOf]; omega
        · go_simp
          (go_at_call 43; refine (BB.out _).mono ?_; rintro e w3 ⟨rfl, g3⟩)
          have G3 : Gr Z w3 := (Gr.drew (Gr.refl _)).trans g3
          have S3 := four_k2 HS.out G3.below
          have p3 := G3.keep0 P2
          have z3 : W1.heap.size < w3.heap.size := World.block_lt_of_cell? _ _ p3
          (refine hK.out _ _ (S3) (fun hHeld => ?_); clear hK K'; try simp only [Act.put, List.setIfInBounds_toArray, List.set_cons_zero, List.set_cons_succ])
          refine wpAnyH_ready (rs := [1, 5]) (by kernel_rfl) (by simp) (AllReadyH.cons (by simp only [List.getElem?_toArray, List.getElem?_cons_succ, List.getElem?_cons_zero]; exact rfl) (fun K' hK => ?_) (AllReadyH.cons (by simp only [List.getElem?_toArray, List.getElem?_cons_succ, List.getElem?_cons_zero]; exact rfl) (fun K' hK => ?_) AllReadyH.nil))
          · go_simp
            (refine hK.out _ _ (S3) (fun hHeld => ?_); clear hK K'; try simp only [Act.put, List.setIfInBounds_toArray, List.set_cons_zero, List.set_cons_succ])
            refine wpAnyH_ready (rs := [5]) (by kernel_rfl) (by simp) (AllReadyH.cons (by simp only [List.getElem?_toArray, List.getElem?_cons_succ, List.getElem?_cons_zero]; exact rfl) (fun K' hK => ?_) AllReadyH.nil)
            go_simp
            (refine hK.out _ _ (four_k2 S3 (Gr.alloc (Gr.refl _) _).below) (fun hHeld => ?_); clear hK K'; try simp only [Act.put, List.setIfInBounds_toArray, List.set_cons_zero, List.set_cons_succ])
            refine wpAnyH_ready (rs := [6]) (by kernel_rfl) (by simp) (AllReadyH.cons (by simp only [List.getElem?_toArray, List.getElem?_cons_succ, List.getElem?_cons_zero]; exact rfl) (fun K' hK => ?_) AllReadyH.nil)
            refine step_appE bcs_len bcs_one rfl (.tmp 45) (.tmp 49) 28 rfl 34 Try.underlying28 Try.infoB rfl (by decide) (by decide) (W1.heap.size + 1) _ _ rfl (HO.out.gr (Gr.alloc G3 _)) ⟨w3.heap.size, 0, none⟩ 1 1 [(m0, m1, m2)] rfl rfl (fun j u hu => alloc_cells (by simpa [ecs, bcs] using hu)) LK.out (by simp) (by have := G3.below.size; have := SZ.out; simp; omega) ?_; intro v4 w4 ho4 hb4 gb4 _; rw [← HM.out] at ho4; obtain ⟨A5, c5, rfl, ho4⟩ := OwnE.eta ho4; rw [List.length_map, List.length_take, Nat.min_eq_left (show k + 1 ≤ ps.length by omega)] at ho4 ⊢
            have S4 := four_gb gb4 (four_k2 S3 (Gr.alloc (Gr.refl _) (.cells #[.int .i64 m0, .int .i64 m1, .bool m2] 34)).below) (NQ.out _ zq5) (NQ.out _ (Nat.le_succ_of_le zq5))
            have bz : Below (W1.heap.size + 1) Z w4 := ((Gr.alloc G3 _).below.mono (by have := SZ.out; omega)).trans hb4
            have X4 := Lib.hid (And.intro (HW.out.1.bel bz (by omega)) (And.intro (HW.out.2.1.bel bz (by omega)) (HW.out.2.2.bel bz (by omega))))
            have p4 := X4.out.2.2.2.2.1
            have f4 := X4.out.2.2.2.2.2
            have B4 := Lib.hid (HBZ.out.trans (bz.mono (by omega)))
            have O4 := Lib.hid ho4
            have zN5 : W1.heap.size < q5 := by omega
            clear ho4 hb4 gb4 bz
            (refine hK.out _ _ (S4) (fun hHeld => ?_); clear hK K'; try simp only [Act.put, List.setIfInBounds_toArray, List.set_cons_zero, List.set_cons_succ])
            refine wpAnyH_ready (rs := [7]) (by kernel_rfl) (by simp) (AllReadyH.cons (by simp only [List.getElem?_toArray, List.getElem?_cons_succ, List.getElem?_cons_zero]; exact rfl) (fun K' hK => ?_) AllReadyH.nil)
            go_simp
            (refine hK.out _ _ (S4) (fun hHeld => ?_); clear hK K'; try simp only [Act.put, List.setIfInBounds_toArray, List.set_cons_zero, List.set_cons_succ])
            refine wpAnyH_ready (rs := [8]) (by kernel_rfl) (by simp) (AllReadyH.cons (by simp only [List.getElem?_toArray, List.getElem?_cons_succ, List.getElem?_cons_zero]; exact rfl) (fun K' hK => ?_) AllReadyH.nil)
            go_simp
            (refine hK.out _ _ (⟨cell_set_gt S4.1 zN5, cell_set_gt S4.2.1 zN5, cell_set_gt S4.2.2.1 (Nat.lt_succ_of_lt zN5), cell_set_gt S4.2.2.2 (Nat.lt_succ_of_lt zN5)⟩) (fun hHeld => ?_); clear hK K'; try simp only [Act.put, List.setIfInBounds_toArray, List.set_cons_zero, List.set_cons_succ])
            refine wpAnyH_done (by kernel_rfl) ?_ _
            go_wp2
            go_roundw
            case rel => exact ⟨k + 1, by omega, by go_num, A5, c5, by first | exact OwnE.setOther (a := ⟨W1.heap.size, 2, none⟩) O4.out (Nat.lt_succ_self W1.heap.size) _ | (exact OwnE.setOther (a := ⟨W1.heap.size, 2, none⟩) O4.out (Nat.lt_succ_self W1.heap.size) _), Bx.set1 X4.out.1 (by omega) _, Bx.set1 X4.out.2.1 (by omega) _, Bx.own2 X4.out.2.2, B4.out.setCell (by simp; omega) _⟩
            case measure => simp [intOf]; omega
          · go_simp
            (refine hK.out _ _ (four_k2 S3 (Gr.alloc (Gr.refl _) _).below) (fun hHeld => ?_); clear hK K'; try simp only [Act.put, List.setIfInBounds_toArray, List.set_cons_zero, List.set_cons_succ])
            refine wpAnyH_ready (rs := [1]) (by kernel_rfl) (by simp) (AllReadyH.cons (by simp only [List.getElem?_toArray, List.getElem?_cons_succ, List.getElem?_cons_zero]; exact rfl) (fun K' hK => ?_) AllReadyH.nil)
            go_simp
            (refine hK.out _ _ (hHeld) (fun hHeld => ?_); clear hK K'; try simp only [Act.put, List.setIfInBounds_toArray, List.set_cons_zero, List.set_cons_succ])
            refine wpAnyH_ready (rs := [6]) (by kernel_rfl) (by simp) (AllReadyH.cons (by simp only [List.getElem?_toArray, List.getElem?_cons_succ, List.getElem?_cons_zero]; exact rfl) (fun K' hK => ?_) AllReadyH.nil)
            refine step_appE bcs_len bcs_one rfl (.tmp 45) (.tmp 49) 28 rfl 34 Try.underlying28 Try.infoB rfl (by decide) (by decide) (W1.heap.size + 1) _ _ rfl (HO.out.gr (Gr.alloc G3 _)) ⟨w3.heap.size, 0, none⟩ 1 1 [(m0, m1, m2)] rfl rfl (fun j u hu => alloc_cells (by simpa [ecs, bcs] using hu)) LK.out (by simp) (by have := G3.below.size; have := SZ.out; simp; omega) ?_; intro v4 w4 ho4 hb4 gb4 _; rw [← HM.out] at ho4; obtain ⟨A5, c5, rfl, ho4⟩ := OwnE.eta ho4; rw [List.length_map, List.length_take, Nat.min_eq_left (show k + 1 ≤ ps.length by omega)] at ho4 ⊢
            have S4 := four_gb gb4 (four_k2 S3 (Gr.alloc (Gr.refl _) (.cells #[.int .i64 m0, .int .i64 m1, .bool m2] 34)).below) (NQ.out _ zq5) (NQ.out _ (Nat.le_succ_of_le zq5))
            have bz : Below (W1.heap.size + 1) Z w4 := ((Gr.alloc G3 _).below.mono (by have := SZ.out; omega)).trans hb4
            have X4 := Lib.hid (And.intro (HW.out.1.bel bz (by omega)) (And.intro (HW.out.2.1.bel bz (by omega)) (HW.out.2.2.bel bz (by omega))))
            have p4 := X4.out.2.2.2.2.1
            have f4 := X4.out.2.2.2.2.2
            have B4 := Lib.hid (HBZ.out.trans (bz.mono (by omega)))
            have O4 := Lib.hid ho4
            have zN5 : W1.heap.size < q5 := by omega
            clear ho4 hb4 gb4 bz
            (refine hK.out _ _ (S4) (fun hHeld => ?_); clear hK K'; try simp only [Act.put, List.setIfInBounds_toArray, List.set_cons_zero, List.set_cons_succ])
            refine wpAnyH_ready (rs := [7]) (by kernel_rfl) (by simp) (AllReadyH.cons (by simp only [List.getElem?_toArray, List.getElem?_cons_succ, List.getElem?_cons_zero]; exact rfl) (fun K' hK => ?_) AllReadyH.nil)
            go_simp
            (refine hK.out _ _ (S4) (fun hHeld => ?_); clear hK K'; try simp only [Act.put, List.setIfInBounds_toArray, List.set_cons_zero, List.set_cons_succ])
            refine wpAnyH_ready (rs := [8]) (by kernel_rfl) (by simp) (AllReadyH.cons (by simp only [List.getElem?_toArray, List.getElem?_cons_succ, List.getElem?_cons_zero]; exact rfl) (fun K' hK => ?_) AllReadyH.nil)
            go_simp
            (refine hK.out _ _ (⟨cell_set_gt S4.1 zN5, cell_set_gt S4.2.1 zN5, cell_set_gt S4.2.2.1 (Nat.lt_succ_of_lt zN5), cell_set_gt S4.2.2.2 (Nat.lt_succ_of_lt zN5)⟩) (fun hHeld => ?_); clear hK K'; try simp only [Act.put, List.setIfInBounds_toArray, List.set_cons_zero, List.set_cons_succ])
            refine wpAnyH_done (by kernel_rfl) ?_ _
            go_wp2
            go_roundw
            case rel => exact ⟨k + 1, by omega, by go_num, A5, c5, by first | exact OwnE.setOther (a := ⟨W1.heap.size, 2, none⟩) O4.out (Nat.lt_succ_self W1.heap.size) _ | (exact OwnE.setOther (a := ⟨W1.heap.size, 2, none⟩) O4.out (Nat.lt_succ_self W1.heap.size) _), Bx.set1 X4.out.1 (by omega) _, Bx.set1 X4.out.2.1 (by omega) _, Bx.own2 X4.out.2.2, B4.out.setCell (by simp; omega) _⟩
            case measure => simp [intOf]; omega
    · obtain rfl : k = ps.length := by omega
      have z1 : ¬ ((ps.length : Int) < (ps.length : Int)) := by omega
      have L1 := Lib.hid (show ((ps.take ps.length).map (mirB W)).length ≤ 1000000 by rw [List.length_map, List.length_take]; omega)
      rw [List.take_length] at ho L1
      have zN : W1.heap.size < wr.heap.size := x3.lt
      have HO := Lib.hid ho
      have HB := Lib.hid hb
      obtain ⟨s0, s1, s2, sf⟩ := x3
      have X2 := Lib.hid x2
      have X3 := Lib.hid (show Bx wr W1.heap.size _ _ _ from ⟨s0, s1, s2, sf⟩)
      clear ho hb x1 x2
      go_wp2_with (first | (go_at_call 45; refine (Try.sortB wr (W1.heap.size + 1) _ _ (by omega) L1.out HO.out).mono ?_; rintro e w5 ⟨rfl, ho5, hb5⟩; rw [SM.out] at ho5; have X5 := X3.out.bel hb5 (Nat.lt_succ_self _); obtain ⟨t0, t1, t2, tf⟩ := X5; have Y5 := X2.out.bel hb5 (by omega); obtain ⟨y0, y1, y2, yf⟩ := Y5))
      have e5 := ho5.slice
      obtain ⟨A6, c6, e6⟩ := e5
      refine bodyPost_ret (v := .tuple #[.agg #[.int .i64 W, .int .i64 H, .slice A4 ps.length c4], .bool true]) (by simp [results, Try.results26, go_sem, y0, y1, y2]) rfl ⟨_, rfl, ?_, ?_⟩
      · exact OwnE.mono (OwnB.set3o ho5 (by omega)) (by omega)
      · exact Below.set3 (HB.out.trans (hb5.mono (by omega))) (by omega)
end Go.Proofs
