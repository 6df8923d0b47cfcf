/-
  Chapter 9: a clue added, the program.
-/
import Derived.Test.YtokfnhbdncebmabPzAc
namespace Go.Proofs
open Go.RowKit
set_option linter.unusedVariables false
set_option linter.unusedSimpArgs false
theorem cell_set3 {w : World} {a : Nat} {i b : Nat} {u v1 v2 v3 : Value} (h : w.cell? ⟨a, i, none⟩ = some u) (hb : a ≠ b) : (((w.setCell ⟨b, 0, none⟩ v1).setCell ⟨b, 1, none⟩ v2).setCell ⟨b, 2, none⟩ v3).cell? ⟨a, i, none⟩ = some u := by
  have k : ∀ (W : World) (o : Nat) (v : Value), W.cell? ⟨a, i, none⟩ = some u → (W.setCell ⟨b, o, none⟩ v).cell? ⟨a, i, none⟩ = some u := fun W o v q => (World.cell?_setCell_other _ _ _ _ (by intro e; cases e; exact hb rfl)).trans q
  exact k _ _ _ (k _ _ _ (k _ _ _ h))
theorem set3_0 {w : World} {b : Nat} {u v1 v2 v3 : Value} (h : w.cell? ⟨b, 0, none⟩ = some u) : (((w.setCell ⟨b, 0, none⟩ v1).setCell ⟨b, 1, none⟩ v2).setCell ⟨b, 2, none⟩ v3).cell? ⟨b, 0, none⟩ = some v1 :=
  (World.cell?_setCell_other _ _ _ _ (by simp)).trans ((World.cell?_setCell_other _ _ _ _ (by simp)).trans (World.cell?_setCell_same _ _ _ h))
theorem set3_1 {w : World} {b : Nat} {u v1 v2 v3 : Value} (h : w.cell? ⟨b, 1, none⟩ = some u) : (((w.setCell ⟨b, 0, none⟩ v1).setCell ⟨b, 1, none⟩ v2).setCell ⟨b, 2, none⟩ v3).cell? ⟨b, 1, none⟩ = some v2 :=
  (World.cell?_setCell_other _ _ _ _ (by simp)).trans (World.cell?_setCell_same _ _ _ ((World.cell?_setCell_other _ _ _ _ (by simp)).trans h))
theorem set3_2 {w : World} {b : Nat} {u v1 v2 v3 : Value} (h : w.cell? ⟨b, 2, none⟩ = some u) : (((w.setCell ⟨b, 0, none⟩ v1).setCell ⟨b, 1, none⟩ v2).setCell ⟨b, 2, none⟩ v3).cell? ⟨b, 2, none⟩ = some v3 :=
  World.cell?_setCell_same _ _ _ ((World.cell?_setCell_other _ _ _ _ (by simp)).trans ((World.cell?_setCell_other _ _ _ _ (by simp)).trans h))
theorem Below.set3 {n b : Nat} {a w : World} {v1 v2 v3 : Value} (h : Below n a w) (hb : n ≤ b) : Below n a (((w.setCell ⟨b, 0, none⟩ v1).setCell ⟨b, 1, none⟩ v2).setCell ⟨b, 2, none⟩ v3) :=
  ((h.setCell (p := ⟨b, 0, none⟩) hb _).setCell (p := ⟨b, 1, none⟩) hb _).setCell (p := ⟨b, 2, none⟩) hb _
set_option maxRecDepth 100000 in
set_option maxHeartbeats 3200000 in
theorem Try.iAddClue (w : World) (k p : Int) (B : Nat) (v : Value) (cs : List Clu) (x y z : Int) (hl : cs.length ≤ 1048576) (ho : OwnC w B v cs) :
    Calls Try.prog 15 #[pzV k p v, .agg #[.int .i64 x, .int .i64 y, .int .i64 z]] w (RetZ w (ifZ (acB k p cs x y z) k) (ifZ (acB k p cs x y z) p) (acL k p cs x y z) (acB k p cs x y z)) := by
  have h := OwnC.row ho (by unfold maxLen; omega)
  have PG := Lib.hid (fun (W : World) (g : Gr w W) b hb => Try.iIsPuzzle W k p v cs b hb (h.gr g))
  cases hb : acB k p cs x y z
  · rw [show acL k p cs x y z = [] by simp [acL, hb]]
    unfold ifZ
    simp only [Bool.false_eq_true, if_false]
    obtain ⟨A, c, rfl, _⟩ := h
    cases hg : pgood k p cs
    · have HG := Lib.hid hg
      clear hb hg ho
      go_enter Try.func15, Try.ntmps15
      go_wp2_with (first | (go_at_call 35; refine (PG.out _ (by repeat (first | exact Gr.refl _ | refine Gr.alloc ?_ _ | refine Gr.trans ?_ (by assumption) | refine Gr.drew ?_ | refine Gr.drewN ?_ _ | refine Gr.grow ?_ _ | refine Gr.setCell ?_ (by (try simp); (try omega)) _)) _ HG.out).mono ?_; rintro e W1 ⟨rfl, h1⟩; have S1 : Six W1 w.heap.size k p x y z (.slice A cs.length c) := ⟨h1.keep0 (by simp [go_sem]), h1.keep0 (by simp [go_sem]), h1.keep0 (by simp [go_sem]), h1.keep0 (by simp [go_sem]), h1.keep0 (by simp [go_sem]), h1.keep0 (by simp [go_sem])⟩; have R1 : Rbx W1 w.heap.size := ⟨h1.keep0 (by simp [go_sem]), h1.keep0 (by simp [go_sem]), h1.keep0 (by simp [go_sem]), fun o => ((bcell h1.below).2 _ _ (by simp)).trans (by simp [go_sem])⟩; have a01 := S1.1; have a11 := S1.2.1; have a21 := S1.2.2.1; have b01 := S1.2.2.2.1; have b11 := S1.2.2.2.2.1; have b21 := S1.2.2.2.2.2; have r01 := R1.1; have r11 := R1.2.1; have r21 := R1.2.2.1; have rf1 := R1.2.2.2))
      refine bodyPost_ret (v := .tuple #[.agg #[.int .i64 0, .int .i64 0, .slice none 0 0], .bool false]) (by simp [results, Try.results15, go_sem, r01, r11, r21]) rfl ⟨_, rfl, OwnE.nil _ _ _ _ _, Gr.below (by repeat (first | exact Gr.refl _ | refine Gr.alloc ?_ _ | refine Gr.trans ?_ (by assumption) | refine Gr.drew ?_ | refine Gr.drewN ?_ _ | refine Gr.grow ?_ _ | refine Gr.setCell ?_ (by (try simp); (try omega)) _))⟩
    · have HG := Lib.hid hg
      have q1 := (pgood_lt hg).1
      cases hc : cok (x, y, z)
      · have HC := Lib.hid (show (pst k p && cok (x, y, z)) = false by rw [hc, Bool.and_false])
        clear hb hg ho hc q1
        go_enter Try.func15, Try.ntmps15
        go_wp2_with (first | (go_at_call 35; refine (PG.out _ (by repeat (first | exact Gr.refl _ | refine Gr.alloc ?_ _ | refine Gr.trans ?_ (by assumption) | refine Gr.drew ?_ | refine Gr.drewN ?_ _ | refine Gr.grow ?_ _ | refine Gr.setCell ?_ (by (try simp); (try omega)) _)) _ HG.out).mono ?_; rintro e W1 ⟨rfl, h1⟩; have S1 : Six W1 w.heap.size k p x y z (.slice A cs.length c) := ⟨h1.keep0 (by simp [go_sem]), h1.keep0 (by simp [go_sem]), h1.keep0 (by simp [go_sem]), h1.keep0 (by simp [go_sem]), h1.keep0 (by simp [go_sem]), h1.keep0 (by simp [go_sem])⟩; have R1 : Rbx W1 w.heap.size := ⟨h1.keep0 (by simp [go_sem]), h1.keep0 (by simp [go_sem]), h1.keep0 (by simp [go_sem]), fun o => ((bcell h1.below).2 _ _ (by simp)).trans (by simp [go_sem])⟩; have a01 := S1.1; have a11 := S1.2.1; have a21 := S1.2.2.1; have b01 := S1.2.2.2.1; have b11 := S1.2.2.2.2.1; have b21 := S1.2.2.2.2.2; have r01 := R1.1; have r11 := R1.2.1; have r21 := R1.2.2.1; have rf1 := R1.2.2.2) | (go_at_call 36; refine (Try.iIsClue _ _ _ _ _ _ HC.out _).mono ?_; rintro e W2 ⟨rfl, h2⟩; have h3 := h1.trans h2; have S2 : Six W2 w.heap.size k p x y z (.slice A cs.length c) := ⟨h3.keep0 (by simp [go_sem]), h3.keep0 (by simp [go_sem]), h3.keep0 (by simp [go_sem]), h3.keep0 (by simp [go_sem]), h3.keep0 (by simp [go_sem]), h3.keep0 (by simp [go_sem])⟩; have R2 : Rbx W2 w.heap.size := ⟨h3.keep0 (by simp [go_sem]), h3.keep0 (by simp [go_sem]), h3.keep0 (by simp [go_sem]), fun o => ((bcell h3.below).2 _ _ (by simp)).trans (by simp [go_sem])⟩; have a02 := S2.1; have a12 := S2.2.1; have a22 := S2.2.2.1; have b02 := S2.2.2.2.1; have b12 := S2.2.2.2.2.1; have b22 := S2.2.2.2.2.2; have r02 := R2.1; have r12 := R2.2.1; have r22 := R2.2.2.1; have rf2 := R2.2.2.2))
        refine bodyPost_ret (v := .tuple #[.agg #[.int .i64 0, .int .i64 0, .slice none 0 0], .bool false]) (by simp [results, Try.results15, go_sem, r02, r12, r22]) rfl ⟨_, rfl, OwnE.nil _ _ _ _ _, Gr.below (by repeat (first | exact Gr.refl _ | refine Gr.alloc ?_ _ | refine Gr.trans ?_ (by assumption) | refine Gr.drew ?_ | refine Gr.drewN ?_ _ | refine Gr.grow ?_ _ | refine Gr.setCell ?_ (by (try simp); (try omega)) _))⟩
      · have HC := Lib.hid (show (pst k p && cok (x, y, z)) = true by rw [hc, Bool.and_true]; exact q1)
        have h6 : cs.length = 6 := by
          unfold acB at hb
          rw [hg, hc, Bool.true_and, Bool.true_and] at hb
          exact Classical.byContradiction fun q => by rw [decide_eq_true q] at hb; cases hb
        have z6 : ((cs.length : Int) == 6) = true := by rw [h6]; rfl
        have z6' : (cs.length : Int) = 6 := by omega
        clear hb hg ho hc q1 h6
        go_enter Try.func15, Try.ntmps15
        go_wp2_with (first | (go_at_call 35; refine (PG.out _ (by repeat (first | exact Gr.refl _ | refine Gr.alloc ?_ _ | refine Gr.trans ?_ (by assumption) | refine Gr.drew ?_ | refine Gr.drewN ?_ _ | refine Gr.grow ?_ _ | refine Gr.setCell ?_ (by (try simp); (try omega)) _)) _ HG.out).mono ?_; rintro e W1 ⟨rfl, h1⟩; have S1 : Six W1 w.heap.size k p x y z (.slice A cs.length c) := ⟨h1.keep0 (by simp [go_sem]), h1.keep0 (by simp [go_sem]), h1.keep0 (by simp [go_sem]), h1.keep0 (by simp [go_sem]), h1.keep0 (by simp [go_sem]), h1.keep0 (by simp [go_sem])⟩; have R1 : Rbx W1 w.heap.size := ⟨h1.keep0 (by simp [go_sem]), h1.keep0 (by simp [go_sem]), h1.keep0 (by simp [go_sem]), fun o => ((bcell h1.below).2 _ _ (by simp)).trans (by simp [go_sem])⟩; have a01 := S1.1; have a11 := S1.2.1; have a21 := S1.2.2.1; have b01 := S1.2.2.2.1; have b11 := S1.2.2.2.2.1; have b21 := S1.2.2.2.2.2; have r01 := R1.1; have r11 := R1.2.1; have r21 := R1.2.2.1; have rf1 := R1.2.2.2) | (go_at_call 36; refine (Try.iIsClue _ _ _ _ _ _ HC.out _).mono ?_; rintro e W2 ⟨rfl, h2⟩; have h3 := h1.trans h2; have S2 : Six W2 w.heap.size k p x y z (.slice A cs.length c) := ⟨h3.keep0 (by simp [go_sem]), h3.keep0 (by simp [go_sem]), h3.keep0 (by simp [go_sem]), h3.keep0 (by simp [go_sem]), h3.keep0 (by simp [go_sem]), h3.keep0 (by simp [go_sem])⟩; have R2 : Rbx W2 w.heap.size := ⟨h3.keep0 (by simp [go_sem]), h3.keep0 (by simp [go_sem]), h3.keep0 (by simp [go_sem]), fun o => ((bcell h3.below).2 _ _ (by simp)).trans (by simp [go_sem])⟩; have a02 := S2.1; have a12 := S2.2.1; have a22 := S2.2.2.1; have b02 := S2.2.2.2.1; have b12 := S2.2.2.2.2.1; have b22 := S2.2.2.2.2.2; have r02 := R2.1; have r12 := R2.2.1; have r22 := R2.2.2.1; have rf2 := R2.2.2.2))
        refine bodyPost_ret (v := .tuple #[.agg #[.int .i64 0, .int .i64 0, .slice none 0 0], .bool false]) (by simp [results, Try.results15, go_sem, r02, r12, r22]) rfl ⟨_, rfl, OwnE.nil _ _ _ _ _, Gr.below (by repeat (first | exact Gr.refl _ | refine Gr.alloc ?_ _ | refine Gr.trans ?_ (by assumption) | refine Gr.drew ?_ | refine Gr.drewN ?_ _ | refine Gr.grow ?_ _ | refine Gr.setCell ?_ (by (try simp); (try omega)) _))⟩
  · rw [show acL k p cs x y z = cs ++ [(x, y, z)] by simp [acL, hb]]
    unfold ifZ
    simp only [if_true]
    have hb' := hb
    unfold acB at hb'
    rw [Bool.and_eq_true, Bool.and_eq_true] at hb'
    have HG := Lib.hid hb'.1.1
    have q1 := (pgood_lt hb'.1.1).1
    have HC := Lib.hid (show (pst k p && cok (x, y, z)) = true by rw [hb'.1.2, Bool.and_true]; exact q1)
    have h6 : cs.length ≠ 6 := of_decide_eq_true hb'.2
    have H6 := Lib.hid (pgood_lt hb'.1.1).2.1
    clear hb hb' q1 h
    rcases OwnC.two ho with ⟨rfl, rfl⟩ | ⟨g, c, rfl, hcl, hcm, hgs, hc⟩
    · clear ho h6
      go_enter Try.func15, Try.ntmps15
      go_wp2_with (first | (go_at_call 35; refine (PG.out _ (by repeat (first | exact Gr.refl _ | refine Gr.alloc ?_ _ | refine Gr.trans ?_ (by assumption) | refine Gr.drew ?_ | refine Gr.drewN ?_ _ | refine Gr.grow ?_ _ | refine Gr.setCell ?_ (by (try simp); (try omega)) _)) _ HG.out).mono ?_; rintro e W1 ⟨rfl, h1⟩; have S1 : Six W1 w.heap.size k p x y z (.slice none 0 0) := ⟨h1.keep0 (by simp [go_sem]), h1.keep0 (by simp [go_sem]), h1.keep0 (by simp [go_sem]), h1.keep0 (by simp [go_sem]), h1.keep0 (by simp [go_sem]), h1.keep0 (by simp [go_sem])⟩; have R1 : Rbx W1 w.heap.size := ⟨h1.keep0 (by simp [go_sem]), h1.keep0 (by simp [go_sem]), h1.keep0 (by simp [go_sem]), fun o => ((bcell h1.below).2 _ _ (by simp)).trans (by simp [go_sem])⟩; have a01 := S1.1; have a11 := S1.2.1; have a21 := S1.2.2.1; have b01 := S1.2.2.2.1; have b11 := S1.2.2.2.2.1; have b21 := S1.2.2.2.2.2; have r01 := R1.1; have r11 := R1.2.1; have r21 := R1.2.2.1; have rf1 := R1.2.2.2) | (go_at_call 36; refine (Try.iIsClue _ _ _ _ _ _ HC.out _).mono ?_; rintro e W2 ⟨rfl, h2⟩; have h3 := h1.trans h2; have S2 : Six W2 w.heap.size k p x y z (.slice none 0 0) := ⟨h3.keep0 (by simp [go_sem]), h3.keep0 (by simp [go_sem]), h3.keep0 (by simp [go_sem]), h3.keep0 (by simp [go_sem]), h3.keep0 (by simp [go_sem]), h3.keep0 (by simp [go_sem])⟩; have R2 : Rbx W2 w.heap.size := ⟨h3.keep0 (by simp [go_sem]), h3.keep0 (by simp [go_sem]), h3.keep0 (by simp [go_sem]), fun o => ((bcell h3.below).2 _ _ (by simp)).trans (by simp [go_sem])⟩; have a02 := S2.1; have a12 := S2.2.1; have a22 := S2.2.2.1; have b02 := S2.2.2.2.1; have b12 := S2.2.2.2.2.1; have b22 := S2.2.2.2.2.2; have r02 := R2.1; have r12 := R2.2.1; have r22 := R2.2.2.1; have rf2 := R2.2.2.2))
      have GG := Lib.hid (show Gr w W2 from ((Gr.alloc (Gr.alloc (Gr.alloc (Gr.refl w) _) _) _).trans h3))
      have HS := Lib.hid S2
      have HR := Lib.hid R2
      have zz : w.heap.size + 2 < W2.heap.size := World.block_lt_of_cell? _ _ R2.1
      clear S1 R1 S2 R2 h1 h2 h3 a01 a11 a21 b01 b11 b21 r01 r11 r21 rf1 a02 a12 a22 b02 b12 b22 r02 r12 r22 rf2
      clear W1
      generalize hWW : W2 = W at *
      clear hWW
      refine wp_region_held_drew (S := fun W' => W'.cell? ⟨w.heap.size, 0, none⟩ = some (.int .i64 k) ∧ W'.cell? ⟨w.heap.size, 1, none⟩ = some (.int .i64 p) ∧ W'.cell? ⟨w.heap.size, 2, none⟩ = some (.slice none 0 0) ∧ W'.cell? ⟨w.heap.size + 1, 0, none⟩ = some (.int .i64 x) ∧ W'.cell? ⟨w.heap.size + 1, 1, none⟩ = some (.int .i64 y) ∧ W'.cell? ⟨w.heap.size + 1, 2, none⟩ = some (.int .i64 z)) (by kernel_rfl) (HS.out.gr (Gr.drew (Gr.refl W))) (fun hHeld => ?_)
      (refine wpAnyH_take (i := 0) (v := ?_) (by simp only [List.getElem?_toArray, List.getElem?_cons_succ, List.getElem?_cons_zero]; exact rfl) (by kernel_rfl) (by kernel_rfl) (by kernel_rfl) (by intro _ _ _ h; exact h) (Or.inl ⟨by rfl, ?_⟩) (by assumption) ?_; rotate_left; (focus (intro w' hSw; (try dsimp only at hSw); go_simp; (try with_reducible rfl))); try simp only [Act.put, List.setIfInBounds_toArray, List.set_cons_zero, List.set_cons_succ])
      (refine wpAnyH_take (i := 1) (v := ?_) (by simp only [List.getElem?_toArray, List.getElem?_cons_succ, List.getElem?_cons_zero]; exact rfl) (by kernel_rfl) (by kernel_rfl) (by kernel_rfl) (by intro _ _ _ h; exact h) (Or.inl ⟨by rfl, ?_⟩) (by assumption) ?_; rotate_left; (focus (intro w' hSw; (try dsimp only at hSw); go_simp; (try with_reducible rfl))); try simp only [Act.put, List.setIfInBounds_toArray, List.set_cons_zero, List.set_cons_succ])
      (refine wpAnyH_take (i := 2) (v := ?_) (by simp only [List.getElem?_toArray, List.getElem?_cons_succ, List.getElem?_cons_zero]; exact rfl) (by kernel_rfl) (by kernel_rfl) (by kernel_rfl) (by intro _ _ _ h; exact h) (Or.inl ⟨by rfl, ?_⟩) (by assumption) ?_; rotate_left; (focus (intro w' hSw; (try dsimp only at hSw); go_simp; (try with_reducible rfl))); try simp only [Act.put, List.setIfInBounds_toArray, List.set_cons_zero, List.set_cons_succ])
      (refine wpAnyH_take (i := 3) (v := ?_) (by simp only [List.getElem?_toArray, List.getElem?_cons_succ, List.getElem?_cons_zero]; exact rfl) (by kernel_rfl) (by kernel_rfl) (by kernel_rfl) (by intro _ _ _ h; exact h) (Or.inl ⟨by rfl, ?_⟩) (by assumption) ?_; rotate_left; (focus (intro w' hSw; (try dsimp only at hSw); go_simp; (try with_reducible rfl))); try simp only [Act.put, List.setIfInBounds_toArray, List.set_cons_zero, List.set_cons_succ])
      (refine wpAnyH_take (i := 4) (v := ?_) (by simp only [List.getElem?_toArray, List.getElem?_cons_succ, List.getElem?_cons_zero]; exact rfl) (by kernel_rfl) (by kernel_rfl) (by kernel_rfl) (by intro _ _ _ h; exact h) (Or.inl ⟨by rfl, ?_⟩) (by assumption) ?_; rotate_left; (focus (intro w' hSw; (try dsimp only at hSw); go_simp; (try with_reducible rfl))); try simp only [Act.put, List.setIfInBounds_toArray, List.set_cons_zero, List.set_cons_succ])
      (refine wpAnyH_take (i := 5) (v := ?_) (by simp only [List.getElem?_toArray, List.getElem?_cons_succ, List.getElem?_cons_zero]; exact rfl) (by kernel_rfl) (by kernel_rfl) (by kernel_rfl) (by intro _ _ _ h; exact h) (Or.inl ⟨by rfl, ?_⟩) (by assumption) ?_; rotate_left; (focus (intro w' hSw; (try dsimp only at hSw); go_simp; (try with_reducible rfl))); try simp only [Act.put, List.setIfInBounds_toArray, List.set_cons_zero, List.set_cons_succ])
      (refine wpAnyH_take (i := 6) (v := ?_) (by simp only [List.getElem?_toArray, List.getElem?_cons_succ, List.getElem?_cons_zero]; exact rfl) (by kernel_rfl) (by kernel_rfl) (by kernel_rfl) (by intro _ _ _ h; exact h) (Or.inl ⟨by rfl, ?_⟩) (by assumption) ?_; rotate_left; (focus (intro w' hSw; (try dsimp only at hSw); go_simp; (try with_reducible rfl))); try simp only [Act.put, List.setIfInBounds_toArray, List.set_cons_zero, List.set_cons_succ])
      (refine wpAnyH_take (i := 7) (v := ?_) (by simp only [List.getElem?_toArray, List.getElem?_cons_succ, List.getElem?_cons_zero]; exact rfl) (by kernel_rfl) (by kernel_rfl) (by kernel_rfl) (by intro _ _ _ h; exact h) (Or.inl ⟨by rfl, ?_⟩) (by assumption) ?_; rotate_left; (focus (intro w' hSw; (try dsimp only at hSw); go_simp; (try with_reducible rfl))); try simp only [Act.put, List.setIfInBounds_toArray, List.set_cons_zero, List.set_cons_succ])
      refine wpAnyH_ready (rs := [8]) (by kernel_rfl) (by simp) (AllReadyH.cons (by simp only [List.getElem?_toArray, List.getElem?_cons_succ, List.getElem?_cons_zero]; exact rfl) (fun K' hK => ?_) AllReadyH.nil)
      go_simp
      (refine hK.out _ _ (HS.out.gr (Gr.alloc (Gr.drew (Gr.refl W)) _)) (fun hHeld => ?_); clear hK K'; try simp only [Act.put, List.setIfInBounds_toArray, List.set_cons_zero, List.set_cons_succ])
      refine wpAnyH_ready (rs := [9]) (by kernel_rfl) (by simp) (AllReadyH.cons (by simp only [List.getElem?_toArray, List.getElem?_cons_succ, List.getElem?_cons_zero]; exact rfl) (fun K' hK => ?_) AllReadyH.nil)
      refine step_growE ccs_len ccs_one rfl (.tmp 31) (.tmp 33) 25 rfl Try.underlying25 Try.infoC rfl (by decide) (by decide) none 0 0 [] rfl (fun _ => ⟨rfl, rfl⟩) rfl (fun b e => by cases e) ⟨W.heap.size, 0, none⟩ 1 1 [(x, y, z)] rfl rfl (fun j u hu => alloc_cells' (by simp; done) (by simpa [ecs, ccs] using hu)) (by omega) (by have := H6.out; simp; try omega) (by simp) ?_; intro v8 w8 ho8 hb8; obtain ⟨A8, c8, rfl, ho8⟩ := OwnE.eta ho8; simp only [List.length_append, List.length_cons, List.length_nil, Nat.zero_add] at ho8
      have ho8 := OwnE.mono ho8 (show W.heap.size ≤ _ by simp)
      have B8 : Below W.heap.size W w8 := (Gr.alloc (Gr.drew (Gr.refl W)) (Obj.cells #[.int .i64 x, .int .i64 y, .int .i64 z] 42)).below.trans (hb8.mono (by simp))
      have S8 := HS.out.bel B8 (Nat.lt_of_succ_lt zz)
      have R8 := HR.out.bel B8 zz
      (refine hK.out _ _ (S8) (fun hHeld => ?_); clear hK K'; try simp only [Act.put, List.setIfInBounds_toArray, List.set_cons_zero, List.set_cons_succ])
      refine wpAnyH_ready (rs := [10]) (by kernel_rfl) (by simp) (AllReadyH.cons (by simp only [List.getElem?_toArray, List.getElem?_cons_succ, List.getElem?_cons_zero]; exact rfl) (fun K' hK => ?_) AllReadyH.nil)
      go_simp
      (refine hK.out _ _ (S8) (fun hHeld => ?_); clear hK K'; try simp only [Act.put, List.setIfInBounds_toArray, List.set_cons_zero, List.set_cons_succ])
      have r0 := R8.1
      have r1 := R8.2.1
      have r2 := R8.2.2.1
      have rf := R8.2.2.2
      refine wpAnyH_ready (rs := [11]) (by kernel_rfl) (by simp) (AllReadyH.cons (by simp only [List.getElem?_toArray, List.getElem?_cons_succ, List.getElem?_cons_zero]; exact rfl) (fun K' hK => ?_) AllReadyH.nil)
      go_simp
      (refine hK.out _ _ (Six.set (Six.set (Six.set S8))) (fun hHeld => ?_); clear hK K'; try simp only [Act.put, List.setIfInBounds_toArray, List.set_cons_zero, List.set_cons_succ])
      refine wpAnyH_ready (rs := [12]) (by kernel_rfl) (by simp) (AllReadyH.cons (by simp only [List.getElem?_toArray, List.getElem?_cons_succ, List.getElem?_cons_zero]; exact rfl) (fun K' hK => ?_) AllReadyH.nil)
      go_simp
      (refine hK.out _ _ (Six.set (Six.set (Six.set S8))) (fun hHeld => ?_); clear hK K'; try simp only [Act.put, List.setIfInBounds_toArray, List.set_cons_zero, List.set_cons_succ])
      refine wpAnyH_done (by kernel_rfl) ?_ _
      go_wp2
      refine bodyPost_ret (v := .tuple #[.agg #[.int .i64 k, .int .i64 p, .slice A8 1 c8], .bool true]) (by simp [results, Try.results15, go_sem, r0, r1, r2]) rfl ⟨_, rfl, ?_, ?_⟩
      · exact OwnE.mono (OwnE.setOther (a := ⟨w.heap.size + 2, 2, none⟩) (OwnE.setOther (a := ⟨w.heap.size + 2, 1, none⟩) (OwnE.setOther (a := ⟨w.heap.size + 2, 0, none⟩) ho8 zz _) zz _) zz _) (by omega)
      · exact (((GG.out.below.trans (B8.mono GG.out.below.size)).setCell (by simp; omega) _).setCell (by simp; omega) _).setCell (by simp; omega) _
    · have z6 : ((cs.length : Int) == 6) = false := by rw [beq_eq_false_iff_ne]; omega
      have z6' : ¬ (cs.length : Int) = 6 := by omega
      have z7 : (0 : Int) ≤ (cs.length : Int) := by omega
      have z8 : (cs.length : Int) ≤ (c : Int) := by omega
      have hc := Lib.hid hc
      clear ho h6 hcm
      go_enter Try.func15, Try.ntmps15
      go_wp2_with (first | (go_at_call 35; refine (PG.out _ (by repeat (first | exact Gr.refl _ | refine Gr.alloc ?_ _ | refine Gr.trans ?_ (by assumption) | refine Gr.drew ?_ | refine Gr.drewN ?_ _ | refine Gr.grow ?_ _ | refine Gr.setCell ?_ (by (try simp); (try omega)) _)) _ HG.out).mono ?_; rintro e W1 ⟨rfl, h1⟩; have S1 : Six W1 w.heap.size k p x y z (.slice (some ⟨g, 0, none⟩) cs.length c) := ⟨h1.keep0 (by simp [go_sem]), h1.keep0 (by simp [go_sem]), h1.keep0 (by simp [go_sem]), h1.keep0 (by simp [go_sem]), h1.keep0 (by simp [go_sem]), h1.keep0 (by simp [go_sem])⟩; have R1 : Rbx W1 w.heap.size := ⟨h1.keep0 (by simp [go_sem]), h1.keep0 (by simp [go_sem]), h1.keep0 (by simp [go_sem]), fun o => ((bcell h1.below).2 _ _ (by simp)).trans (by simp [go_sem])⟩; have a01 := S1.1; have a11 := S1.2.1; have a21 := S1.2.2.1; have b01 := S1.2.2.2.1; have b11 := S1.2.2.2.2.1; have b21 := S1.2.2.2.2.2; have r01 := R1.1; have r11 := R1.2.1; have r21 := R1.2.2.1; have rf1 := R1.2.2.2) | (go_at_call 36; refine (Try.iIsClue _ _ _ _ _ _ HC.out _).mono ?_; rintro e W2 ⟨rfl, h2⟩; have h3 := h1.trans h2; have S2 : Six W2 w.heap.size k p x y z (.slice (some ⟨g, 0, none⟩) cs.length c) := ⟨h3.keep0 (by simp [go_sem]), h3.keep0 (by simp [go_sem]), h3.keep0 (by simp [go_sem]), h3.keep0 (by simp [go_sem]), h3.keep0 (by simp [go_sem]), h3.keep0 (by simp [go_sem])⟩; have R2 : Rbx W2 w.heap.size := ⟨h3.keep0 (by simp [go_sem]), h3.keep0 (by simp [go_sem]), h3.keep0 (by simp [go_sem]), fun o => ((bcell h3.below).2 _ _ (by simp)).trans (by simp [go_sem])⟩; have a02 := S2.1; have a12 := S2.2.1; have a22 := S2.2.2.1; have b02 := S2.2.2.2.1; have b12 := S2.2.2.2.2.1; have b22 := S2.2.2.2.2.2; have r02 := R2.1; have r12 := R2.2.1; have r22 := R2.2.2.1; have rf2 := R2.2.2.2))
      have GG := Lib.hid (show Gr w W2 from ((Gr.alloc (Gr.alloc (Gr.alloc (Gr.refl w) _) _) _).trans h3))
      have HS := Lib.hid S2
      have HR := Lib.hid R2
      have zz : w.heap.size + 2 < W2.heap.size := World.block_lt_of_cell? _ _ R2.1
      have HQ := Lib.hid (fun j u hu => GG.out.keep0 (hc.out j u hu))
      clear S1 R1 S2 R2 h1 h2 h3 a01 a11 a21 b01 b11 b21 r01 r11 r21 rf1 a02 a12 a22 b02 b12 b22 r02 r12 r22 rf2
      clear W1
      generalize hWW : W2 = W at *
      clear hWW
      refine wp_region_held_drew (S := fun W' => W'.cell? ⟨w.heap.size, 0, none⟩ = some (.int .i64 k) ∧ W'.cell? ⟨w.heap.size, 1, none⟩ = some (.int .i64 p) ∧ W'.cell? ⟨w.heap.size, 2, none⟩ = some (.slice (some ⟨g, 0, none⟩) cs.length c) ∧ W'.cell? ⟨w.heap.size + 1, 0, none⟩ = some (.int .i64 x) ∧ W'.cell? ⟨w.heap.size + 1, 1, none⟩ = some (.int .i64 y) ∧ W'.cell? ⟨w.heap.size + 1, 2, none⟩ = some (.int .i64 z)) (by kernel_rfl) (HS.out.gr (Gr.drew (Gr.refl W))) (fun hHeld => ?_)
      (refine wpAnyH_take (i := 0) (v := ?_) (by simp only [List.getElem?_toArray, List.getElem?_cons_succ, List.getElem?_cons_zero]; exact rfl) (by kernel_rfl) (by kernel_rfl) (by kernel_rfl) (by intro _ _ _ h; exact h) (Or.inl ⟨by rfl, ?_⟩) (by assumption) ?_; rotate_left; (focus (intro w' hSw; (try dsimp only at hSw); go_simp; (try with_reducible rfl))); try simp only [Act.put, List.setIfInBounds_toArray, List.set_cons_zero, List.set_cons_succ])
      (refine wpAnyH_take (i := 1) (v := ?_) (by simp only [List.getElem?_toArray, List.getElem?_cons_succ, List.getElem?_cons_zero]; exact rfl) (by kernel_rfl) (by kernel_rfl) (by kernel_rfl) (by intro _ _ _ h; exact h) (Or.inl ⟨by rfl, ?_⟩) (by assumption) ?_; rotate_left; (focus (intro w' hSw; (try dsimp only at hSw); go_simp; (try with_reducible rfl))); try simp only [Act.put, List.setIfInBounds_toArray, List.set_cons_zero, List.set_cons_succ])
      (refine wpAnyH_take (i := 2) (v := ?_) (by simp only [List.getElem?_toArray, List.getElem?_cons_succ, List.getElem?_cons_zero]; exact rfl) (by kernel_rfl) (by kernel_rfl) (by kernel_rfl) (by intro _ _ _ h; exact h) (Or.inl ⟨by rfl, ?_⟩) (by assumption) ?_; rotate_left; (focus (intro w' hSw; (try dsimp only at hSw); go_simp; (try with_reducible rfl))); try simp only [Act.put, List.setIfInBounds_toArray, List.set_cons_zero, List.set_cons_succ])
      (refine wpAnyH_take (i := 3) (v := ?_) (by simp only [List.getElem?_toArray, List.getElem?_cons_succ, List.getElem?_cons_zero]; exact rfl) (by kernel_rfl) (by kernel_rfl) (by kernel_rfl) (by intro _ _ _ h; exact h) (Or.inl ⟨by rfl, ?_⟩) (by assumption) ?_; rotate_left; (focus (intro w' hSw; (try dsimp only at hSw); go_simp; (try with_reducible rfl))); try simp only [Act.put, List.setIfInBounds_toArray, List.set_cons_zero, List.set_cons_succ])
      (refine wpAnyH_take (i := 4) (v := ?_) (by simp only [List.getElem?_toArray, List.getElem?_cons_succ, List.getElem?_cons_zero]; exact rfl) (by kernel_rfl) (by kernel_rfl) (by kernel_rfl) (by intro _ _ _ h; exact h) (Or.inl ⟨by rfl, ?_⟩) (by assumption) ?_; rotate_left; (focus (intro w' hSw; (try dsimp only at hSw); go_simp; (try with_reducible rfl))); try simp only [Act.put, List.setIfInBounds_toArray, List.set_cons_zero, List.set_cons_succ])
      (refine wpAnyH_take (i := 5) (v := ?_) (by simp only [List.getElem?_toArray, List.getElem?_cons_succ, List.getElem?_cons_zero]; exact rfl) (by kernel_rfl) (by kernel_rfl) (by kernel_rfl) (by intro _ _ _ h; exact h) (Or.inl ⟨by rfl, ?_⟩) (by assumption) ?_; rotate_left; (focus (intro w' hSw; (try dsimp only at hSw); go_simp; (try with_reducible rfl))); try simp only [Act.put, List.setIfInBounds_toArray, List.set_cons_zero, List.set_cons_succ])
      (refine wpAnyH_take (i := 6) (v := ?_) (by simp only [List.getElem?_toArray, List.getElem?_cons_succ, List.getElem?_cons_zero]; exact rfl) (by kernel_rfl) (by kernel_rfl) (by kernel_rfl) (by intro _ _ _ h; exact h) (Or.inl ⟨by rfl, ?_⟩) (by assumption) ?_; rotate_left; (focus (intro w' hSw; (try dsimp only at hSw); go_simp; (try with_reducible rfl))); try simp only [Act.put, List.setIfInBounds_toArray, List.set_cons_zero, List.set_cons_succ])
      (refine wpAnyH_take (i := 7) (v := ?_) (by simp only [List.getElem?_toArray, List.getElem?_cons_succ, List.getElem?_cons_zero]; exact rfl) (by kernel_rfl) (by kernel_rfl) (by kernel_rfl) (by intro _ _ _ h; exact h) (Or.inl ⟨by rfl, ?_⟩) (by assumption) ?_; rotate_left; (focus (intro w' hSw; (try dsimp only at hSw); go_simp; (try with_reducible rfl))); try simp only [Act.put, List.setIfInBounds_toArray, List.set_cons_zero, List.set_cons_succ])
      refine wpAnyH_ready (rs := [8]) (by kernel_rfl) (by simp) (AllReadyH.cons (by simp only [List.getElem?_toArray, List.getElem?_cons_succ, List.getElem?_cons_zero]; exact rfl) (fun K' hK => ?_) AllReadyH.nil)
      go_simp
      (refine hK.out _ _ (HS.out.gr (Gr.alloc (Gr.drew (Gr.refl W)) _)) (fun hHeld => ?_); clear hK K'; try simp only [Act.put, List.setIfInBounds_toArray, List.set_cons_zero, List.set_cons_succ])
      refine wpAnyH_ready (rs := [9]) (by kernel_rfl) (by simp) (AllReadyH.cons (by simp only [List.getElem?_toArray, List.getElem?_cons_succ, List.getElem?_cons_zero]; exact rfl) (fun K' hK => ?_) AllReadyH.nil)
      refine step_growE ccs_len ccs_one rfl (.tmp 31) (.tmp 33) 25 rfl Try.underlying25 Try.infoC rfl (by decide) (by decide) (some ⟨g, 0, none⟩) cs.length cs.length cs rfl (fun e => by cases e) rfl (fun b e j u hu => by cases e; exact (Gr.alloc (Gr.drew (Gr.refl W)) _).keep0 (HQ.out j u hu)) ⟨W.heap.size, 0, none⟩ 1 1 [(x, y, z)] rfl rfl (fun j u hu => alloc_cells' (by simp; done) (by simpa [ecs, ccs] using hu)) (by omega) (by have := H6.out; simp; try omega) (by simp) ?_; intro v8 w8 ho8 hb8; obtain ⟨A8, c8, rfl, ho8⟩ := OwnE.eta ho8; simp only [List.length_append, List.length_cons, List.length_nil, Nat.zero_add] at ho8
      have ho8 := OwnE.mono ho8 (show W.heap.size ≤ _ by simp)
      have B8 : Below W.heap.size W w8 := (Gr.alloc (Gr.drew (Gr.refl W)) (Obj.cells #[.int .i64 x, .int .i64 y, .int .i64 z] 42)).below.trans (hb8.mono (by simp))
      have S8 := HS.out.bel B8 (Nat.lt_of_succ_lt zz)
      have R8 := HR.out.bel B8 zz
      (refine hK.out _ _ (S8) (fun hHeld => ?_); clear hK K'; try simp only [Act.put, List.setIfInBounds_toArray, List.set_cons_zero, List.set_cons_succ])
      refine wpAnyH_ready (rs := [10]) (by kernel_rfl) (by simp) (AllReadyH.cons (by simp only [List.getElem?_toArray, List.getElem?_cons_succ, List.getElem?_cons_zero]; exact rfl) (fun K' hK => ?_) AllReadyH.nil)
      go_simp
      (refine hK.out _ _ (S8) (fun hHeld => ?_); clear hK K'; try simp only [Act.put, List.setIfInBounds_toArray, List.set_cons_zero, List.set_cons_succ])
      have r0 := R8.1
      have r1 := R8.2.1
      have r2 := R8.2.2.1
      have rf := R8.2.2.2
      refine wpAnyH_ready (rs := [11]) (by kernel_rfl) (by simp) (AllReadyH.cons (by simp only [List.getElem?_toArray, List.getElem?_cons_succ, List.getElem?_cons_zero]; exact rfl) (fun K' hK => ?_) AllReadyH.nil)
      go_simp
      (refine hK.out _ _ (Six.set (Six.set (Six.set S8))) (fun hHeld => ?_); clear hK K'; try simp only [Act.put, List.setIfInBounds_toArray, List.set_cons_zero, List.set_cons_succ])
      refine wpAnyH_ready (rs := [12]) (by kernel_rfl) (by simp) (AllReadyH.cons (by simp only [List.getElem?_toArray, List.getElem?_cons_succ, List.getElem?_cons_zero]; exact rfl) (fun K' hK => ?_) AllReadyH.nil)
      go_simp
      (refine hK.out _ _ (Six.set (Six.set (Six.set S8))) (fun hHeld => ?_); clear hK K'; try simp only [Act.put, List.setIfInBounds_toArray, List.set_cons_zero, List.set_cons_succ])
      refine wpAnyH_done (by kernel_rfl) ?_ _
      go_wp2
      refine bodyPost_ret (v := .tuple #[.agg #[.int .i64 k, .int .i64 p, .slice A8 (cs.length + 1) c8], .bool true]) (by simp [results, Try.results15, go_sem, r0, r1, r2]) rfl ⟨_, rfl, ?_, ?_⟩
      · exact OwnE.mono (OwnE.setOther (a := ⟨w.heap.size + 2, 2, none⟩) (OwnE.setOther (a := ⟨w.heap.size + 2, 1, none⟩) (OwnE.setOther (a := ⟨w.heap.size + 2, 0, none⟩) ho8 zz _) zz _) zz _) (by omega)
      · exact (((GG.out.below.trans (B8.mono GG.out.below.size)).setCell (by simp; omega) _).setCell (by simp; omega) _).setCell (by simp; omega) _
end Go.Proofs
