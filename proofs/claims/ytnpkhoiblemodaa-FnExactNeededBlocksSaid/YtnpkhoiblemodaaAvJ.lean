/-
  Contracts of chapter 4: two corners that lists tell (the program).
-/
import Derived.Test.YtnpkhoiblemodaaAvI
namespace Go.Proofs
open Go.RowKit Av Gm Go.Maps
set_option linter.unusedVariables false
set_option linter.unusedSimpArgs false
theorem four_s {w : World} {k l : Nat} {p : Addr} {u x0 x1 x2 x3 : Value} (h : w.cell? ⟨k, 0, none⟩ = some x0 ∧ w.cell? ⟨k, 1, none⟩ = some x1 ∧ w.cell? ⟨l, 0, none⟩ = some x2 ∧ w.cell? ⟨l, 1, none⟩ = some x3) (hk : k ≠ p.block) (hl : l ≠ p.block) :
    (w.setCell p u).cell? ⟨k, 0, none⟩ = some x0 ∧ (w.setCell p u).cell? ⟨k, 1, none⟩ = some x1 ∧ (w.setCell p u).cell? ⟨l, 0, none⟩ = some x2 ∧ (w.setCell p u).cell? ⟨l, 1, none⟩ = some x3 := by
  have e : ∀ b o, b ≠ p.block → (w.setCell p u).cell? ⟨b, o, none⟩ = w.cell? ⟨b, o, none⟩ := fun b o hb => by
    unfold World.cell?
    rw [show (w.setCell p u).heap[b]? = w.heap[b]? from heap_setCell_other w p b u hb]
  rw [e _ _ hk, e _ _ hk, e _ _ hl, e _ _ hl]; exact h
theorem four_d {w : World} {k l : Nat} {x0 x1 x2 x3 : Value} (h : w.cell? ⟨k, 0, none⟩ = some x0 ∧ w.cell? ⟨k, 1, none⟩ = some x1 ∧ w.cell? ⟨l, 0, none⟩ = some x2 ∧ w.cell? ⟨l, 1, none⟩ = some x3) :
    w.drew.cell? ⟨k, 0, none⟩ = some x0 ∧ w.drew.cell? ⟨k, 1, none⟩ = some x1 ∧ w.drew.cell? ⟨l, 0, none⟩ = some x2 ∧ w.drew.cell? ⟨l, 1, none⟩ = some x3 := h
set_option maxRecDepth 100000 in
set_option maxHeartbeats 1600000 in
theorem Try.twoCornersOf (w : World) (W H : Int) (B : Nat) (a : Value) (ps : List Blk) (Ba : Nat) (la : Value) (xs : List Int) (Bb : Nat) (lb : Value) (ys : List Int) (b1 b2 b3 : Bool) (h1 : okB W H ps = b1) (h2 : isC W H xs = b2) (h3 : isC W H ys = b3) (hl : ps.length ≤ 1048576) (h : OwnB w B a ps) (hla : OwnI w Ba la xs) (hlb : OwnI w Bb lb ys) :
    Calls Try.prog 60 #[.agg #[.int .i64 W, .int .i64 H, a], la, lb] w fun e w' => e = .returned (.tuple #[coV (b1 && b2) xs, coV (b1 && b3) ys, .bool (b1 && b2 && b3)]) ∧ Gr w w' := by
  have mixed : Try.prog.follows .mixedOrders = true := by kernel_rfl
  obtain ⟨A, c, rfl, h⟩ := OwnE.eta h
  have HA := Lib.hid (fun (X : World) (g : Gr w X) => Try.cornerOf X W H B _ ps Ba la xs b1 b2 h1 h2 hl (h.gr g) (hla.gr g))
  have HB := Lib.hid (fun (X : World) (g : Gr w X) => Try.cornerOf X W H B _ ps Bb lb ys b1 b3 h1 h3 hl (h.gr g) (hlb.gr g))
  have e : (b1 && b2 && b3) = ((b1 && b2) && (b1 && b3)) := by cases b1 <;> cases b2 <;> cases b3 <;> rfl
  rw [e]
  clear e h1 h2 h3 h hla hlb
  generalize (b1 && b2) = p at *
  generalize (b1 && b3) = q at *
  unfold coV at *
  generalize coX p xs = x1 at *
  generalize coY p xs = y1 at *
  generalize coX q ys = x2 at *
  generalize coY q ys = y2 at *
  go_enter Try.func60, Try.ntmps60
  go_wp2_with (first | (go_at_call_of 72 (la); refine (HA.out _ (by repeat (first | exact Gr.refl _ | refine Gr.alloc ?_ _ | refine Gr.trans ?_ (by assumption) | refine Gr.drew ?_ | refine Gr.drewN ?_ _ | refine Gr.grow ?_ _ | refine Gr.setCell ?_ (by (try simp); (try omega)) _))).mono ?_; rintro e w1 ⟨rfl, hbW⟩; have hcW := (bcell hbW.below).1; have hfW := (bcell hbW.below).2; (try have hzW : w.heap.size < w1.heap.size := by have hq := hbW.below.size; (try simp at hq); omega); (try have hyW : w.heap.size + 1 < w1.heap.size := by have hq := hbW.below.size; (try simp at hq); omega); (try have hxW : w.heap.size + 2 < w1.heap.size := by have hq := hbW.below.size; (try simp at hq); omega)) | (go_at_call_of 72 (lb); refine (HB.out _ (by repeat (first | exact Gr.refl _ | refine Gr.alloc ?_ _ | refine Gr.trans ?_ (by assumption) | refine Gr.drew ?_ | refine Gr.drewN ?_ _ | refine Gr.grow ?_ _ | refine Gr.setCell ?_ (by (try simp); (try omega)) _))).mono ?_; rintro e w2 ⟨rfl, hbX⟩))
  obtain ⟨q0, q1, q2, q3, q4, q5, q6, q7⟩ := res2 (w := w) (A := (.cells #[.int .i64 W, .int .i64 H, .slice A ps.length c] 30)) (a := .int .i64 0) (b := .int .i64 0) (c := .int .i64 0) (d := .int .i64 0) (t := 66) (t2 := 66) (W := w2.alloc (.cells #[.int .i64 x2, .int .i64 y2] 66)) (show Gr (((w.alloc (.cells #[.int .i64 W, .int .i64 H, .slice A ps.length c] 30)).alloc (.cells #[.int .i64 0, .int .i64 0] 66)).alloc (.cells #[.int .i64 0, .int .i64 0] 66)) (w2.alloc (.cells #[.int .i64 x2, .int .i64 y2] 66)) from (by repeat (first | exact Gr.refl _ | refine Gr.alloc ?_ _ | refine Gr.trans ?_ (by assumption) | refine Gr.drew ?_ | refine Gr.drewN ?_ _ | refine Gr.grow ?_ _ | refine Gr.setCell ?_ (by (try simp); (try omega)) _)))
  have gF : Gr (w1.alloc (.cells #[.int .i64 x1, .int .i64 y1] 66)) (w2.alloc (.cells #[.int .i64 x2, .int .i64 y2] 66)) := Gr.alloc hbX _
  have hS : (w2.alloc (.cells #[.int .i64 x2, .int .i64 y2] 66)).cell? ⟨w1.heap.size, 0, none⟩ = some (.int .i64 x1) ∧ (w2.alloc (.cells #[.int .i64 x2, .int .i64 y2] 66)).cell? ⟨w1.heap.size, 1, none⟩ = some (.int .i64 y1) ∧ (w2.alloc (.cells #[.int .i64 x2, .int .i64 y2] 66)).cell? ⟨w2.heap.size, 0, none⟩ = some (.int .i64 x2) ∧ (w2.alloc (.cells #[.int .i64 x2, .int .i64 y2] 66)).cell? ⟨w2.heap.size, 1, none⟩ = some (.int .i64 y2) := ⟨gF.keep0 (by simp [go_sem]), gF.keep0 (by simp [go_sem]), by simp [go_sem], by simp [go_sem]⟩
  have s1 := hbW.below.size
  have s2 := hbX.below.size
  simp at s1 s2
  have GE := Lib.hid (show Gr w (w2.alloc (.cells #[.int .i64 x2, .int .i64 y2] 66)) from (by repeat (first | exact Gr.refl _ | refine Gr.alloc ?_ _ | refine Gr.trans ?_ (by assumption) | refine Gr.drew ?_ | refine Gr.drewN ?_ _ | refine Gr.grow ?_ _ | refine Gr.setCell ?_ (by (try simp); (try omega)) _)))
  clear gF hbW hbX hcW hfW
  cases p
  · refine wp_region_held_drew (S := fun W' => W'.cell? ⟨w1.heap.size, 0, none⟩ = some (.int .i64 x1) ∧ W'.cell? ⟨w1.heap.size, 1, none⟩ = some (.int .i64 y1) ∧ W'.cell? ⟨w2.heap.size, 0, none⟩ = some (.int .i64 x2) ∧ W'.cell? ⟨w2.heap.size, 1, none⟩ = some (.int .i64 y2)) (by kernel_rfl) ?_ (fun hHeld => ?_)
    · exact hS
    (refine wpAnyH_take (i := 0) (v := ?_) (by simp only [List.getElem?_toArray, List.getElem?_cons_succ, List.getElem?_cons_zero]; exact rfl) (by kernel_rfl) (by kernel_rfl) (by kernel_rfl) (by intro _ _ _ h; exact h) (Or.inl ⟨by rfl, ?_⟩) (by assumption) ?_; rotate_left; (focus (intro w' hSw; (try dsimp only at hSw); go_simp; (try with_reducible rfl))); try simp only [Act.put, List.setIfInBounds_toArray, List.set_cons_zero, List.set_cons_succ])
    (refine wpAnyH_take (i := 1) (v := ?_) (by simp only [List.getElem?_toArray, List.getElem?_cons_succ, List.getElem?_cons_zero]; exact rfl) (by kernel_rfl) (by kernel_rfl) (by kernel_rfl) (by intro _ _ _ h; exact h) (Or.inl ⟨by rfl, ?_⟩) (by assumption) ?_; rotate_left; (focus (intro w' hSw; (try dsimp only at hSw); go_simp; (try with_reducible rfl))); try simp only [Act.put, List.setIfInBounds_toArray, List.set_cons_zero, List.set_cons_succ])
    (refine wpAnyH_take (i := 2) (v := ?_) (by simp only [List.getElem?_toArray, List.getElem?_cons_succ, List.getElem?_cons_zero]; exact rfl) (by kernel_rfl) (by kernel_rfl) (by kernel_rfl) (by intro _ _ _ h; exact h) (Or.inl ⟨by rfl, ?_⟩) (by assumption) ?_; rotate_left; (focus (intro w' hSw; (try dsimp only at hSw); go_simp; (try with_reducible rfl))); try simp only [Act.put, List.setIfInBounds_toArray, List.set_cons_zero, List.set_cons_succ])
    (refine wpAnyH_take (i := 3) (v := ?_) (by simp only [List.getElem?_toArray, List.getElem?_cons_succ, List.getElem?_cons_zero]; exact rfl) (by kernel_rfl) (by kernel_rfl) (by kernel_rfl) (by intro _ _ _ h; exact h) (Or.inl ⟨by rfl, ?_⟩) (by assumption) ?_; rotate_left; (focus (intro w' hSw; (try dsimp only at hSw); go_simp; (try with_reducible rfl))); try simp only [Act.put, List.setIfInBounds_toArray, List.set_cons_zero, List.set_cons_succ])
    (refine wpAnyH_take (i := 4) (v := undef) (by simp only [List.getElem?_toArray, List.getElem?_cons_succ, List.getElem?_cons_zero]; exact rfl) (by kernel_rfl) (by kernel_rfl) (by kernel_rfl) (by intro _ _ _ h; exact h) (Or.inr ⟨by rfl, rfl⟩) (by assumption) ?_; try simp only [Act.put, List.setIfInBounds_toArray, List.set_cons_zero, List.set_cons_succ])
    (refine wpAnyH_take (i := 5) (v := ?_) (by simp only [List.getElem?_toArray, List.getElem?_cons_succ, List.getElem?_cons_zero]; exact rfl) (by kernel_rfl) (by kernel_rfl) (by kernel_rfl) (by intro _ _ _ h; exact h) (Or.inl ⟨by rfl, ?_⟩) (by assumption) ?_; rotate_left; (focus (intro w' hSw; (try dsimp only at hSw); go_simp; (try with_reducible rfl))); try simp only [Act.put, List.setIfInBounds_toArray, List.set_cons_zero, List.set_cons_succ])
    refine wpAnyH_ready (rs := [6]) (by kernel_rfl) (by simp) (AllReadyH.cons (by simp only [List.getElem?_toArray, List.getElem?_cons_succ, List.getElem?_cons_zero]; exact rfl) (fun K' hK => ?_) AllReadyH.nil)
    go_wp2
    (refine hK.out _ _ (by refine four_d (four_s (four_s hS ?_ ?_) ?_ ?_) <;> (simp; omega)) (fun hHeld => ?_); clear hK K'; try simp only [Act.put, List.setIfInBounds_toArray, List.set_cons_zero, List.set_cons_succ])
    refine wpAnyH_ready (rs := [7]) (by kernel_rfl) (by simp) (AllReadyH.cons (by simp only [List.getElem?_toArray, List.getElem?_cons_succ, List.getElem?_cons_zero]; exact rfl) (fun K' hK => ?_) AllReadyH.nil)
    go_wp2
    (refine hK.out _ _ (by refine four_d (four_s (four_s (four_s (four_s hS ?_ ?_) ?_ ?_) ?_ ?_) ?_ ?_) <;> (simp; omega)) (fun hHeld => ?_); clear hK K'; try simp only [Act.put, List.setIfInBounds_toArray, List.set_cons_zero, List.set_cons_succ])
    (refine wpAnyH_take (i := 8) (v := ?_) (by simp only [List.getElem?_toArray, List.getElem?_cons_succ, List.getElem?_cons_zero]; exact rfl) (by kernel_rfl) (by kernel_rfl) (by kernel_rfl) (by intro _ _ _ h; exact h) (Or.inl ⟨by rfl, ?_⟩) (by assumption) ?_; rotate_left; (focus (intro w' hSw; (try dsimp only at hSw); go_simp; (try with_reducible rfl))); try simp only [Act.put, List.setIfInBounds_toArray, List.set_cons_zero, List.set_cons_succ])
    refine wpAnyH_done (by kernel_rfl) ?_ _
    go_wp2
    refine bodyPost_ret (v := .tuple #[.agg #[.int .i64 x1, .int .i64 y1], .agg #[.int .i64 x2, .int .i64 y2], .bool _]) ?_ rfl ⟨rfl, ?_⟩
    · simp [results, Try.results60, go_sem, q0, q1, q2, q3]
    · exact Gr.drew (Gr.setCell (Gr.setCell (Gr.setCell (Gr.setCell GE.out (by simp) _) (by simp) _) (by simp; omega) _) (by simp; omega) _)
  · refine wp_region_held_drew (S := fun W' => W'.cell? ⟨w1.heap.size, 0, none⟩ = some (.int .i64 x1) ∧ W'.cell? ⟨w1.heap.size, 1, none⟩ = some (.int .i64 y1) ∧ W'.cell? ⟨w2.heap.size, 0, none⟩ = some (.int .i64 x2) ∧ W'.cell? ⟨w2.heap.size, 1, none⟩ = some (.int .i64 y2)) (by kernel_rfl) ?_ (fun hHeld => ?_)
    · exact hS
    (refine wpAnyH_take (i := 0) (v := ?_) (by simp only [List.getElem?_toArray, List.getElem?_cons_succ, List.getElem?_cons_zero]; exact rfl) (by kernel_rfl) (by kernel_rfl) (by kernel_rfl) (by intro _ _ _ h; exact h) (Or.inl ⟨by rfl, ?_⟩) (by assumption) ?_; rotate_left; (focus (intro w' hSw; (try dsimp only at hSw); go_simp; (try with_reducible rfl))); try simp only [Act.put, List.setIfInBounds_toArray, List.set_cons_zero, List.set_cons_succ])
    (refine wpAnyH_take (i := 1) (v := ?_) (by simp only [List.getElem?_toArray, List.getElem?_cons_succ, List.getElem?_cons_zero]; exact rfl) (by kernel_rfl) (by kernel_rfl) (by kernel_rfl) (by intro _ _ _ h; exact h) (Or.inl ⟨by rfl, ?_⟩) (by assumption) ?_; rotate_left; (focus (intro w' hSw; (try dsimp only at hSw); go_simp; (try with_reducible rfl))); try simp only [Act.put, List.setIfInBounds_toArray, List.set_cons_zero, List.set_cons_succ])
    (refine wpAnyH_take (i := 2) (v := ?_) (by simp only [List.getElem?_toArray, List.getElem?_cons_succ, List.getElem?_cons_zero]; exact rfl) (by kernel_rfl) (by kernel_rfl) (by kernel_rfl) (by intro _ _ _ h; exact h) (Or.inl ⟨by rfl, ?_⟩) (by assumption) ?_; rotate_left; (focus (intro w' hSw; (try dsimp only at hSw); go_simp; (try with_reducible rfl))); try simp only [Act.put, List.setIfInBounds_toArray, List.set_cons_zero, List.set_cons_succ])
    (refine wpAnyH_take (i := 3) (v := ?_) (by simp only [List.getElem?_toArray, List.getElem?_cons_succ, List.getElem?_cons_zero]; exact rfl) (by kernel_rfl) (by kernel_rfl) (by kernel_rfl) (by intro _ _ _ h; exact h) (Or.inl ⟨by rfl, ?_⟩) (by assumption) ?_; rotate_left; (focus (intro w' hSw; (try dsimp only at hSw); go_simp; (try with_reducible rfl))); try simp only [Act.put, List.setIfInBounds_toArray, List.set_cons_zero, List.set_cons_succ])
    (refine wpAnyH_take (i := 4) (v := ?_) (by simp only [List.getElem?_toArray, List.getElem?_cons_succ, List.getElem?_cons_zero]; exact rfl) (by kernel_rfl) (by kernel_rfl) (by kernel_rfl) (by intro _ _ _ h; exact h) (Or.inl ⟨by rfl, ?_⟩) (by assumption) ?_; rotate_left; (focus (intro w' hSw; (try dsimp only at hSw); go_simp; (try with_reducible rfl))); try simp only [Act.put, List.setIfInBounds_toArray, List.set_cons_zero, List.set_cons_succ])
    (refine wpAnyH_take (i := 5) (v := ?_) (by simp only [List.getElem?_toArray, List.getElem?_cons_succ, List.getElem?_cons_zero]; exact rfl) (by kernel_rfl) (by kernel_rfl) (by kernel_rfl) (by intro _ _ _ h; exact h) (Or.inl ⟨by rfl, ?_⟩) (by assumption) ?_; rotate_left; (focus (intro w' hSw; (try dsimp only at hSw); go_simp; (try with_reducible rfl))); try simp only [Act.put, List.setIfInBounds_toArray, List.set_cons_zero, List.set_cons_succ])
    refine wpAnyH_ready (rs := [6]) (by kernel_rfl) (by simp) (AllReadyH.cons (by simp only [List.getElem?_toArray, List.getElem?_cons_succ, List.getElem?_cons_zero]; exact rfl) (fun K' hK => ?_) AllReadyH.nil)
    go_wp2
    (refine hK.out _ _ (by refine four_d (four_s (four_s hS ?_ ?_) ?_ ?_) <;> (simp; omega)) (fun hHeld => ?_); clear hK K'; try simp only [Act.put, List.setIfInBounds_toArray, List.set_cons_zero, List.set_cons_succ])
    refine wpAnyH_ready (rs := [7]) (by kernel_rfl) (by simp) (AllReadyH.cons (by simp only [List.getElem?_toArray, List.getElem?_cons_succ, List.getElem?_cons_zero]; exact rfl) (fun K' hK => ?_) AllReadyH.nil)
    go_wp2
    (refine hK.out _ _ (by refine four_d (four_s (four_s (four_s (four_s hS ?_ ?_) ?_ ?_) ?_ ?_) ?_ ?_) <;> (simp; omega)) (fun hHeld => ?_); clear hK K'; try simp only [Act.put, List.setIfInBounds_toArray, List.set_cons_zero, List.set_cons_succ])
    (refine wpAnyH_take (i := 8) (v := ?_) (by simp only [List.getElem?_toArray, List.getElem?_cons_succ, List.getElem?_cons_zero]; exact rfl) (by kernel_rfl) (by kernel_rfl) (by kernel_rfl) (by intro _ _ _ h; exact h) (Or.inl ⟨by rfl, ?_⟩) (by assumption) ?_; rotate_left; (focus (intro w' hSw; (try dsimp only at hSw); go_simp; (try with_reducible rfl))); try simp only [Act.put, List.setIfInBounds_toArray, List.set_cons_zero, List.set_cons_succ])
    refine wpAnyH_done (by kernel_rfl) ?_ _
    go_wp2
    refine bodyPost_ret (v := .tuple #[.agg #[.int .i64 x1, .int .i64 y1], .agg #[.int .i64 x2, .int .i64 y2], .bool _]) ?_ rfl ⟨rfl, ?_⟩
    · simp [results, Try.results60, go_sem, q0, q1, q2, q3]
    · exact Gr.drew (Gr.setCell (Gr.setCell (Gr.setCell (Gr.setCell GE.out (by simp) _) (by simp) _) (by simp; omega) _) (by simp; omega) _)
end Go.Proofs
