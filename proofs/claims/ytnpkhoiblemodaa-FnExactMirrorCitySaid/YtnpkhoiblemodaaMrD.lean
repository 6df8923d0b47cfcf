/-
  Chapter 4: a city told from the other side, the program, both cases.
-/
import Derived.Test.YtnpkhoiblemodaaMrA
import Derived.Test.YtnpkhoiblemodaaMrC
namespace Go.Proofs
open Go.RowKit Av
set_option linter.unusedVariables false
set_option linter.unusedSimpArgs false
set_option maxRecDepth 100000 in
set_option maxHeartbeats 1600000 in
theorem Try.iMirrorCity (w : World) (W H : Int) (B : Nat) (a : Value) (ps : List Blk) (hl : ps.length ≤ 1048576) (h : OwnB w B a ps) :
    Calls Try.prog 26 #[.agg #[.int .i64 W, .int .i64 H, a]] w (RetC w (ifN (okB W H ps) W) (ifN (okB W H ps) H) (mrL W H ps) (okB W H ps)) := by
  cases hb : okB W H ps
  · obtain ⟨A, c, rfl, h2⟩ := OwnE.eta h
    rw [show mrL W H ps = [] by simp [mrL, hb]]
    unfold ifN
    simp only [Bool.false_eq_true, if_false]
    have PG := Lib.hid (fun (X : World) (g : Gr w X) => Try.iIsCity X W H B _ ps _ hb hl (OwnE.gr h2 g))
    clear hb h h2
    go_enter Try.func26, Try.ntmps26
    go_wp2_with (first | (go_at_call 33; refine (PG.out _ (by repeat (first | exact Gr.refl _ | refine Gr.alloc ?_ _ | refine Gr.trans ?_ (by assumption) | refine Gr.drew ?_ | refine Gr.drewN ?_ _ | refine Gr.grow ?_ _ | refine Gr.setCell ?_ (by (try simp); (try omega)) _))).mono ?_; rintro e W1 ⟨rfl, q1⟩; have a0 : W1.cell? ⟨w.heap.size, 0, none⟩ = some (.int .i64 W) := q1.keep0 (by simp [go_sem]); have a1 : W1.cell? ⟨w.heap.size, 1, none⟩ = some (.int .i64 H) := q1.keep0 (by simp [go_sem]); have a2 : W1.cell? ⟨w.heap.size, 2, none⟩ = some (.slice A ps.length c) := q1.keep0 (by simp [go_sem]); have r0 : W1.cell? ⟨w.heap.size + 1, 0, none⟩ = some (.int .i64 0) := q1.keep0 (by simp [go_sem]); have r1 : W1.cell? ⟨w.heap.size + 1, 1, none⟩ = some (.int .i64 0) := q1.keep0 (by simp [go_sem]); have r2 : W1.cell? ⟨w.heap.size + 1, 2, none⟩ = some (.slice none 0 0) := q1.keep0 (by simp [go_sem]); have rf : ∀ o, W1.frozen? ⟨w.heap.size + 1, o, none⟩ = false := fun o => ((bcell q1.below).2 _ _ (by simp)).trans (by simp [go_sem])))
    refine bodyPost_ret (v := .tuple #[.agg #[.int .i64 0, .int .i64 0, .slice none 0 0], .bool false]) (by simp [results, Try.results26, go_sem, r0, r1, r2]) rfl ⟨_, rfl, OwnE.nil _ _ _ _ _, Gr.below (by repeat (first | exact Gr.refl _ | refine Gr.alloc ?_ _ | refine Gr.trans ?_ (by assumption) | refine Gr.drew ?_ | refine Gr.drewN ?_ _ | refine Gr.grow ?_ _ | refine Gr.setCell ?_ (by (try simp); (try omega)) _))⟩
  · rw [show mrL W H ps = mirL W ps ps.length by simp [mrL, hb]]
    unfold ifN
    simp only [if_true]
    exact Try.iMirrorT w W H B a ps hb hl h
end Go.Proofs
