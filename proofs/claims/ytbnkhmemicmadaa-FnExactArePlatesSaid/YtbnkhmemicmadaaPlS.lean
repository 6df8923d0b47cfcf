/-
  Contracts of chapter 2: the model's ArePlates.
-/
import Derived.Test.YtbnkhmemicmadaaPlK
namespace Go.Proofs
open Go.RowKit Pl
set_option linter.unusedVariables false
set_option linter.unusedSimpArgs false
set_option maxHeartbeats 400000 in
theorem Try.sArePlates (w : World) (B : Nat) (v : Value) (ps : List Pi2) (hl : ps.length ≤ 1048576) (h : OwnP 45 w B v ps) :
    Calls Try.prog 44 #[v] w fun e w' => e = .returned (.bool (okB ps)) ∧ Gr w w' := by
  have H := Lib.hid (Try.isGood w B _ ps (okB ps) (okB_iff ps) hl h)
  obtain ⟨A, c, rfl, h⟩ := h.eta
  clear h
  go_enter Try.func44, Try.ntmps44
  go_wp2_with (go_at_call 83; refine (H.out).mono ?_; rintro e w1 ⟨rfl, hbW⟩; have hcW := (bcell hbW.below).1; have hfW := (bcell hbW.below).2; (try have hzW : w.heap.size < w1.heap.size := by have hq := hbW.below.size; (try simp at hq); omega); (try have hyW : w.heap.size + 1 < w1.heap.size := by have hq := hbW.below.size; (try simp at hq); omega); (try have hxW : w.heap.size + 2 < w1.heap.size := by have hq := hbW.below.size; (try simp at hq); omega))
  go_ret
  exact ⟨rfl, by repeat (first | exact Gr.refl _ | refine Gr.alloc ?_ _ | refine Gr.trans ?_ (by assumption) | refine Gr.drew ?_ | refine Gr.drewN ?_ _ | refine Gr.grow ?_ _ | refine Gr.setCell ?_ (by (try simp); (try omega)) _)⟩
end Go.Proofs
