/-
  Contracts of chapter 2: one of a list of plates is asked for; the room behind it; old plates.
-/
import Derived.Test.YtcmlojidcpomjaaPlG
namespace Go.Proofs
open Go.RowKit Pl
set_option linter.unusedVariables false
set_option linter.unusedSimpArgs false
instance (ps : List Pi2) : Decidable (Ok ps) := by unfold Ok Up; infer_instance
def okB (ps : List Pi2) : Bool := decide (Ok ps)
theorem okB_iff (ps : List Pi2) : okB ps = true ↔ Ok ps := decide_eq_true_iff
theorem okB_i (ps : List Pi2) (v : Bool) (h : okB ps = v) : v = true ↔ Ok ps := by rw [← h]; exact okB_iff ps
def askB (ps : List Pi2) (k : Int) : Bool := okB ps && inn k 0 ((ps.length : Int) - 1)
theorem askB_t {ps : List Pi2} {k : Int} (h : askB ps k = true) : Ok ps ∧ ∃ m : Nat, k = m ∧ m < ps.length := by
  obtain ⟨h1, h2⟩ : okB ps = true ∧ inn k 0 ((ps.length : Int) - 1) = true := by simpa [askB] using h
  obtain ⟨a, b⟩ := inn_e h2
  exact ⟨(okB_iff ps).1 h1, k.toNat, by omega, by omega⟩
theorem OwnP.eta {T : TypeId} {w : World} {B : Nat} {v : Value} {ps : List Pi2} (h : OwnP T w B v ps) : ∃ A c, v = .slice A ps.length c ∧ OwnP T w B (.slice A ps.length c) ps := by
  obtain ⟨A, c, rfl⟩ := h.slice
  exact ⟨A, c, rfl, h⟩
set_option maxHeartbeats 400000 in
theorem Try.isAsked (w : World) (B : Nat) (v : Value) (ps : List Pi2) (k : Int) (b : Bool) (hb : askB ps k = b) (hl : ps.length ≤ 1048576) (h : OwnP 44 w B v ps) :
    Calls Try.prog 62 #[v, .int .i64 k] w fun e w' => e = .returned (.bool b) ∧ Gr w w' := by
  subst hb
  unfold askB
  obtain ⟨A, c, rfl, h⟩ := h.eta
  cases hg : okB ps
  · have H := Lib.hid (Try.isGood w B _ ps false (okB_i ps _ hg) hl h)
    clear h hg
    go_enter Try.func62, Try.ntmps62
    go_wp2_with (go_at_call 54; refine (H.out).mono ?_; rintro e w1 ⟨rfl, hbW⟩; have hcW := (bcell hbW.below).1; have hfW := (bcell hbW.below).2; (try have hzW : w.heap.size < w1.heap.size := by have hq := hbW.below.size; (try simp at hq); omega); (try have hyW : w.heap.size + 1 < w1.heap.size := by have hq := hbW.below.size; (try simp at hq); omega); (try have hxW : w.heap.size + 2 < w1.heap.size := by have hq := hbW.below.size; (try simp at hq); omega))
    go_ret
    exact ⟨rfl, by repeat (first | exact Gr.refl _ | refine Gr.alloc ?_ _ | refine Gr.trans ?_ (by assumption) | refine Gr.drew ?_ | refine Gr.drewN ?_ _ | refine Gr.grow ?_ _ | refine Gr.setCell ?_ (by (try simp); (try omega)) _)⟩
  · have H := Lib.hid (Try.isGood w B _ ps true (okB_i ps _ hg) hl h)
    clear h hg
    go_enter Try.func62, Try.ntmps62
    go_wp2_with (first | (go_at_call 54; refine (H.out).mono ?_; rintro e w1 ⟨rfl, hbW⟩; have hcW := (bcell hbW.below).1; have hfW := (bcell hbW.below).2; (try have hzW : w.heap.size < w1.heap.size := by have hq := hbW.below.size; (try simp at hq); omega); (try have hyW : w.heap.size + 1 < w1.heap.size := by have hq := hbW.below.size; (try simp at hq); omega); (try have hxW : w.heap.size + 2 < w1.heap.size := by have hq := hbW.below.size; (try simp at hq); omega)) | (go_at_call 40; refine (Try.l1In _ _ _ _ rfl _).mono ?_; rintro e w1 ⟨rfl, rfl⟩))
    go_ret
    exact ⟨rfl, by repeat (first | exact Gr.refl _ | refine Gr.alloc ?_ _ | refine Gr.trans ?_ (by assumption) | refine Gr.drew ?_ | refine Gr.drewN ?_ _ | refine Gr.grow ?_ _ | refine Gr.setCell ?_ (by (try simp); (try omega)) _)⟩
set_option maxHeartbeats 400000 in
theorem Try.haveIndex (w : World) (B : Nat) (v : Value) (ps : List Pi2) (k : Int) (b : Bool) (hb : askB ps k = b) (hl : ps.length ≤ 1048576) (h : OwnP 44 w B v ps) :
    Calls Try.prog 66 #[v, .int .i64 k] w fun e w' => e = .returned (.bool b) ∧ Gr w w' := by
  subst hb
  unfold askB
  obtain ⟨A, c, rfl, h⟩ := h.eta
  cases hg : okB ps
  · have H := Lib.hid (Try.iArePlates w B _ ps false (okB_i ps _ hg) hl h)
    clear h hg
    go_enter Try.func66, Try.ntmps66
    go_wp2_with (go_at_call 57; refine (H.out).mono ?_; rintro e w1 ⟨rfl, hbW⟩; have hcW := (bcell hbW.below).1; have hfW := (bcell hbW.below).2; (try have hzW : w.heap.size < w1.heap.size := by have hq := hbW.below.size; (try simp at hq); omega); (try have hyW : w.heap.size + 1 < w1.heap.size := by have hq := hbW.below.size; (try simp at hq); omega); (try have hxW : w.heap.size + 2 < w1.heap.size := by have hq := hbW.below.size; (try simp at hq); omega))
    go_ret
    exact ⟨rfl, by repeat (first | exact Gr.refl _ | refine Gr.alloc ?_ _ | refine Gr.trans ?_ (by assumption) | refine Gr.drew ?_ | refine Gr.drewN ?_ _ | refine Gr.grow ?_ _ | refine Gr.setCell ?_ (by (try simp); (try omega)) _)⟩
  · have H := Lib.hid (Try.iArePlates w B _ ps true (okB_i ps _ hg) hl h)
    clear h hg
    go_enter Try.func66, Try.ntmps66
    go_wp2_with (first | (go_at_call 57; refine (H.out).mono ?_; rintro e w1 ⟨rfl, hbW⟩; have hcW := (bcell hbW.below).1; have hfW := (bcell hbW.below).2; (try have hzW : w.heap.size < w1.heap.size := by have hq := hbW.below.size; (try simp at hq); omega); (try have hyW : w.heap.size + 1 < w1.heap.size := by have hq := hbW.below.size; (try simp at hq); omega); (try have hxW : w.heap.size + 2 < w1.heap.size := by have hq := hbW.below.size; (try simp at hq); omega)) | (go_at_call 69; refine (Try.within _ _ _ _ rfl _).mono ?_; rintro e w1 ⟨rfl, rfl⟩))
    go_ret
    exact ⟨rfl, by repeat (first | exact Gr.refl _ | refine Gr.alloc ?_ _ | refine Gr.trans ?_ (by assumption) | refine Gr.drew ?_ | refine Gr.drewN ?_ _ | refine Gr.grow ?_ _ | refine Gr.setCell ?_ (by (try simp); (try omega)) _)⟩
end Go.Proofs
