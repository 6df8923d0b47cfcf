/-
  Contracts of chapter 5: boxes of people (impl.haveBoxes).
-/
import Derived.Test.YtkhjjafeoijaaaaMdG
import Derived.Test.YtkhjjafeoijaaaaHsA
namespace Go.Proofs
open Go.RowKit
set_option linter.unusedVariables false
set_option linter.unusedSimpArgs false
set_option maxHeartbeats 800000 in
theorem Try.haveBoxes (w : World) (B B2 : Nat) (v v2 : Value) (xs bs : List Int) (b : Bool) (hb : b = true ↔ BoxesP xs bs) (hl : xs.length ≤ 1048576) (hl2 : bs.length ≤ 1048576) (h : OwnI w B v xs) (h2 : OwnI w B2 v2 bs) :
    Calls Try.prog 37 #[v, v2] w fun e w' => e = .returned (.bool b) ∧ Gr w w' := by
  obtain ⟨A, c, rfl, h⟩ := h.eta
  obtain ⟨A2, c2, rfl, h2⟩ := h2.eta
  by_cases hg : GoodP xs
  · have HG := Lib.hid (Try.iArePeople w B _ xs true ⟨fun _ => hg, fun _ => rfl⟩ hl h)
    cases hi : inn (bs.length : Int) 1 5
    · have HF := Lib.hid (not_true hb (fun q => by have := q.2.1; have := of_decide_eq_false hi; omega))
      have HI := Lib.hid hi
      clear h h2 hb hg hi
      go_enter Try.func37, Try.ntmps37
      go_wp2_with (first | (go_at_call 70; refine (HG.out).mono ?_; rintro e w1 ⟨rfl, hbW⟩; have hcW := (bcell hbW.below).1; have hfW := (bcell hbW.below).2; (try have hzW : w.heap.size < w1.heap.size := by have hq := hbW.below.size; (try simp at hq); omega); (try have hyW : w.heap.size + 1 < w1.heap.size := by have hq := hbW.below.size; (try simp at hq); omega); (try have hxW : w.heap.size + 2 < w1.heap.size := by have hq := hbW.below.size; (try simp at hq); omega)) | (go_at_call 71; refine (Try.within _ _ _ _ HI.out _).mono ?_; rintro e w1 ⟨rfl, rfl⟩))
      go_ret
      exact ⟨by rw [HF.out]; rfl, by repeat (first | exact Gr.refl _ | refine Gr.alloc ?_ _ | refine Gr.trans ?_ (by assumption) | refine Gr.drew ?_ | refine Gr.drewN ?_ _ | refine Gr.grow ?_ _ | refine Gr.setCell ?_ (by (try simp); (try omega)) _)⟩
    · obtain ⟨r, hr⟩ := exb (RisI bs 0 ((xs.length : Int) - 1))
      have hi' := inn_e hi
      have hxl := hg.1
      have HR := Lib.hid (fun w1 (g : Gr w w1) => Try.areHousesOf w1 B2 _ bs (xs.length : Int) r hr (by omega) (by omega) hl2 (h2.gr g))
      have HI := Lib.hid hi
      have HE := Lib.hid (show b = r by
        cases q : r
        · exact not_true hb (fun c => by have := hr.2 c.2.2; rw [q] at this; cases this)
        · exact hb.2 ⟨hg, by omega, hr.1 q⟩)
      clear h h2 hb hg hi hr
      go_enter Try.func37, Try.ntmps37
      go_wp2_with (first | (go_at_call 70; refine (HG.out).mono ?_; rintro e w1 ⟨rfl, hbW⟩; have hcW := (bcell hbW.below).1; have hfW := (bcell hbW.below).2; (try have hzW : w.heap.size < w1.heap.size := by have hq := hbW.below.size; (try simp at hq); omega); (try have hyW : w.heap.size + 1 < w1.heap.size := by have hq := hbW.below.size; (try simp at hq); omega); (try have hxW : w.heap.size + 2 < w1.heap.size := by have hq := hbW.below.size; (try simp at hq); omega)) | (go_at_call 71; refine (Try.within _ _ _ _ HI.out _).mono ?_; rintro e w1 ⟨rfl, rfl⟩) | (go_at_call 72; refine (HR.out _ (by assumption)).mono ?_; rintro e w1 ⟨rfl, hbW⟩; have hcW := (bcell hbW.below).1; have hfW := (bcell hbW.below).2; (try have hzW : w.heap.size < w1.heap.size := by have hq := hbW.below.size; (try simp at hq); omega); (try have hyW : w.heap.size + 1 < w1.heap.size := by have hq := hbW.below.size; (try simp at hq); omega); (try have hxW : w.heap.size + 2 < w1.heap.size := by have hq := hbW.below.size; (try simp at hq); omega)))
      go_ret
      exact ⟨by rw [HE.out]; rfl, by repeat (first | exact Gr.refl _ | refine Gr.alloc ?_ _ | refine Gr.trans ?_ (by assumption) | refine Gr.drew ?_ | refine Gr.drewN ?_ _ | refine Gr.grow ?_ _ | refine Gr.setCell ?_ (by (try simp); (try omega)) _)⟩
  · have HG := Lib.hid (Try.iArePeople w B _ xs false ⟨fun q => (by cases q), fun q => absurd q hg⟩ hl h)
    have HF := Lib.hid (not_true hb (fun q => hg q.1))
    clear h h2 hb hg
    go_enter Try.func37, Try.ntmps37
    go_wp2_with (first | (go_at_call 70; refine (HG.out).mono ?_; rintro e w1 ⟨rfl, hbW⟩; have hcW := (bcell hbW.below).1; have hfW := (bcell hbW.below).2; (try have hzW : w.heap.size < w1.heap.size := by have hq := hbW.below.size; (try simp at hq); omega); (try have hyW : w.heap.size + 1 < w1.heap.size := by have hq := hbW.below.size; (try simp at hq); omega); (try have hxW : w.heap.size + 2 < w1.heap.size := by have hq := hbW.below.size; (try simp at hq); omega)))
    go_ret
    exact ⟨by rw [HF.out]; rfl, by repeat (first | exact Gr.refl _ | refine Gr.alloc ?_ _ | refine Gr.trans ?_ (by assumption) | refine Gr.drew ?_ | refine Gr.drewN ?_ _ | refine Gr.grow ?_ _ | refine Gr.setCell ?_ (by (try simp); (try omega)) _)⟩
end Go.Proofs
