/-
  Contracts of chapter 2: the plate of a list that gets a number.
-/
import Derived.Test.YtbnkhmemicmadabPlK
namespace Go.Proofs
open Go.RowKit Pl
set_option linter.unusedVariables false
set_option linter.unusedSimpArgs false
def opB (ps : List Pi2) (k : Int) : Bool := okB ps && inn k 1 (ps.length : Int)
def opV (ps : List Pi2) (k : Int) : Int × Int := if opB ps k then ps.getD (k - 1).toNat (0, 0) else (0, 0)
set_option maxHeartbeats 800000 in
theorem Try.sOldPlate (w : World) (B : Nat) (v : Value) (ps : List Pi2) (k : Int) (hl : ps.length ≤ 1048576) (h : OwnP 34 w B v ps) :
    Calls Try.prog 33 #[v, .int .i64 k] w fun e w' => e = .returned (.tuple #[.agg #[.int .i64 (opV ps k).1, .int .i64 (opV ps k).2], .bool (opB ps k)]) ∧ Gr w w' := by
  have h0 := h.gr (Gr.alloc (Gr.refl w) (.cells #[.int .i64 0, .int .i64 0] 34))
  cases hq : opB ps k
  · rw [show opV ps k = (0, 0) by simp [opV, hq]]
    unfold opB at hq
    cases hg : okB ps
    · have HA := Lib.hid (Try.isGood _ B v ps false (okB_i ps _ hg) hl h0)
      obtain ⟨A, c, rfl, h⟩ := h.eta
      clear h hq h0 hg
      go_enter Try.func33, Try.ntmps33
      go_wp2_with (go_at_call 42; refine (HA.out).mono ?_; rintro e w1 ⟨rfl, hbW⟩; have hcW := (bcell hbW.below).1; have hfW := (bcell hbW.below).2; (try have hzW : w.heap.size < w1.heap.size := by have hq := hbW.below.size; (try simp at hq); omega); (try have hyW : w.heap.size + 1 < w1.heap.size := by have hq := hbW.below.size; (try simp at hq); omega); (try have hxW : w.heap.size + 2 < w1.heap.size := by have hq := hbW.below.size; (try simp at hq); omega))
      exact bodyPost_ret (v := .tuple #[.agg #[.int .i64 0, .int .i64 0], .bool false]) (by simp [results, Try.results33, go_sem, *]) rfl ⟨rfl, by repeat (first | exact Gr.refl _ | refine Gr.alloc ?_ _ | refine Gr.trans ?_ (by assumption) | refine Gr.drew ?_ | refine Gr.drewN ?_ _ | refine Gr.grow ?_ _ | refine Gr.setCell ?_ (by (try simp); (try omega)) _)⟩
    · have HA := Lib.hid (Try.isGood _ B v ps true (okB_i ps _ hg) hl h0)
      have HI := Lib.hid (show inn k 1 (ps.length : Int) = false by simpa [hg] using hq)
      obtain ⟨A, c, rfl, h⟩ := h.eta
      clear h hq h0 hg
      go_enter Try.func33, Try.ntmps33
      go_wp2_with (first | (go_at_call 42; refine (HA.out).mono ?_; rintro e w1 ⟨rfl, hbW⟩; have hcW := (bcell hbW.below).1; have hfW := (bcell hbW.below).2; (try have hzW : w.heap.size < w1.heap.size := by have hq := hbW.below.size; (try simp at hq); omega); (try have hyW : w.heap.size + 1 < w1.heap.size := by have hq := hbW.below.size; (try simp at hq); omega); (try have hxW : w.heap.size + 2 < w1.heap.size := by have hq := hbW.below.size; (try simp at hq); omega)) | (go_at_call 47; refine (Try.l1In _ _ _ _ HI.out _).mono ?_; rintro e w1 ⟨rfl, rfl⟩))
      exact bodyPost_ret (v := .tuple #[.agg #[.int .i64 0, .int .i64 0], .bool false]) (by simp [results, Try.results33, go_sem, *]) rfl ⟨rfl, by repeat (first | exact Gr.refl _ | refine Gr.alloc ?_ _ | refine Gr.trans ?_ (by assumption) | refine Gr.drew ?_ | refine Gr.drewN ?_ _ | refine Gr.grow ?_ _ | refine Gr.setCell ?_ (by (try simp); (try omega)) _)⟩
  · rw [show opV ps k = ps.getD (k - 1).toNat (0, 0) by simp [opV, hq]]
    unfold opB at hq
    obtain ⟨hg, hi⟩ : okB ps = true ∧ inn k 1 (ps.length : Int) = true := by simpa using hq
    have HA := Lib.hid (Try.isGood _ B v ps true (okB_i ps _ hg) hl h0)
    have HI := Lib.hid hi
    obtain ⟨i0, i1⟩ := inn_e hi
    obtain ⟨m, hm⟩ : ∃ m : Nat, k = (m : Int) + 1 := ⟨(k - 1).toNat, by omega⟩
    have hm2 : (k - 1).toNat = m := by omega
    rw [hm2]
    rcases h.view with ⟨hz, _⟩ | ⟨_, g, c, rfl, _, g2, _, _, hc, _⟩
    · subst hz; simp at i1; omega
    · have hml : m < ps.length := by omega
      obtain ⟨f0, f1⟩ := hc m hml
      generalize (ps.getD m (0, 0)).1 = x0 at *
      generalize (ps.getD m (0, 0)).2 = x1 at *
      subst hm
      have w1 : (m : Int) + 1 - 1 = (m : Int) := by omega
      have z0 : (0 : Int) ≤ (m : Int) := by omega
      have z1 : (m : Int) < (ps.length : Int) := by omega
      clear h hc hq h0 hg hi hm2 i0 i1
      go_enter Try.func33, Try.ntmps33
      go_wp2_with (first | (go_at_call 42; refine (HA.out).mono ?_; rintro e w1 ⟨rfl, hbW⟩; have hcW := (bcell hbW.below).1; have hfW := (bcell hbW.below).2; (try have hzW : w.heap.size < w1.heap.size := by have hq := hbW.below.size; (try simp at hq); omega); (try have hyW : w.heap.size + 1 < w1.heap.size := by have hq := hbW.below.size; (try simp at hq); omega); (try have hxW : w.heap.size + 2 < w1.heap.size := by have hq := hbW.below.size; (try simp at hq); omega)) | (go_at_call 47; refine (Try.l1In _ _ _ _ HI.out _).mono ?_; rintro e w1 ⟨rfl, rfl⟩))
      exact bodyPost_ret (v := .tuple #[.agg #[.int .i64 x0, .int .i64 x1], .bool true]) (by simp [results, Try.results33, go_sem, *]) rfl ⟨rfl, by repeat (first | exact Gr.refl _ | refine Gr.alloc ?_ _ | refine Gr.trans ?_ (by assumption) | refine Gr.drew ?_ | refine Gr.drewN ?_ _ | refine Gr.grow ?_ _ | refine Gr.setCell ?_ (by (try simp); (try omega)) _)⟩
set_option maxHeartbeats 800000 in
theorem Try.iOldPlate (w : World) (B : Nat) (v : Value) (ps : List Pi2) (k : Int) (hl : ps.length ≤ 1048576) (h : OwnP 34 w B v ps) :
    Calls Try.prog 34 #[v, .int .i64 k] w fun e w' => e = .returned (.tuple #[.agg #[.int .i64 (opV ps k).1, .int .i64 (opV ps k).2], .bool (opB ps k)]) ∧ Gr w w' := by
  have h0 := h.gr (Gr.alloc (Gr.refl w) (.cells #[.int .i64 0, .int .i64 0] 34))
  cases hq : opB ps k
  · rw [show opV ps k = (0, 0) by simp [opV, hq]]
    unfold opB at hq
    cases hg : okB ps
    · have HA := Lib.hid (Try.iArePlates _ B v ps false (okB_i ps _ hg) hl h0)
      obtain ⟨A, c, rfl, h⟩ := h.eta
      clear h hq h0 hg
      go_enter Try.func34, Try.ntmps34
      go_wp2_with (go_at_call 46; refine (HA.out).mono ?_; rintro e w1 ⟨rfl, hbW⟩; have hcW := (bcell hbW.below).1; have hfW := (bcell hbW.below).2; (try have hzW : w.heap.size < w1.heap.size := by have hq := hbW.below.size; (try simp at hq); omega); (try have hyW : w.heap.size + 1 < w1.heap.size := by have hq := hbW.below.size; (try simp at hq); omega); (try have hxW : w.heap.size + 2 < w1.heap.size := by have hq := hbW.below.size; (try simp at hq); omega))
      exact bodyPost_ret (v := .tuple #[.agg #[.int .i64 0, .int .i64 0], .bool false]) (by simp [results, Try.results34, go_sem, *]) rfl ⟨rfl, by repeat (first | exact Gr.refl _ | refine Gr.alloc ?_ _ | refine Gr.trans ?_ (by assumption) | refine Gr.drew ?_ | refine Gr.drewN ?_ _ | refine Gr.grow ?_ _ | refine Gr.setCell ?_ (by (try simp); (try omega)) _)⟩
    · have HA := Lib.hid (Try.iArePlates _ B v ps true (okB_i ps _ hg) hl h0)
      have HI := Lib.hid (show inn k 1 (ps.length : Int) = false by simpa [hg] using hq)
      obtain ⟨A, c, rfl, h⟩ := h.eta
      clear h hq h0 hg
      go_enter Try.func34, Try.ntmps34
      go_wp2_with (first | (go_at_call 46; refine (HA.out).mono ?_; rintro e w1 ⟨rfl, hbW⟩; have hcW := (bcell hbW.below).1; have hfW := (bcell hbW.below).2; (try have hzW : w.heap.size < w1.heap.size := by have hq := hbW.below.size; (try simp at hq); omega); (try have hyW : w.heap.size + 1 < w1.heap.size := by have hq := hbW.below.size; (try simp at hq); omega); (try have hxW : w.heap.size + 2 < w1.heap.size := by have hq := hbW.below.size; (try simp at hq); omega)) | (go_at_call 49; refine (Try.within _ _ _ _ HI.out _).mono ?_; rintro e w1 ⟨rfl, rfl⟩))
      exact bodyPost_ret (v := .tuple #[.agg #[.int .i64 0, .int .i64 0], .bool false]) (by simp [results, Try.results34, go_sem, *]) rfl ⟨rfl, by repeat (first | exact Gr.refl _ | refine Gr.alloc ?_ _ | refine Gr.trans ?_ (by assumption) | refine Gr.drew ?_ | refine Gr.drewN ?_ _ | refine Gr.grow ?_ _ | refine Gr.setCell ?_ (by (try simp); (try omega)) _)⟩
  · rw [show opV ps k = ps.getD (k - 1).toNat (0, 0) by simp [opV, hq]]
    unfold opB at hq
    obtain ⟨hg, hi⟩ : okB ps = true ∧ inn k 1 (ps.length : Int) = true := by simpa using hq
    have HA := Lib.hid (Try.iArePlates _ B v ps true (okB_i ps _ hg) hl h0)
    have HI := Lib.hid hi
    obtain ⟨i0, i1⟩ := inn_e hi
    obtain ⟨m, hm⟩ : ∃ m : Nat, k = (m : Int) + 1 := ⟨(k - 1).toNat, by omega⟩
    have hm2 : (k - 1).toNat = m := by omega
    rw [hm2]
    rcases h.view with ⟨hz, _⟩ | ⟨_, g, c, rfl, _, g2, _, _, hc, _⟩
    · subst hz; simp at i1; omega
    · have hml : m < ps.length := by omega
      obtain ⟨f0, f1⟩ := hc m hml
      generalize (ps.getD m (0, 0)).1 = x0 at *
      generalize (ps.getD m (0, 0)).2 = x1 at *
      subst hm
      have w1 : (m : Int) + 1 - 1 = (m : Int) := by omega
      have z0 : (0 : Int) ≤ (m : Int) := by omega
      have z1 : (m : Int) < (ps.length : Int) := by omega
      clear h hc hq h0 hg hi hm2 i0 i1
      go_enter Try.func34, Try.ntmps34
      go_wp2_with (first | (go_at_call 46; refine (HA.out).mono ?_; rintro e w1 ⟨rfl, hbW⟩; have hcW := (bcell hbW.below).1; have hfW := (bcell hbW.below).2; (try have hzW : w.heap.size < w1.heap.size := by have hq := hbW.below.size; (try simp at hq); omega); (try have hyW : w.heap.size + 1 < w1.heap.size := by have hq := hbW.below.size; (try simp at hq); omega); (try have hxW : w.heap.size + 2 < w1.heap.size := by have hq := hbW.below.size; (try simp at hq); omega)) | (go_at_call 49; refine (Try.within _ _ _ _ HI.out _).mono ?_; rintro e w1 ⟨rfl, rfl⟩))
      exact bodyPost_ret (v := .tuple #[.agg #[.int .i64 x0, .int .i64 x1], .bool true]) (by simp [results, Try.results34, go_sem, *]) rfl ⟨rfl, by repeat (first | exact Gr.refl _ | refine Gr.alloc ?_ _ | refine Gr.trans ?_ (by assumption) | refine Gr.drew ?_ | refine Gr.drewN ?_ _ | refine Gr.grow ?_ _ | refine Gr.setCell ?_ (by (try simp); (try omega)) _)⟩
end Go.Proofs
