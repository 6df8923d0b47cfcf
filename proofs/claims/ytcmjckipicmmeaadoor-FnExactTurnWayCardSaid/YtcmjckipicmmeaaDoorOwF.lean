/-
  Chapter 6: texts of ways, both functions.
-/
import Derived.Test.YtcmjckipicmmeaaDoorOwE
namespace Go.Proofs
open Go.RowKit
set_option linter.unusedVariables false
set_option linter.unusedSimpArgs false
set_option maxHeartbeats 800000 in
theorem Tryd.sWaysText (w : World) (s a : ByteArray) (hs : s.size ≤ maxLen) (ha : a.size ≤ maxLen) (b : Bool) (hb : okW s a = b) (v : ByteArray) (hv : (if b then s ++ ⟨#[47]⟩ ++ a else ⟨#[]⟩) = v) :
    Calls Tryd.prog 36 #[.agg #[.string s, .string a]] w fun e w' => e = .returned (.tuple #[.string v, .bool b]) ∧ Gr w w' := by
  subst hv
  have H1 := Lib.hid (fun (W : World) => Tryd.owGood W s a hs ha b hb)
  cases b
  · clear hs ha hb
    go_enter Tryd.func36, Tryd.ntmps36
    go_wp2_with (first | (go_at_call 40; refine (H1.out _).mono ?_; rintro e w1 ⟨rfl, hbW⟩; have hcW := (bcell hbW.below).1; have hfW := (bcell hbW.below).2; (try have hzW : w.heap.size < w1.heap.size := by have hq := hbW.below.size; (try simp at hq); omega); (try have hyW : w.heap.size + 1 < w1.heap.size := by have hq := hbW.below.size; (try simp at hq); omega); (try have hxW : w.heap.size + 2 < w1.heap.size := by have hq := hbW.below.size; (try simp at hq); omega)))
    go_ret2
    exact ⟨rfl, by repeat (first | exact Gr.refl _ | refine Gr.alloc ?_ _ | refine Gr.trans ?_ (by assumption) | refine Gr.drew ?_ | refine Gr.drewN ?_ _ | refine Gr.grow ?_ _ | refine Gr.setCell ?_ (by (try simp); (try omega)) _)⟩
  · obtain ⟨h1, h2⟩ := okW_and hb
    have l1 := (okT_len h1).2
    have l2 := (okT_len h2).2
    have hadd := fun W => run_string_add (P := Tryd.prog) (w := W) s ⟨#[47]⟩ (by omega) (by have : (⟨#[47]⟩ : ByteArray).size = 1 := rfl; omega)
    have hz : (s ++ ⟨#[47]⟩ : ByteArray).size ≤ 9 := by rw [ByteArray.size_append]; have : (⟨#[47]⟩ : ByteArray).size = 1 := rfl; omega
    have hadd2 := fun W => run_string_add (P := Tryd.prog) (w := W) (s ++ ⟨#[47]⟩) a (by omega) (by omega)
    clear hs ha hb h1 h2 l1 l2 hz
    go_enter Tryd.func36, Tryd.ntmps36
    go_wp2_with (first | (go_at_call 40; refine (H1.out _).mono ?_; rintro e w1 ⟨rfl, hbW⟩; have hcW := (bcell hbW.below).1; have hfW := (bcell hbW.below).2; (try have hzW : w.heap.size < w1.heap.size := by have hq := hbW.below.size; (try simp at hq); omega); (try have hyW : w.heap.size + 1 < w1.heap.size := by have hq := hbW.below.size; (try simp at hq); omega); (try have hxW : w.heap.size + 2 < w1.heap.size := by have hq := hbW.below.size; (try simp at hq); omega)))
    go_ret2
    exact ⟨rfl, by repeat (first | exact Gr.refl _ | refine Gr.alloc ?_ _ | refine Gr.trans ?_ (by assumption) | refine Gr.drew ?_ | refine Gr.drewN ?_ _ | refine Gr.grow ?_ _ | refine Gr.setCell ?_ (by (try simp); (try omega)) _)⟩
set_option maxHeartbeats 800000 in
theorem Tryd.iWaysText (w : World) (s a : ByteArray) (hs : s.size ≤ maxLen) (ha : a.size ≤ maxLen) (b : Bool) (hb : okW s a = b) (v : ByteArray) (hv : (if b then s ++ ⟨#[47]⟩ ++ a else ⟨#[]⟩) = v) :
    Calls Tryd.prog 37 #[.agg #[.string s, .string a]] w fun e w' => e = .returned (.tuple #[.string v, .bool b]) ∧ Gr w w' := by
  subst hv
  have H1 := Lib.hid (fun (W : World) => Tryd.iAreWays W s a hs ha b hb)
  cases b
  · clear hs ha hb
    go_enter Tryd.func37, Tryd.ntmps37
    go_wp2_with (first | (go_at_call 16; refine (H1.out _).mono ?_; rintro e w1 ⟨rfl, hbW⟩; have hcW := (bcell hbW.below).1; have hfW := (bcell hbW.below).2; (try have hzW : w.heap.size < w1.heap.size := by have hq := hbW.below.size; (try simp at hq); omega); (try have hyW : w.heap.size + 1 < w1.heap.size := by have hq := hbW.below.size; (try simp at hq); omega); (try have hxW : w.heap.size + 2 < w1.heap.size := by have hq := hbW.below.size; (try simp at hq); omega)))
    go_ret2
    exact ⟨rfl, by repeat (first | exact Gr.refl _ | refine Gr.alloc ?_ _ | refine Gr.trans ?_ (by assumption) | refine Gr.drew ?_ | refine Gr.drewN ?_ _ | refine Gr.grow ?_ _ | refine Gr.setCell ?_ (by (try simp); (try omega)) _)⟩
  · obtain ⟨h1, h2⟩ := okW_and hb
    have l1 := (okT_len h1).2
    have l2 := (okT_len h2).2
    have hadd := fun W => run_string_add (P := Tryd.prog) (w := W) s ⟨#[47]⟩ (by omega) (by have : (⟨#[47]⟩ : ByteArray).size = 1 := rfl; omega)
    have hz : (s ++ ⟨#[47]⟩ : ByteArray).size ≤ 9 := by rw [ByteArray.size_append]; have : (⟨#[47]⟩ : ByteArray).size = 1 := rfl; omega
    have hadd2 := fun W => run_string_add (P := Tryd.prog) (w := W) (s ++ ⟨#[47]⟩) a (by omega) (by omega)
    clear hs ha hb h1 h2 l1 l2 hz
    go_enter Tryd.func37, Tryd.ntmps37
    go_wp2_with (first | (go_at_call 16; refine (H1.out _).mono ?_; rintro e w1 ⟨rfl, hbW⟩; have hcW := (bcell hbW.below).1; have hfW := (bcell hbW.below).2; (try have hzW : w.heap.size < w1.heap.size := by have hq := hbW.below.size; (try simp at hq); omega); (try have hyW : w.heap.size + 1 < w1.heap.size := by have hq := hbW.below.size; (try simp at hq); omega); (try have hxW : w.heap.size + 2 < w1.heap.size := by have hq := hbW.below.size; (try simp at hq); omega)))
    go_ret2
    exact ⟨rfl, by repeat (first | exact Gr.refl _ | refine Gr.alloc ?_ _ | refine Gr.trans ?_ (by assumption) | refine Gr.drew ?_ | refine Gr.drewN ?_ _ | refine Gr.grow ?_ _ | refine Gr.setCell ?_ (by (try simp); (try omega)) _)⟩
end Go.Proofs
