/-
  Chapter 7: lists with bounds, both sides (spec.rwHouses, rwValues; impl.areUpTo, areValues); neighbours.
-/
import Derived.Test.YtjhpebihflcanaaHsA
import Derived.Test.YtjhpebihflcanaaNuF
import Derived.Test.YtjhpebihflcanaaShelf
import Derived.Lib.Small
import Derived.Shelf.SlCmpFuncs.MinMaxFunc
namespace Go.Proofs
open Go.RowKit
set_option linter.unusedVariables false
set_option linter.unusedSimpArgs false
theorem exbR (p : Prop) : ∃ b : Bool, b = true ↔ p := ⟨@decide p (Classical.propDecidable p), @decide_eq_true_iff p (Classical.propDecidable p)⟩
theorem not_trueR {b : Bool} {p : Prop} (hb : b = true ↔ p) (h : ¬ p) : b = false := by
  cases q : b
  · rfl
  · exact absurd (hb.1 q) h
theorem minOf_specR (xs : List Int) (k : Nat) (h0 : 0 < k) (hk : k ≤ xs.length) : (∀ j, j < k → Lib.minOf (xs.take k) ≤ xs.getD j 0) ∧ ∃ j, j < k ∧ Lib.minOf (xs.take k) = xs.getD j 0 := by
  induction k with
  | zero => omega
  | succ k ih =>
    rcases Nat.eq_zero_or_pos k with e | e
    · subst e
      rw [Lib.minOf_one]
      exact ⟨fun j hj => by rw [show j = 0 by omega]; exact Int.le_refl _, 0, by omega, rfl⟩
    · rw [Lib.minOf_step xs k e (by omega)]
      obtain ⟨a, j, hj, ej⟩ := ih e (by omega)
      refine ⟨fun i hi => ?_, ?_⟩
      · rcases Nat.lt_or_eq_of_le (Nat.le_of_lt_succ hi) with c | c
        · have := a i c; omega
        · subst c; omega
      · rcases Int.le_total (Lib.minOf (xs.take k)) (xs.getD k 0) with c | c
        · exact ⟨j, by omega, by rw [← ej]; omega⟩
        · exact ⟨k, by omega, by omega⟩
theorem maxOf_specR (xs : List Int) (k : Nat) (h0 : 0 < k) (hk : k ≤ xs.length) : (∀ j, j < k → xs.getD j 0 ≤ Lib.maxOf (xs.take k)) ∧ ∃ j, j < k ∧ Lib.maxOf (xs.take k) = xs.getD j 0 := by
  induction k with
  | zero => omega
  | succ k ih =>
    rcases Nat.eq_zero_or_pos k with e | e
    · subst e
      rw [Lib.maxOf_one]
      exact ⟨fun j hj => by rw [show j = 0 by omega]; exact Int.le_refl _, 0, by omega, rfl⟩
    · rw [Lib.maxOf_step xs k e (by omega)]
      obtain ⟨a, j, hj, ej⟩ := ih e (by omega)
      refine ⟨fun i hi => ?_, ?_⟩
      · rcases Nat.lt_or_eq_of_le (Nat.le_of_lt_succ hi) with c | c
        · have := a i c; omega
        · subst c; omega
      · rcases Int.le_total (Lib.maxOf (xs.take k)) (xs.getD k 0) with c | c
        · exact ⟨k, by omega, by omega⟩
        · exact ⟨j, by omega, by rw [← ej]; omega⟩
/-- one up to so many numbers, from 0 up to the greatest -/
def UpP (xs : List Int) (many gr : Int) : Prop := (1 ≤ xs.length ∧ (xs.length : Int) ≤ many) ∧ AllIn xs 0 gr
theorem all_minmax {xs : List Int} {gr : Int} (h0 : 1 ≤ xs.length) : AllIn xs 0 gr ↔ 0 ≤ Lib.minOf (xs.take xs.length) ∧ Lib.maxOf (xs.take xs.length) ≤ gr := by
  obtain ⟨a, i, hi, ei⟩ := minOf_specR xs xs.length h0 (Nat.le_refl _)
  obtain ⟨b, j, hj, ej⟩ := maxOf_specR xs xs.length h0 (Nat.le_refl _)
  constructor
  · intro g
    have := inn_e (g i hi)
    have := inn_e (g j hj)
    omega
  · rintro ⟨c, d⟩ l hl
    have := a l hl
    have := b l hl
    exact inn_t (by omega) (by omega)
set_option maxHeartbeats 800000 in
theorem Try.areUpTo (w : World) (B : Nat) (v : Value) (xs : List Int) (many gr : Int) (b : Bool) (hb : b = true ↔ UpP xs many gr) (hl : xs.length ≤ 1048576) (h : OwnI w B v xs) :
    Calls Try.prog 55 #[v, .int .i64 many, .int .i64 gr] w fun e w' => e = .returned (.bool b) ∧ Gr w w' := by
  have HB := Lib.hid hb
  cases h1 : inn (xs.length : Int) 1 many
  · have HF := Lib.hid (not_trueR hb (fun q => by have := q.1; have := of_decide_eq_false h1; omega))
    have H1 := Lib.hid h1
    obtain ⟨A, c, rfl, h⟩ := h.eta
    clear h1 hb h
    go_enter Try.func55, Try.ntmps55
    go_wp2_with (first | (go_at_call 39; refine (Try.within _ _ _ _ H1.out _).mono ?_; rintro e w1 ⟨rfl, rfl⟩))
    go_ret
    exact ⟨by rw [HF.out]; rfl, by repeat (first | exact Gr.refl _ | refine Gr.alloc ?_ _ | refine Gr.trans ?_ (by assumption) | refine Gr.drew ?_ | refine Gr.drewN ?_ _ | refine Gr.grow ?_ _ | refine Gr.setCell ?_ (by (try simp); (try omega)) _)⟩
  · have hl1 := inn_e h1
    have H1 := Lib.hid h1
    rcases h.view with ⟨rfl, _⟩ | ⟨hpos, g, c, rfl, _, _, _, hc, _⟩
    · simp at hl1
    · have gm := all_minmax (xs := xs) (gr := gr) (by omega)
      have HMI := Lib.hid (fun W (g' : Gr w W) => Try.slices_Min_int g 0 xs.length c xs W hpos (Nat.le_refl _) (by omega) (fun j hj => by rw [Nat.zero_add]; exact g'.keep2 (hc j hj)))
      have HMA := Lib.hid (fun W (g' : Gr w W) => Try.slices_Max_int g 0 xs.length c xs W hpos (Nat.le_refl _) (by omega) (fun j hj => by rw [Nat.zero_add]; exact g'.keep2 (hc j hj)))
      generalize Lib.minOf (xs.take xs.length) = mi at *
      generalize Lib.maxOf (xs.take xs.length) = ma at *
      clear h1 hb hc h
      by_cases hm : 0 ≤ mi
      · have HV := Lib.hid (show decide (ma ≤ gr) = b by
          cases q : b
          · exact decide_eq_false (fun c => by have := HB.out.2 ⟨by omega, gm.2 ⟨hm, c⟩⟩; rw [q] at this; cases this)
          · exact decide_eq_true (gm.1 (HB.out.1 q).2).2)
        clear gm
        go_enter Try.func55, Try.ntmps55
        go_wp2_with (first | (go_at_call 39; refine (Try.within _ _ _ _ H1.out _).mono ?_; rintro e w1 ⟨rfl, rfl⟩) | (go_at_call 63; refine (HMI.out _ (by repeat (first | exact Gr.refl _ | refine Gr.alloc ?_ _ | refine Gr.trans ?_ (by assumption) | refine Gr.drew ?_ | refine Gr.drewN ?_ _ | refine Gr.grow ?_ _ | refine Gr.setCell ?_ (by (try simp); (try omega)) _))).mono ?_; rintro e w1 ⟨rfl, rfl⟩) | (go_at_call 64; refine (HMA.out _ (by repeat (first | exact Gr.refl _ | refine Gr.alloc ?_ _ | refine Gr.trans ?_ (by assumption) | refine Gr.drew ?_ | refine Gr.drewN ?_ _ | refine Gr.grow ?_ _ | refine Gr.setCell ?_ (by (try simp); (try omega)) _))).mono ?_; rintro e w1 ⟨rfl, rfl⟩))
        go_ret
        exact ⟨by rw [← HV.out]; rfl, by repeat (first | exact Gr.refl _ | refine Gr.alloc ?_ _ | refine Gr.trans ?_ (by assumption) | refine Gr.drew ?_ | refine Gr.drewN ?_ _ | refine Gr.grow ?_ _ | refine Gr.setCell ?_ (by (try simp); (try omega)) _)⟩
      · have HF := Lib.hid (not_trueR HB.out (fun q => hm (gm.1 q.2).1))
        clear gm
        go_enter Try.func55, Try.ntmps55
        go_wp2_with (first | (go_at_call 39; refine (Try.within _ _ _ _ H1.out _).mono ?_; rintro e w1 ⟨rfl, rfl⟩) | (go_at_call 63; refine (HMI.out _ (by repeat (first | exact Gr.refl _ | refine Gr.alloc ?_ _ | refine Gr.trans ?_ (by assumption) | refine Gr.drew ?_ | refine Gr.drewN ?_ _ | refine Gr.grow ?_ _ | refine Gr.setCell ?_ (by (try simp); (try omega)) _))).mono ?_; rintro e w1 ⟨rfl, rfl⟩))
        go_ret
        exact ⟨by rw [HF.out]; rfl, by repeat (first | exact Gr.refl _ | refine Gr.alloc ?_ _ | refine Gr.trans ?_ (by assumption) | refine Gr.drew ?_ | refine Gr.drewN ?_ _ | refine Gr.grow ?_ _ | refine Gr.setCell ?_ (by (try simp); (try omega)) _)⟩
set_option maxHeartbeats 400000 in
theorem Try.rwHouses (n : Int) (v : Bool) (h : inn n 1 20 = v) (w : World) : Calls Try.prog 36 #[.int .i64 n] w fun e w' => e = .returned (.bool v) ∧ w = w' := by
  go_enter Try.func36, Try.ntmps36
  go_wp2_with (first | (go_at_call 37; refine (Try.l1In _ _ _ _ h _).mono ?_; rintro e w1 ⟨rfl, rfl⟩))
  go_ret
  exact ⟨rfl, rfl⟩
set_option maxHeartbeats 800000 in
theorem Try.areValues (w : World) (B : Nat) (v : Value) (xs : List Int) (b : Bool) (hb : b = true ↔ UpP xs 20 1000) (hl : xs.length ≤ 1048576) (h : OwnI w B v xs) :
    Calls Try.prog 51 #[v] w fun e w' => e = .returned (.bool b) ∧ Gr w w' := by
  have HG := Lib.hid (Try.areUpTo w B v xs 20 1000 b hb hl h)
  clear h hb
  go_enter Try.func51, Try.ntmps51
  go_wp2_with (first | (go_at_call 55; refine (HG.out).mono ?_; rintro e w1 ⟨rfl, hbW⟩; have hcW := (bcell hbW.below).1; have hfW := (bcell hbW.below).2; (try have hzW : w.heap.size < w1.heap.size := by have hq := hbW.below.size; (try simp at hq); omega); (try have hyW : w.heap.size + 1 < w1.heap.size := by have hq := hbW.below.size; (try simp at hq); omega); (try have hxW : w.heap.size + 2 < w1.heap.size := by have hq := hbW.below.size; (try simp at hq); omega)))
  go_ret
  exact ⟨rfl, by repeat (first | exact Gr.refl _ | refine Gr.alloc ?_ _ | refine Gr.trans ?_ (by assumption) | refine Gr.drew ?_ | refine Gr.drewN ?_ _ | refine Gr.grow ?_ _ | refine Gr.setCell ?_ (by (try simp); (try omega)) _)⟩
/-- the model's two tests of a list: its length, its numbers -/
theorem upP_model {xs : List Int} {gr : Int} {b : Bool} (hb : b = true ↔ UpP xs 20 gr) : (inn (xs.length : Int) 1 20 = false ∧ b = false) ∨ (inn (xs.length : Int) 1 20 = true ∧ (b = true ↔ AllIn xs 0 gr)) := by
  cases h : inn (xs.length : Int) 1 20
  · exact .inl ⟨rfl, not_trueR hb (fun q => by have := q.1; have := of_decide_eq_false h; omega)⟩
  · have := inn_e h
    exact .inr ⟨rfl, ⟨fun q => (hb.1 q).2, fun q => hb.2 ⟨by omega, q⟩⟩⟩
set_option maxHeartbeats 800000 in
theorem Try.rwValues (w : World) (B : Nat) (v : Value) (xs : List Int) (b : Bool) (hb : b = true ↔ UpP xs 20 1000) (hl : xs.length ≤ 1048576) (h : OwnI w B v xs) :
    Calls Try.prog 41 #[v] w fun e w' => e = .returned (.bool b) ∧ Gr w w' := by
  obtain ⟨A, c, rfl, h⟩ := h.eta
  rcases upP_model hb with ⟨h1, rfl⟩ | ⟨h1, h2⟩
  · have H1 := Lib.hid h1
    clear h hb h1
    go_enter Try.func41, Try.ntmps41
    go_wp2_with (first | (go_at_call 36; refine (Try.rwHouses _ _ H1.out _).mono ?_; rintro e w1 ⟨rfl, rfl⟩))
    go_ret
    exact ⟨rfl, by repeat (first | exact Gr.refl _ | refine Gr.alloc ?_ _ | refine Gr.trans ?_ (by assumption) | refine Gr.drew ?_ | refine Gr.drewN ?_ _ | refine Gr.grow ?_ _ | refine Gr.setCell ?_ (by (try simp); (try omega)) _)⟩
  · have H1 := Lib.hid h1
    have HG := Lib.hid (Try.l1All w B _ xs 0 1000 b h2 hl h)
    clear h hb h1 h2
    go_enter Try.func41, Try.ntmps41
    go_wp2_with (first | (go_at_call 36; refine (Try.rwHouses _ _ H1.out _).mono ?_; rintro e w1 ⟨rfl, rfl⟩) | (go_at_call 45; refine (HG.out).mono ?_; rintro e w1 ⟨rfl, hbW⟩; have hcW := (bcell hbW.below).1; have hfW := (bcell hbW.below).2; (try have hzW : w.heap.size < w1.heap.size := by have hq := hbW.below.size; (try simp at hq); omega); (try have hyW : w.heap.size + 1 < w1.heap.size := by have hq := hbW.below.size; (try simp at hq); omega); (try have hxW : w.heap.size + 2 < w1.heap.size := by have hq := hbW.below.size; (try simp at hq); omega)))
    go_ret
    exact ⟨rfl, by repeat (first | exact Gr.refl _ | refine Gr.alloc ?_ _ | refine Gr.trans ?_ (by assumption) | refine Gr.drew ?_ | refine Gr.drewN ?_ _ | refine Gr.grow ?_ _ | refine Gr.setCell ?_ (by (try simp); (try omega)) _)⟩
end Go.Proofs
