/-
  Lists with bounds (impl.areUpTo; out of RwA).
-/
import Derived.Test.YtjocipddffillaaNuFb
import Derived.Test.YtjocipddffillaaInts2
import Derived.Test.YtjocipddffillaaShelf
import Derived.Lib.Small
import Derived.Shelf.SlCmpFuncs.MinMaxFunc
namespace Go.Proofs
open Go.RowKit
set_option linter.unusedVariables false
set_option linter.unusedSimpArgs false
theorem exbR (p : Prop) : ∃ b : Bool, b = true ↔ p := ⟨@decide p (Classical.propDecidable p), @decide_eq_true_iff p (Classical.propDecidable p)⟩
theorem not_trueR {b : Bool} {p : Prop} (hb : b = true ↔ p) (h : ¬ p) : b = false := by
  cases q : b
  · rfl
  · exact absurd (hb.1 q) h
theorem minOf_specR (xs : List Int) (k : Nat) (h0 : 0 < k) (hk : k ≤ xs.length) : (∀ j, j < k → Lib.minOf (xs.take k) ≤ xs.getD j 0) ∧ ∃ j, j < k ∧ Lib.minOf (xs.take k) = xs.getD j 0 := by
  induction k with
  | zero => omega
  | succ k ih =>
    rcases Nat.eq_zero_or_pos k with e | e
    · subst e
      rw [Lib.minOf_one]
      exact ⟨fun j hj => by rw [show j = 0 by omega]; exact Int.le_refl _, 0, by omega, rfl⟩
    · rw [Lib.minOf_step xs k e (by omega)]
      obtain ⟨a, j, hj, ej⟩ := ih e (by omega)
      refine ⟨fun i hi => ?_, ?_⟩
      · rcases Nat.lt_or_eq_of_le (Nat.le_of_lt_succ hi) with c | c
        · have := a i c; omega
        · subst c; omega
      · rcases Int.le_total (Lib.minOf (xs.take k)) (xs.getD k 0) with c | c
        · exact ⟨j, by omega, by rw [← ej]; omega⟩
        · exact ⟨k, by omega, by omega⟩
theorem maxOf_specR (xs : List Int) (k : Nat) (h0 : 0 < k) (hk : k ≤ xs.length) : (∀ j, j < k → xs.getD j 0 ≤ Lib.maxOf (xs.take k)) ∧ ∃ j, j < k ∧ Lib.maxOf (xs.take k) = xs.getD j 0 := by
  induction k with
  | zero => omega
  | succ k ih =>
    rcases Nat.eq_zero_or_pos k with e | e
    · subst e
      rw [Lib.maxOf_one]
      exact ⟨fun j hj => by rw [show j = 0 by omega]; exact Int.le_refl _, 0, by omega, rfl⟩
    · rw [Lib.maxOf_step xs k e (by omega)]
      obtain ⟨a, j, hj, ej⟩ := ih e (by omega)
      refine ⟨fun i hi => ?_, ?_⟩
      · rcases Nat.lt_or_eq_of_le (Nat.le_of_lt_succ hi) with c | c
        · have := a i c; omega
        · subst c; omega
      · rcases Int.le_total (Lib.maxOf (xs.take k)) (xs.getD k 0) with c | c
        · exact ⟨k, by omega, by omega⟩
        · exact ⟨j, by omega, by rw [← ej]; omega⟩
/-- one up to so many numbers, from 0 up to the greatest -/
def UpP (xs : List Int) (many gr : Int) : Prop := (1 ≤ xs.length ∧ (xs.length : Int) ≤ many) ∧ AllIn xs 0 gr
theorem all_minmax {xs : List Int} {gr : Int} (h0 : 1 ≤ xs.length) : AllIn xs 0 gr ↔ 0 ≤ Lib.minOf (xs.take xs.length) ∧ Lib.maxOf (xs.take xs.length) ≤ gr := by
  obtain ⟨a, i, hi, ei⟩ := minOf_specR xs xs.length h0 (Nat.le_refl _)
  obtain ⟨b, j, hj, ej⟩ := maxOf_specR xs xs.length h0 (Nat.le_refl _)
  constructor
  · intro g
    have := inn_e (g i hi)
    have := inn_e (g j hj)
    omega
  · rintro ⟨c, d⟩ l hl
    have := a l hl
    have := b l hl
    exact inn_t (by omega) (by omega)
set_option maxHeartbeats 800000 in
theorem Try.areUpTo (w : World) (B : Nat) (v : Value) (xs : List Int) (many gr : Int) (b : Bool) (hb : b = true ↔ UpP xs many gr) (hl : xs.length ≤ 1048576) (h : OwnI w B v xs) :
    Calls Try.prog 80 #[v, .int .i64 many, .int .i64 gr] w fun e w' => e = .returned (.bool b) ∧ Gr w w' := by
  have HB := Lib.hid hb
  cases h1 : inn (xs.length : Int) 1 many
  · have HF := Lib.hid (not_trueR hb (fun q => by have := q.1; have := of_decide_eq_false h1; omega))
    have H1 := Lib.hid h1
    obtain ⟨A, c, rfl, h⟩ := h.eta
    clear h1 hb h
    go_enter Try.func80, Try.ntmps80
    go_wp2_with (first | (go_at_call 52; refine (Try.within _ _ _ _ H1.out _).mono ?_; rintro e w1 ⟨rfl, rfl⟩))
    go_ret
    exact ⟨by rw [HF.out]; rfl, by repeat (first | exact Gr.refl _ | refine Gr.alloc ?_ _ | refine Gr.trans ?_ (by assumption) | refine Gr.drew ?_ | refine Gr.drewN ?_ _ | refine Gr.grow ?_ _ | refine Gr.setCell ?_ (by (try simp); (try omega)) _)⟩
  · have hl1 := inn_e h1
    have H1 := Lib.hid h1
    rcases h.view with ⟨rfl, _⟩ | ⟨hpos, g, c, rfl, _, _, _, hc, _⟩
    · simp at hl1
    · have gm := all_minmax (xs := xs) (gr := gr) (by omega)
      have HMI := Lib.hid (fun W (g' : Gr w W) => Try.slices_Min_int g 0 xs.length c xs W hpos (Nat.le_refl _) (by omega) (fun j hj => by rw [Nat.zero_add]; exact g'.keep2 (hc j hj)))
      have HMA := Lib.hid (fun W (g' : Gr w W) => Try.slices_Max_int g 0 xs.length c xs W hpos (Nat.le_refl _) (by omega) (fun j hj => by rw [Nat.zero_add]; exact g'.keep2 (hc j hj)))
      generalize Lib.minOf (xs.take xs.length) = mi at *
      generalize Lib.maxOf (xs.take xs.length) = ma at *
      clear h1 hb hc h
      by_cases hm : 0 ≤ mi
      · have HV := Lib.hid (show decide (ma ≤ gr) = b by
          cases q : b
          · exact decide_eq_false (fun c => by have := HB.out.2 ⟨by omega, gm.2 ⟨hm, c⟩⟩; rw [q] at this; cases this)
          · exact decide_eq_true (gm.1 (HB.out.1 q).2).2)
        clear gm
        go_enter Try.func80, Try.ntmps80
        go_wp2_with (first | (go_at_call 52; refine (Try.within _ _ _ _ H1.out _).mono ?_; rintro e w1 ⟨rfl, rfl⟩) | (go_at_call 99; refine (HMI.out _ (by repeat (first | exact Gr.refl _ | refine Gr.alloc ?_ _ | refine Gr.trans ?_ (by assumption) | refine Gr.drew ?_ | refine Gr.drewN ?_ _ | refine Gr.grow ?_ _ | refine Gr.setCell ?_ (by (try simp); (try omega)) _))).mono ?_; rintro e w1 ⟨rfl, rfl⟩) | (go_at_call 66; refine (HMA.out _ (by repeat (first | exact Gr.refl _ | refine Gr.alloc ?_ _ | refine Gr.trans ?_ (by assumption) | refine Gr.drew ?_ | refine Gr.drewN ?_ _ | refine Gr.grow ?_ _ | refine Gr.setCell ?_ (by (try simp); (try omega)) _))).mono ?_; rintro e w1 ⟨rfl, rfl⟩))
        go_ret
        exact ⟨by rw [← HV.out]; rfl, by repeat (first | exact Gr.refl _ | refine Gr.alloc ?_ _ | refine Gr.trans ?_ (by assumption) | refine Gr.drew ?_ | refine Gr.drewN ?_ _ | refine Gr.grow ?_ _ | refine Gr.setCell ?_ (by (try simp); (try omega)) _)⟩
      · have HF := Lib.hid (not_trueR HB.out (fun q => hm (gm.1 q.2).1))
        clear gm
        go_enter Try.func80, Try.ntmps80
        go_wp2_with (first | (go_at_call 52; refine (Try.within _ _ _ _ H1.out _).mono ?_; rintro e w1 ⟨rfl, rfl⟩) | (go_at_call 99; refine (HMI.out _ (by repeat (first | exact Gr.refl _ | refine Gr.alloc ?_ _ | refine Gr.trans ?_ (by assumption) | refine Gr.drew ?_ | refine Gr.drewN ?_ _ | refine Gr.grow ?_ _ | refine Gr.setCell ?_ (by (try simp); (try omega)) _))).mono ?_; rintro e w1 ⟨rfl, rfl⟩))
        go_ret
        exact ⟨by rw [HF.out]; rfl, by repeat (first | exact Gr.refl _ | refine Gr.alloc ?_ _ | refine Gr.trans ?_ (by assumption) | refine Gr.drew ?_ | refine Gr.drewN ?_ _ | refine Gr.grow ?_ _ | refine Gr.setCell ?_ (by (try simp); (try omega)) _)⟩
end Go.Proofs
