/-
  Contracts of chapter 5, the program: people that are good, a house of people, boxes of people.
-/
import Derived.Test.YtkhjjafeoijaaaaMdE
namespace Go.Proofs
open Go.RowKit
set_option linter.unusedVariables false
set_option linter.unusedSimpArgs false
theorem minOf_spec (xs : List Int) (k : Nat) (h0 : 0 < k) (hk : k ≤ xs.length) : (∀ j, j < k → Lib.minOf (xs.take k) ≤ gx xs j) ∧ ∃ j, j < k ∧ Lib.minOf (xs.take k) = gx xs j := by
  induction k with
  | zero => omega
  | succ k ih =>
    rcases Nat.eq_zero_or_pos k with e | e
    · subst e
      rw [Lib.minOf_one]
      exact ⟨fun j hj => by rw [show j = 0 by omega]; exact Int.le_refl _, 0, by omega, rfl⟩
    · rw [Lib.minOf_step xs k e (by omega)]
      obtain ⟨a, j, hj, ej⟩ := ih e (by omega)
      have g : xs.getD k 0 = gx xs k := rfl
      rw [g]
      refine ⟨fun i hi => ?_, ?_⟩
      · rcases Nat.lt_or_eq_of_le (Nat.le_of_lt_succ hi) with c | c
        · have := a i c; omega
        · subst c; omega
      · rcases Int.le_total (Lib.minOf (xs.take k)) (gx xs k) with c | c
        · exact ⟨j, by omega, by rw [← ej]; omega⟩
        · exact ⟨k, by omega, by omega⟩
theorem maxOf_spec (xs : List Int) (k : Nat) (h0 : 0 < k) (hk : k ≤ xs.length) : (∀ j, j < k → gx xs j ≤ Lib.maxOf (xs.take k)) ∧ ∃ j, j < k ∧ Lib.maxOf (xs.take k) = gx xs j := by
  induction k with
  | zero => omega
  | succ k ih =>
    rcases Nat.eq_zero_or_pos k with e | e
    · subst e
      rw [Lib.maxOf_one]
      exact ⟨fun j hj => by rw [show j = 0 by omega]; exact Int.le_refl _, 0, by omega, rfl⟩
    · rw [Lib.maxOf_step xs k e (by omega)]
      obtain ⟨a, j, hj, ej⟩ := ih e (by omega)
      have g : xs.getD k 0 = gx xs k := rfl
      rw [g]
      refine ⟨fun i hi => ?_, ?_⟩
      · rcases Nat.lt_or_eq_of_le (Nat.le_of_lt_succ hi) with c | c
        · have := a i c; omega
        · subst c; omega
      · rcases Int.le_total (gx xs k) (Lib.maxOf (xs.take k)) with c | c
        · exact ⟨j, by omega, by rw [← ej]; omega⟩
        · exact ⟨k, by omega, by omega⟩
theorem good_minmax {xs : List Int} (h0 : 1 ≤ xs.length) (h1 : xs.length ≤ 60) : GoodP xs ↔ 0 ≤ Lib.minOf (xs.take xs.length) ∧ 1 ≤ Lib.maxOf (xs.take xs.length) ∧ Lib.maxOf (xs.take xs.length) ≤ 1000 := by
  obtain ⟨a, i, hi, ei⟩ := minOf_spec xs xs.length h0 (Nat.le_refl _)
  obtain ⟨b, j, hj, ej⟩ := maxOf_spec xs xs.length h0 (Nat.le_refl _)
  constructor
  · intro g
    obtain ⟨l, hl, pl⟩ := (sumF_pos (f := gx xs) (fun i _ => (g.bd i).1)).1 g.2.2
    have := g.bd i
    have := g.bd j
    have := b l hl
    omega
  · rintro ⟨c, d, e⟩
    have all : ∀ l, l < xs.length → 0 ≤ gx xs l ∧ gx xs l ≤ 1000 := fun l hl => by have := a l hl; have := b l hl; omega
    exact ⟨⟨h0, h1⟩, fun l hl => inn_t (all l hl).1 (all l hl).2, (sumF_pos (fun l hl => (all l hl).1)).2 ⟨j, hj, by omega⟩⟩
set_option maxHeartbeats 800000 in
theorem Try.iArePeople (w : World) (B : Nat) (v : Value) (xs : List Int) (b : Bool) (hb : b = true ↔ GoodP xs) (hl : xs.length ≤ 1048576) (h : OwnI w B v xs) :
    Calls Try.prog 70 #[v] w fun e w' => e = .returned (.bool b) ∧ Gr w w' := by
  have HB := Lib.hid hb
  cases h1 : inn (xs.length : Int) 1 60
  · have HF := Lib.hid (show b = false by
      cases q : b
      · rfl
      · have := (HB.out.1 q).1; have := of_decide_eq_false h1; omega)
    have H1 := Lib.hid h1
    obtain ⟨A, c, rfl, h⟩ := h.eta
    clear h1 hb
    go_enter Try.func70, Try.ntmps70
    go_wp2_with (first | (go_at_call 71; refine (Try.within _ _ _ _ H1.out _).mono ?_; rintro e w1 ⟨rfl, rfl⟩))
    go_ret
    exact ⟨by rw [HF.out]; rfl, by repeat (first | exact Gr.refl _ | refine Gr.alloc ?_ _ | refine Gr.trans ?_ (by assumption) | refine Gr.drew ?_ | refine Gr.drewN ?_ _ | refine Gr.grow ?_ _ | refine Gr.setCell ?_ (by (try simp); (try omega)) _)⟩
  · have hl1 := inn_e h1
    have H1 := Lib.hid h1
    rcases h.view with ⟨rfl, _⟩ | ⟨hpos, g, c, rfl, _, _, _, hc, _⟩
    · simp at hl1
    · have gm := good_minmax (xs := xs) (by omega) (by omega)
      have HMI := Lib.hid (fun W (g' : Gr w W) => Try.slices_Min_int g 0 xs.length c xs W hpos (Nat.le_refl _) (by omega) (fun j hj => by rw [Nat.zero_add]; exact g'.keep2 (hc j hj)))
      have HMA := Lib.hid (fun W (g' : Gr w W) => Try.slices_Max_int g 0 xs.length c xs W hpos (Nat.le_refl _) (by omega) (fun j hj => by rw [Nat.zero_add]; exact g'.keep2 (hc j hj)))
      generalize Lib.minOf (xs.take xs.length) = mi at *
      generalize Lib.maxOf (xs.take xs.length) = ma at *
      clear h1 hb hc h
      by_cases hm : 0 ≤ mi
      · have HV := Lib.hid (show inn ma 1 1000 = b by
          cases q : b
          · refine inn_f ?_
            have : ¬ (1 ≤ ma ∧ ma ≤ 1000) := fun c => by have := HB.out.2 (gm.2 ⟨hm, c.1, c.2⟩); rw [q] at this; cases this
            omega
          · have := gm.1 (HB.out.1 q)
            exact inn_t this.2.1 this.2.2)
        clear gm
        go_enter Try.func70, Try.ntmps70
        go_wp2_with (first | (go_at_call_of 71 (Value.int .i64 (xs.length : Int)); refine (Try.within _ _ _ _ H1.out _).mono ?_; rintro e w1 ⟨rfl, rfl⟩) | (go_at_call_of 71 (Value.int .i64 ma); refine (Try.within _ _ _ _ HV.out _).mono ?_; rintro e w1 ⟨rfl, rfl⟩) | (go_at_call 94; refine (HMI.out _ (by repeat (first | exact Gr.refl _ | refine Gr.alloc ?_ _ | refine Gr.trans ?_ (by assumption) | refine Gr.drew ?_ | refine Gr.drewN ?_ _ | refine Gr.grow ?_ _ | refine Gr.setCell ?_ (by (try simp); (try omega)) _))).mono ?_; rintro e w1 ⟨rfl, rfl⟩) | (go_at_call 95; refine (HMA.out _ (by repeat (first | exact Gr.refl _ | refine Gr.alloc ?_ _ | refine Gr.trans ?_ (by assumption) | refine Gr.drew ?_ | refine Gr.drewN ?_ _ | refine Gr.grow ?_ _ | refine Gr.setCell ?_ (by (try simp); (try omega)) _))).mono ?_; rintro e w1 ⟨rfl, rfl⟩))
        go_ret
        exact ⟨rfl, by repeat (first | exact Gr.refl _ | refine Gr.alloc ?_ _ | refine Gr.trans ?_ (by assumption) | refine Gr.drew ?_ | refine Gr.drewN ?_ _ | refine Gr.grow ?_ _ | refine Gr.setCell ?_ (by (try simp); (try omega)) _)⟩
      · have HF := Lib.hid (show b = false by
          cases q : b
          · rfl
          · exact absurd (gm.1 (HB.out.1 q)).1 hm)
        clear gm
        go_enter Try.func70, Try.ntmps70
        go_wp2_with (first | (go_at_call 71; refine (Try.within _ _ _ _ H1.out _).mono ?_; rintro e w1 ⟨rfl, rfl⟩) | (go_at_call 94; refine (HMI.out _ (by repeat (first | exact Gr.refl _ | refine Gr.alloc ?_ _ | refine Gr.trans ?_ (by assumption) | refine Gr.drew ?_ | refine Gr.drewN ?_ _ | refine Gr.grow ?_ _ | refine Gr.setCell ?_ (by (try simp); (try omega)) _))).mono ?_; rintro e w1 ⟨rfl, rfl⟩))
        go_ret
        exact ⟨by rw [HF.out]; rfl, by repeat (first | exact Gr.refl _ | refine Gr.alloc ?_ _ | refine Gr.trans ?_ (by assumption) | refine Gr.drew ?_ | refine Gr.drewN ?_ _ | refine Gr.grow ?_ _ | refine Gr.setCell ?_ (by (try simp); (try omega)) _)⟩
end Go.Proofs
