/-
  Contracts of chapter 5: fewest boxes for a longest walk (both sides), whether there can be so many boxes.
-/
import Derived.Test.YtkiblppanlbpaaaMdQ
namespace Go.Proofs
open Go.RowKit
set_option linter.unusedVariables false
set_option linter.unusedSimpArgs false
def FewP (xs : List Int) (far : Int) : Prop := GoodP xs ∧ (0 ≤ far ∧ far ≤ 60) ∧ ndI xs far ≤ 5
def ManyP (xs : List Int) (n : Int) : Prop := GoodP xs ∧ 1 ≤ n ∧ n ≤ 5 ∧ n ≤ (xs.length : Int)
set_option maxHeartbeats 400000 in
theorem Try.l1Least (a b : Int) (w : World) : Calls Try.prog 88 #[.int .i64 a, .int .i64 b] w fun e w' => e = .returned (.int .i64 (min a b)) ∧ w = w' := by
  go_enter Try.func88, Try.ntmps88
  go_wp2
  all_goals
    go_ret
    exact ⟨ri (by rw [Int.min_def]; split <;> omega), rfl⟩
set_option maxHeartbeats 800000 in
theorem Try.mdMany (w : World) (B : Nat) (v : Value) (xs : List Int) (n : Int) (b : Bool) (hb : b = true ↔ ManyP xs n) (hl : xs.length ≤ 1048576) (h : OwnI w B v xs) :
    Calls Try.prog 69 #[v, .int .i64 n] w fun e w' => e = .returned (.bool b) ∧ Gr w w' := by
  obtain ⟨A, c, rfl, h⟩ := h.eta
  by_cases hg : GoodP xs
  · have HG := Lib.hid (Try.mdGood w B _ xs true ⟨fun _ => hg, fun _ => rfl⟩ hl h)
    obtain ⟨m, hm⟩ : ∃ m, min 5 (xs.length : Int) = m := ⟨_, rfl⟩
    have HM := Lib.hid (fun W => Try.l1Least 5 (xs.length : Int) W)
    rw [hm] at HM
    have HI := Lib.hid (show inn n 1 m = b by
      cases q : b
      · have : ¬ ManyP xs n := fun c => by have := hb.2 c; rw [q] at this; cases this
        refine inn_f ?_
        by_cases c1 : n < 1
        · exact .inl c1
        · refine .inr ?_
          rcases Int.lt_or_le m n with c2 | c2
          · exact c2
          · exact absurd ⟨hg, by omega, by omega, by omega⟩ this
      · obtain ⟨_, h1, h2, h3⟩ := hb.1 q
        exact inn_t h1 (by omega))
    clear h hb hg hm
    go_enter Try.func69, Try.ntmps69
    go_wp2_with (first | (go_at_call 49; refine (HG.out).mono ?_; rintro e w1 ⟨rfl, hbW⟩; have hcW := (bcell hbW.below).1; have hfW := (bcell hbW.below).2; (try have hzW : w.heap.size < w1.heap.size := by have hq := hbW.below.size; (try simp at hq); omega); (try have hyW : w.heap.size + 1 < w1.heap.size := by have hq := hbW.below.size; (try simp at hq); omega); (try have hxW : w.heap.size + 2 < w1.heap.size := by have hq := hbW.below.size; (try simp at hq); omega)) | (go_at_call 88; refine (HM.out _).mono ?_; rintro e w1 ⟨rfl, rfl⟩) | (go_at_call 74; refine (Try.l1In _ _ _ _ HI.out _).mono ?_; rintro e w1 ⟨rfl, rfl⟩))
    go_ret
    exact ⟨rfl, by repeat (first | exact Gr.refl _ | refine Gr.alloc ?_ _ | refine Gr.trans ?_ (by assumption) | refine Gr.drew ?_ | refine Gr.drewN ?_ _ | refine Gr.grow ?_ _ | refine Gr.setCell ?_ (by (try simp); (try omega)) _)⟩
  · have HG := Lib.hid (Try.mdGood w B _ xs false ⟨fun q => (by cases q), fun q => absurd q hg⟩ hl h)
    have HF := Lib.hid (not_true hb (fun q => hg q.1))
    clear h hb hg
    go_enter Try.func69, Try.ntmps69
    go_wp2_with (first | (go_at_call 49; refine (HG.out).mono ?_; rintro e w1 ⟨rfl, hbW⟩; have hcW := (bcell hbW.below).1; have hfW := (bcell hbW.below).2; (try have hzW : w.heap.size < w1.heap.size := by have hq := hbW.below.size; (try simp at hq); omega); (try have hyW : w.heap.size + 1 < w1.heap.size := by have hq := hbW.below.size; (try simp at hq); omega); (try have hxW : w.heap.size + 2 < w1.heap.size := by have hq := hbW.below.size; (try simp at hq); omega)))
    go_ret
    exact ⟨by rw [HF.out]; rfl, by repeat (first | exact Gr.refl _ | refine Gr.alloc ?_ _ | refine Gr.trans ?_ (by assumption) | refine Gr.drew ?_ | refine Gr.drewN ?_ _ | refine Gr.grow ?_ _ | refine Gr.setCell ?_ (by (try simp); (try omega)) _)⟩
set_option maxHeartbeats 800000 in
theorem Try.canHave (w : World) (B : Nat) (v : Value) (xs : List Int) (n : Int) (b : Bool) (hb : b = true ↔ ManyP xs n) (hl : xs.length ≤ 1048576) (h : OwnI w B v xs) :
    Calls Try.prog 71 #[v, .int .i64 n] w fun e w' => e = .returned (.bool b) ∧ Gr w w' := by
  obtain ⟨A, c, rfl, h⟩ := h.eta
  by_cases hg : GoodP xs
  · have HG := Lib.hid (Try.iArePeople w B _ xs true ⟨fun _ => hg, fun _ => rfl⟩ hl h)
    obtain ⟨m, hm⟩ : ∃ m, min 5 (xs.length : Int) = m := ⟨_, rfl⟩
    have HI := Lib.hid (show inn n 1 m = b by
      cases q : b
      · have : ¬ ManyP xs n := fun c => by have := hb.2 c; rw [q] at this; cases this
        refine inn_f ?_
        by_cases c1 : n < 1
        · exact .inl c1
        · refine .inr ?_
          rcases Int.lt_or_le m n with c2 | c2
          · exact c2
          · exact absurd ⟨hg, by omega, by omega, by omega⟩ this
      · obtain ⟨_, h1, h2, h3⟩ := hb.1 q
        exact inn_t h1 (by omega))
    clear h hb hg
    go_enter Try.func71, Try.ntmps71
    go_wp2_with (first | (go_at_call 19; refine (HG.out).mono ?_; rintro e w1 ⟨rfl, hbW⟩; have hcW := (bcell hbW.below).1; have hfW := (bcell hbW.below).2; (try have hzW : w.heap.size < w1.heap.size := by have hq := hbW.below.size; (try simp at hq); omega); (try have hyW : w.heap.size + 1 < w1.heap.size := by have hq := hbW.below.size; (try simp at hq); omega); (try have hxW : w.heap.size + 2 < w1.heap.size := by have hq := hbW.below.size; (try simp at hq); omega)) | (go_at_call 50; refine (Try.within _ _ _ _ HI.out _).mono ?_; rintro e w1 ⟨rfl, rfl⟩))
    go_ret
    exact ⟨rfl, by repeat (first | exact Gr.refl _ | refine Gr.alloc ?_ _ | refine Gr.trans ?_ (by assumption) | refine Gr.drew ?_ | refine Gr.drewN ?_ _ | refine Gr.grow ?_ _ | refine Gr.setCell ?_ (by (try simp); (try omega)) _)⟩
  · have HG := Lib.hid (Try.iArePeople w B _ xs false ⟨fun q => (by cases q), fun q => absurd q hg⟩ hl h)
    have HF := Lib.hid (not_true hb (fun q => hg q.1))
    clear h hb hg
    go_enter Try.func71, Try.ntmps71
    go_wp2_with (first | (go_at_call 19; refine (HG.out).mono ?_; rintro e w1 ⟨rfl, hbW⟩; have hcW := (bcell hbW.below).1; have hfW := (bcell hbW.below).2; (try have hzW : w.heap.size < w1.heap.size := by have hq := hbW.below.size; (try simp at hq); omega); (try have hyW : w.heap.size + 1 < w1.heap.size := by have hq := hbW.below.size; (try simp at hq); omega); (try have hxW : w.heap.size + 2 < w1.heap.size := by have hq := hbW.below.size; (try simp at hq); omega)))
    go_ret
    exact ⟨by rw [HF.out]; rfl, by repeat (first | exact Gr.refl _ | refine Gr.alloc ?_ _ | refine Gr.trans ?_ (by assumption) | refine Gr.drew ?_ | refine Gr.drewN ?_ _ | refine Gr.grow ?_ _ | refine Gr.setCell ?_ (by (try simp); (try omega)) _)⟩
set_option maxHeartbeats 800000 in
theorem Try.sFewestBoxes (w : World) (B : Nat) (v : Value) (xs : List Int) (far : Int) (b : Bool) (hb : b = true ↔ FewP xs far) (hl : xs.length ≤ 1048576) (h : OwnI w B v xs) :
    Calls Try.prog 37 #[v, .int .i64 far] w fun e w' => e = .returned (.tuple #[.int .i64 (if b then ndI xs far else 0), .bool b]) ∧ Gr w w' := by
  have HO := Lib.hid h
  obtain ⟨A, c, rfl, _⟩ := h.eta
  by_cases hg : GoodP xs
  case neg =>
    have HG := Lib.hid (Try.mdGood w B _ xs false ⟨fun q => (by cases q), fun q => absurd q hg⟩ hl h)
    obtain rfl : b = false := not_true hb (fun q => hg q.1)
    clear h hb hg
    go_enter Try.func37, Try.ntmps37
    go_wp2_with (first | (go_at_call 49; refine (HG.out).mono ?_; rintro e w1 ⟨rfl, hbW⟩; have hcW := (bcell hbW.below).1; have hfW := (bcell hbW.below).2; (try have hzW : w.heap.size < w1.heap.size := by have hq := hbW.below.size; (try simp at hq); omega); (try have hyW : w.heap.size + 1 < w1.heap.size := by have hq := hbW.below.size; (try simp at hq); omega); (try have hxW : w.heap.size + 2 < w1.heap.size := by have hq := hbW.below.size; (try simp at hq); omega)))
    go_ret2
    exact ⟨rfl, by repeat (first | exact Gr.refl _ | refine Gr.alloc ?_ _ | refine Gr.trans ?_ (by assumption) | refine Gr.drew ?_ | refine Gr.drewN ?_ _ | refine Gr.grow ?_ _ | refine Gr.setCell ?_ (by (try simp); (try omega)) _)⟩
  have HG := Lib.hid (Try.mdGood w B _ xs true ⟨fun _ => hg, fun _ => rfl⟩ hl h)
  cases hi : inn far 0 60
  · have HI := Lib.hid hi
    obtain rfl : b = false := not_true hb (fun q => by have := q.2.1; have := of_decide_eq_false hi; omega)
    clear h hb hg hi
    go_enter Try.func37, Try.ntmps37
    go_wp2_with (first | (go_at_call 49; refine (HG.out).mono ?_; rintro e w1 ⟨rfl, hbW⟩; have hcW := (bcell hbW.below).1; have hfW := (bcell hbW.below).2; (try have hzW : w.heap.size < w1.heap.size := by have hq := hbW.below.size; (try simp at hq); omega); (try have hyW : w.heap.size + 1 < w1.heap.size := by have hq := hbW.below.size; (try simp at hq); omega); (try have hxW : w.heap.size + 2 < w1.heap.size := by have hq := hbW.below.size; (try simp at hq); omega)) | (go_at_call 74; refine (Try.l1In _ _ _ _ HI.out _).mono ?_; rintro e w1 ⟨rfl, rfl⟩))
    go_ret2
    exact ⟨rfl, by repeat (first | exact Gr.refl _ | refine Gr.alloc ?_ _ | refine Gr.trans ?_ (by assumption) | refine Gr.drew ?_ | refine Gr.drewN ?_ _ | refine Gr.grow ?_ _ | refine Gr.setCell ?_ (by (try simp); (try omega)) _)⟩
  · have HI := Lib.hid hi
    have hf := inn_e hi
    have hxl := hg.1.2
    have HN := Lib.hid (fun w1 (g : Gr w w1) => Try.mdNeed w1 B _ xs far hxl hf.1 hf.2 (HO.out.gr g))
    by_cases h5 : ndI xs far ≤ 5
    · obtain rfl : b = true := hb.2 ⟨hg, hf, h5⟩
      rw [if_pos rfl]
      generalize ndI xs far = R at *
      clear h hb hg hi
      go_enter Try.func37, Try.ntmps37
      go_wp2_with (first | (go_at_call 49; refine (HG.out).mono ?_; rintro e w1 ⟨rfl, hbW⟩; have hcW := (bcell hbW.below).1; have hfW := (bcell hbW.below).2; (try have hzW : w.heap.size < w1.heap.size := by have hq := hbW.below.size; (try simp at hq); omega); (try have hyW : w.heap.size + 1 < w1.heap.size := by have hq := hbW.below.size; (try simp at hq); omega); (try have hxW : w.heap.size + 2 < w1.heap.size := by have hq := hbW.below.size; (try simp at hq); omega)) | (go_at_call 74; refine (Try.l1In _ _ _ _ HI.out _).mono ?_; rintro e w1 ⟨rfl, rfl⟩) | (go_at_call 70; refine (HN.out _ (by assumption)).mono ?_; rintro e w2 ⟨rfl, g2⟩))
      go_ret2
      exact ⟨rfl, by repeat (first | exact Gr.refl _ | refine Gr.alloc ?_ _ | refine Gr.trans ?_ (by assumption) | refine Gr.drew ?_ | refine Gr.drewN ?_ _ | refine Gr.grow ?_ _ | refine Gr.setCell ?_ (by (try simp); (try omega)) _)⟩
    · obtain rfl : b = false := not_true hb (fun q => h5 q.2.2)
      rw [if_neg (by simp)]
      generalize ndI xs far = R at *
      clear h hb hg hi
      go_enter Try.func37, Try.ntmps37
      go_wp2_with (first | (go_at_call 49; refine (HG.out).mono ?_; rintro e w1 ⟨rfl, hbW⟩; have hcW := (bcell hbW.below).1; have hfW := (bcell hbW.below).2; (try have hzW : w.heap.size < w1.heap.size := by have hq := hbW.below.size; (try simp at hq); omega); (try have hyW : w.heap.size + 1 < w1.heap.size := by have hq := hbW.below.size; (try simp at hq); omega); (try have hxW : w.heap.size + 2 < w1.heap.size := by have hq := hbW.below.size; (try simp at hq); omega)) | (go_at_call 74; refine (Try.l1In _ _ _ _ HI.out _).mono ?_; rintro e w1 ⟨rfl, rfl⟩) | (go_at_call 70; refine (HN.out _ (by assumption)).mono ?_; rintro e w2 ⟨rfl, g2⟩))
      go_ret2
      exact ⟨rfl, by repeat (first | exact Gr.refl _ | refine Gr.alloc ?_ _ | refine Gr.trans ?_ (by assumption) | refine Gr.drew ?_ | refine Gr.drewN ?_ _ | refine Gr.grow ?_ _ | refine Gr.setCell ?_ (by (try simp); (try omega)) _)⟩
set_option maxHeartbeats 800000 in
theorem Try.iFewestBoxes (w : World) (B : Nat) (v : Value) (xs : List Int) (far : Int) (b : Bool) (hb : b = true ↔ FewP xs far) (hl : xs.length ≤ 1048576) (h : OwnI w B v xs) :
    Calls Try.prog 38 #[v, .int .i64 far] w fun e w' => e = .returned (.tuple #[.int .i64 (if b then ndI xs far else 0), .bool b]) ∧ Gr w w' := by
  have HO := Lib.hid h
  obtain ⟨A, c, rfl, _⟩ := h.eta
  by_cases hg : GoodP xs
  case neg =>
    have HG := Lib.hid (Try.iArePeople w B _ xs false ⟨fun q => (by cases q), fun q => absurd q hg⟩ hl h)
    obtain rfl : b = false := not_true hb (fun q => hg q.1)
    clear h hb hg
    go_enter Try.func38, Try.ntmps38
    go_wp2_with (first | (go_at_call 19; refine (HG.out).mono ?_; rintro e w1 ⟨rfl, hbW⟩; have hcW := (bcell hbW.below).1; have hfW := (bcell hbW.below).2; (try have hzW : w.heap.size < w1.heap.size := by have hq := hbW.below.size; (try simp at hq); omega); (try have hyW : w.heap.size + 1 < w1.heap.size := by have hq := hbW.below.size; (try simp at hq); omega); (try have hxW : w.heap.size + 2 < w1.heap.size := by have hq := hbW.below.size; (try simp at hq); omega)))
    go_ret2
    exact ⟨rfl, by repeat (first | exact Gr.refl _ | refine Gr.alloc ?_ _ | refine Gr.trans ?_ (by assumption) | refine Gr.drew ?_ | refine Gr.drewN ?_ _ | refine Gr.grow ?_ _ | refine Gr.setCell ?_ (by (try simp); (try omega)) _)⟩
  have HG := Lib.hid (Try.iArePeople w B _ xs true ⟨fun _ => hg, fun _ => rfl⟩ hl h)
  cases hi : inn far 0 60
  · have HI := Lib.hid hi
    obtain rfl : b = false := not_true hb (fun q => by have := q.2.1; have := of_decide_eq_false hi; omega)
    clear h hb hg hi
    go_enter Try.func38, Try.ntmps38
    go_wp2_with (first | (go_at_call 19; refine (HG.out).mono ?_; rintro e w1 ⟨rfl, hbW⟩; have hcW := (bcell hbW.below).1; have hfW := (bcell hbW.below).2; (try have hzW : w.heap.size < w1.heap.size := by have hq := hbW.below.size; (try simp at hq); omega); (try have hyW : w.heap.size + 1 < w1.heap.size := by have hq := hbW.below.size; (try simp at hq); omega); (try have hxW : w.heap.size + 2 < w1.heap.size := by have hq := hbW.below.size; (try simp at hq); omega)) | (go_at_call 50; refine (Try.within _ _ _ _ HI.out _).mono ?_; rintro e w1 ⟨rfl, rfl⟩))
    go_ret2
    exact ⟨rfl, by repeat (first | exact Gr.refl _ | refine Gr.alloc ?_ _ | refine Gr.trans ?_ (by assumption) | refine Gr.drew ?_ | refine Gr.drewN ?_ _ | refine Gr.grow ?_ _ | refine Gr.setCell ?_ (by (try simp); (try omega)) _)⟩
  · have HI := Lib.hid hi
    have hf := inn_e hi
    have hxl := hg.1
    obtain ⟨fn, rfl⟩ : ∃ n : Nat, far = (n : Int) := ⟨far.toNat, by omega⟩
    have HP := Lib.hid (h.ppl hxl.1)
    have HN := Lib.hid (fun w1 (g : Gr w w1) => Try.boxesWithin w1 _ xs fn hxl.2 (by omega) (HP.out.gr g))
    have np := ndI_pos hg (fn : Int) (by omega)
    have nl := (ndS_bd xs (fn : Int) (by omega) xs.length).2.1
    rw [show (ndS xs (fn : Int) xs.length).1 = ndI xs (fn : Int) from rfl] at nl
    have HM := Lib.hid (fun w1 (g : Gr w w1) => Try.canHave w1 B _ xs (ndI xs (fn : Int)) b (hb.trans ⟨fun q => ⟨hg, np, q.2.2, nl⟩, fun q => ⟨hg, hf, q.2.2.1⟩⟩) hl (HO.out.gr g))
    clear h hb hg hi
    cases b
    · rw [if_neg (by simp)]
      generalize ndI xs (fn : Int) = R at *
      go_enter Try.func38, Try.ntmps38
      go_wp2_with (first | (go_at_call 19; refine (HG.out).mono ?_; rintro e w1 ⟨rfl, hbW⟩; have hcW := (bcell hbW.below).1; have hfW := (bcell hbW.below).2; (try have hzW : w.heap.size < w1.heap.size := by have hq := hbW.below.size; (try simp at hq); omega); (try have hyW : w.heap.size + 1 < w1.heap.size := by have hq := hbW.below.size; (try simp at hq); omega); (try have hxW : w.heap.size + 2 < w1.heap.size := by have hq := hbW.below.size; (try simp at hq); omega)) | (go_at_call 50; refine (Try.within _ _ _ _ HI.out _).mono ?_; rintro e w1 ⟨rfl, rfl⟩) | (go_at_call 73; refine (HN.out _ (by assumption)).mono ?_; rintro e w2 ⟨rfl, g2⟩; have gw := hbW.trans g2) | (go_at_call 71; refine (HM.out _ (by assumption)).mono ?_; rintro e w3 ⟨rfl, g3⟩))
      go_ret2
      exact ⟨rfl, gw.trans g3⟩
    · rw [if_pos rfl]
      generalize ndI xs (fn : Int) = R at *
      go_enter Try.func38, Try.ntmps38
      go_wp2_with (first | (go_at_call 19; refine (HG.out).mono ?_; rintro e w1 ⟨rfl, hbW⟩; have hcW := (bcell hbW.below).1; have hfW := (bcell hbW.below).2; (try have hzW : w.heap.size < w1.heap.size := by have hq := hbW.below.size; (try simp at hq); omega); (try have hyW : w.heap.size + 1 < w1.heap.size := by have hq := hbW.below.size; (try simp at hq); omega); (try have hxW : w.heap.size + 2 < w1.heap.size := by have hq := hbW.below.size; (try simp at hq); omega)) | (go_at_call 50; refine (Try.within _ _ _ _ HI.out _).mono ?_; rintro e w1 ⟨rfl, rfl⟩) | (go_at_call 73; refine (HN.out _ (by assumption)).mono ?_; rintro e w2 ⟨rfl, g2⟩; have gw := hbW.trans g2) | (go_at_call 71; refine (HM.out _ (by assumption)).mono ?_; rintro e w3 ⟨rfl, g3⟩))
      go_ret2
      exact ⟨rfl, gw.trans g3⟩
end Go.Proofs
