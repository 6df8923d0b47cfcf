/-
  Chapter 4: a word that is walked, both sides (WalkWord).
-/
import Derived.Test.YtkhjjafeoijaaabLdB
import Derived.Test.YtkhjjafeoijaaabLdC
import Derived.Test.YtkhjjafeoijaaabAvLc
namespace Go.Proofs
open Go.RowKit Av
set_option linter.unusedVariables false
set_option linter.unusedSimpArgs false
def stC (W H : Int) (ps : List Blk) (q : Cr) (j : Nat) : Option Cr := if stp W H ps q j = true then some (nx q j) else none
theorem stC_ok {W H : Int} {ps : List Blk} {q r : Cr} {j : Nat} (h : stC W H ps q j = some r) : onC W H r := by
  unfold stC at h
  split at h
  · rename_i c
    simp only [Option.some.injEq] at h
    subst h
    unfold stp at c
    simp only [Bool.and_eq_true, decide_eq_true_eq] at c
    exact c.1
  · cases h
def wkP (W H : Int) (ps : List Blk) (xs : List Int) (s : ByteArray) : Bool := okB W H ps && isC W H xs && decide (s.size ≤ 200)
def wkR (W H : Int) (ps : List Blk) (xs : List Int) (s : ByteArray) : Option Cr := if wkP W H ps xs s = true then gone (stC W H ps) s (xs.getD 0 0, xs.getD 1 0) s.size else none
def WkS (W H : Int) (ps : List Blk) (s : ByteArray) (p : Cr) (w : World) (x y i : Value) (wr : World) : Prop :=
  Gr w wr ∧ ∃ k q, k ≤ s.size ∧ i = .int .i64 (k : Nat) ∧ gone (stC W H ps) s p k = some q ∧ onC W H q ∧ x = .int .i64 q.1 ∧ y = .int .i64 q.2
theorem okB_len {W H : Int} {ps : List Blk} (h : okB W H ps = true) : (1 ≤ W ∧ W ≤ 8) ∧ (1 ≤ H ∧ H ≤ 8) ∧ Up ps := by
  have q := of_decide_eq_true (show decide _ = true from h)
  exact ⟨⟨q.1, q.2.1⟩, ⟨q.2.2.1, q.2.2.2.1⟩, q.2.2.2.2.2.2⟩
theorem Gr.sz {w w' : World} (g : Gr w w') : w.heap.size ≤ w'.heap.size := g.below.size
theorem isC_some {W H : Int} {xs : List Int} (h : isC W H xs = true) : ∃ x y, xs = [x, y] ∧ onC W H (x, y) := by
  unfold isC at h
  simp only [Bool.and_eq_true, decide_eq_true_eq] at h
  obtain ⟨x, y, rfl⟩ := len_two h.1
  exact ⟨x, y, rfl, of_decide_eq_true (show decide _ = true from h.2)⟩
theorem wkR_no {W H : Int} {ps : List Blk} {xs : List Int} {s : ByteArray} (h : wkP W H ps xs s = false) : wkR W H ps xs s = none := by unfold wkR; rw [h]; rfl
set_option maxRecDepth 100000 in
set_option maxHeartbeats 3200000 in
theorem Try.iWalkWord (w : World) (W H : Int) (B : Nat) (a : Value) (ps : List Blk) (Ba : Nat) (la : Value) (xs : List Int) (s : ByteArray) (hs : s.size ≤ maxLen) (R : Option Cr) (hR : wkR W H ps xs s = R) (hl : ps.length ≤ 1048576) (h : OwnB w B a ps) (hla : OwnI w Ba la xs) :
    Calls Try.prog 12 #[.agg #[.int .i64 W, .int .i64 H, a], la, .string s] w fun e w' => ∃ v, e = .returned (.tuple #[v, .bool R.isSome]) ∧ OwnT 54 w' w.heap.size v (lsO R) ∧ Below w.heap.size w w' := by
  have mixed : Try.prog.follows .mixedOrders = true := by kernel_rfl
  unfold maxLen at hs
  obtain ⟨A, c, rfl, h⟩ := OwnE.eta h
  obtain ⟨b1, h1⟩ : ∃ b1, okB W H ps = b1 := ⟨_, rfl⟩
  obtain ⟨b2, h2⟩ : ∃ b1, isC W H xs = b1 := ⟨_, rfl⟩
  have HA := Lib.hid (fun (X : World) (g : Gr w X) => Try.cornerOf X W H B _ ps Ba la xs b1 b2 h1 h2 hl (h.gr g) (hla.gr g))
  cases hall : (b1 && b2)
  · have HF := Lib.hid (show R = none by rw [← hR]; exact wkR_no (by unfold wkP; rw [h1, h2, hall]; rfl))
    rw [hall] at HA
    unfold coV at HA
    generalize coX false xs = x1 at *
    generalize coY false xs = y1 at *
    clear h hla h1 h2 hall hR
    go_enter Try.func12, Try.ntmps12
    go_wp2_with (first | (go_at_call 28; refine (HA.out _ (by repeat (first | exact Gr.refl _ | refine Gr.alloc ?_ _ | refine Gr.trans ?_ (by assumption) | refine Gr.drew ?_ | refine Gr.drewN ?_ _ | refine Gr.grow ?_ _ | refine Gr.setCell ?_ (by (try simp); (try omega)) _))).mono ?_; rintro e w1 ⟨rfl, hbW⟩; have hcW := (bcell hbW.below).1; have hfW := (bcell hbW.below).2; (try have hzW : w.heap.size < w1.heap.size := by have hq := hbW.below.size; (try simp at hq); omega); (try have hyW : w.heap.size + 1 < w1.heap.size := by have hq := hbW.below.size; (try simp at hq); omega); (try have hxW : w.heap.size + 2 < w1.heap.size := by have hq := hbW.below.size; (try simp at hq); omega)))
    go_ret2
    exact ⟨_, by rw [HF.out]; rfl, by rw [HF.out]; exact OwnT.nil2 _ _ _, Gr.below (by repeat (first | exact Gr.refl _ | refine Gr.alloc ?_ _ | refine Gr.trans ?_ (by assumption) | refine Gr.drew ?_ | refine Gr.drewN ?_ _ | refine Gr.grow ?_ _ | refine Gr.setCell ?_ (by (try simp); (try omega)) _))⟩
  · rw [hall] at HA
    unfold coV coX coY at HA
    simp only [if_true] at HA
    have hall2 := hall
    simp only [Bool.and_eq_true] at hall
    obtain ⟨rfl, rfl⟩ := hall
    obtain ⟨x, y, rfl, ho⟩ := isC_some h2
    obtain ⟨oW, oH, oU⟩ := okB_len h1
    simp only [List.getD_cons_zero, List.getD_cons_succ] at HA
    by_cases hsz : s.size ≤ 200
    · have hR' : gone (stC W H ps) s (x, y) s.size = R := by rw [← hR]; unfold wkR wkP; rw [h1, h2, decide_eq_true hsz]; rfl
      have HLD := Lib.hid (fun (X : World) (g : Gr w X) => Try.ledBy X s (by omega) (.agg #[.int .i64 W, .int .i64 H, .slice A ps.length c]) (x, y) (onC W H) (stC W H ps) ho (fun q j r _ _ e => stC_ok e)
        (fun Y q j hq hj hb => (Try.iStep Y W H B _ ps q.1 q.2 j hj oW oH oU hq hl (OwnE.below (h.gr g) hb (Nat.le_refl _))).mono (by
          rintro e w' ⟨rfl, gg⟩
          refine ⟨?_, gg⟩
          unfold itV stC
          by_cases c1 : onB W H (q.1 + dx j) (q.2 + dy j) = true
          · rw [if_pos c1]
            cases hst : stp W H ps (q.1, q.2) j
            · exact ⟨_, _, rfl, fun r hr => by simp at hr⟩
            · exact ⟨_, _, rfl, fun r hr => by simp only [if_true, Option.some.injEq] at hr; rw [← hr]; rfl⟩
          · rw [if_neg c1]
            have hst : stp W H ps q j = false := by
              cases q3 : stp W H ps q j
              · rfl
              · unfold stp at q3
                simp only [Bool.and_eq_true] at q3
                exact absurd q3.1 c1
            exact ⟨_, _, by rw [hst]; rfl, fun r hr => by rw [hst] at hr; simp at hr⟩))
        (fun Y q r hq hr hb => (Try.iStepNo Y W H _ q.1 q.2 r hr ⟨_, _, _, rfl⟩).mono (by
          rintro e w' ⟨rfl, gg⟩
          exact ⟨⟨_, _, rfl⟩, gg⟩)) R hR')
      have zz : ¬ (200 : Int) < (s.size : Int) := by omega
      clear h hla h1 h2 hR hR' hall2 ho oW oH oU
      go_enter Try.func12, Try.ntmps12
      go_wp2_with (first | (go_at_call 28; refine (HA.out _ (by repeat (first | exact Gr.refl _ | refine Gr.alloc ?_ _ | refine Gr.trans ?_ (by assumption) | refine Gr.drew ?_ | refine Gr.drewN ?_ _ | refine Gr.grow ?_ _ | refine Gr.setCell ?_ (by (try simp); (try omega)) _))).mono ?_; rintro e w1 ⟨rfl, hbW⟩; have hcW := (bcell hbW.below).1; have hfW := (bcell hbW.below).2; (try have hzW : w.heap.size < w1.heap.size := by have hq := hbW.below.size; (try simp at hq); omega); (try have hyW : w.heap.size + 1 < w1.heap.size := by have hq := hbW.below.size; (try simp at hq); omega); (try have hxW : w.heap.size + 2 < w1.heap.size := by have hq := hbW.below.size; (try simp at hq); omega)) | (go_at_call 29; refine (HLD.out _ (show Gr w _ from (by repeat (first | exact Gr.refl _ | refine Gr.alloc ?_ _ | refine Gr.trans ?_ (by assumption) | refine Gr.drew ?_ | refine Gr.drewN ?_ _ | refine Gr.grow ?_ _ | refine Gr.setCell ?_ (by (try simp); (try omega)) _)))).mono ?_; rintro e w3 ⟨v, rfl, ov, bv⟩; have hov := ov.eta; clear ov; obtain ⟨Av, cv, rfl, ov⟩ := hov))
      go_ret2
      exact ⟨_, rfl, ov.mono (Gr.sz (by repeat (first | exact Gr.refl _ | refine Gr.alloc ?_ _ | refine Gr.trans ?_ (by assumption) | refine Gr.drew ?_ | refine Gr.drewN ?_ _ | refine Gr.grow ?_ _ | refine Gr.setCell ?_ (by (try simp); (try omega)) _))), Below.trans (Gr.below (by repeat (first | exact Gr.refl _ | refine Gr.alloc ?_ _ | refine Gr.trans ?_ (by assumption) | refine Gr.drew ?_ | refine Gr.drewN ?_ _ | refine Gr.grow ?_ _ | refine Gr.setCell ?_ (by (try simp); (try omega)) _))) (bv.mono (Gr.sz (by repeat (first | exact Gr.refl _ | refine Gr.alloc ?_ _ | refine Gr.trans ?_ (by assumption) | refine Gr.drew ?_ | refine Gr.drewN ?_ _ | refine Gr.grow ?_ _ | refine Gr.setCell ?_ (by (try simp); (try omega)) _))))⟩
    · have HF := Lib.hid (show R = none by rw [← hR]; exact wkR_no (by unfold wkP; rw [h1, h2, decide_eq_false hsz]; rfl))
      have zz : (200 : Int) < (s.size : Int) := by omega
      clear h hla h1 h2 hR hall2 ho oW oH oU
      go_enter Try.func12, Try.ntmps12
      go_wp2_with (first | (go_at_call 28; refine (HA.out _ (by repeat (first | exact Gr.refl _ | refine Gr.alloc ?_ _ | refine Gr.trans ?_ (by assumption) | refine Gr.drew ?_ | refine Gr.drewN ?_ _ | refine Gr.grow ?_ _ | refine Gr.setCell ?_ (by (try simp); (try omega)) _))).mono ?_; rintro e w1 ⟨rfl, hbW⟩; have hcW := (bcell hbW.below).1; have hfW := (bcell hbW.below).2; (try have hzW : w.heap.size < w1.heap.size := by have hq := hbW.below.size; (try simp at hq); omega); (try have hyW : w.heap.size + 1 < w1.heap.size := by have hq := hbW.below.size; (try simp at hq); omega); (try have hxW : w.heap.size + 2 < w1.heap.size := by have hq := hbW.below.size; (try simp at hq); omega)))
      go_ret2
      exact ⟨_, by rw [HF.out]; rfl, by rw [HF.out]; exact OwnT.nil2 _ _ _, Gr.below (by repeat (first | exact Gr.refl _ | refine Gr.alloc ?_ _ | refine Gr.trans ?_ (by assumption) | refine Gr.drew ?_ | refine Gr.drewN ?_ _ | refine Gr.grow ?_ _ | refine Gr.setCell ?_ (by (try simp); (try omega)) _))⟩
end Go.Proofs
