/-
  Chapter 6: a word that is driven, the program (impl.DriveWord).
-/
import Derived.Test.YtkhjjafeoijaaabDoorLwB
import Derived.Test.YtkhjjafeoijaaabDoorLwC
namespace Go.Proofs
open Go.RowKit Av
set_option linter.unusedVariables false
set_option linter.unusedSimpArgs false
def stW2 (s a : ByteArray) (q : Cr) (j : Nat) : Option Cr := if drv s a q.1.toNat q.2.toNat j = true then some (nx q j) else none
theorem stW2_ok {s a : ByteArray} {q r : Cr} {j : Nat} (hq : onC a.size s.size q) (h : stW2 s a q j = some r) : onC a.size s.size r := by
  unfold stW2 at h
  split at h
  · rename_i c
    simp only [Option.some.injEq] at h
    subst h
    unfold drv at c
    simp only [Bool.and_eq_true] at c
    have c2 := of_decide_eq_true (show decide _ = true from c.2)
    obtain ⟨o1, o2, o3, o4⟩ := hq
    rw [Int.toNat_of_nonneg o1, Int.toNat_of_nonneg o3] at c2
    exact c2
  · cases h
def dvP (s a : ByteArray) (xs : List Int) (t : ByteArray) : Bool := okW s a && isC a.size s.size xs && decide (t.size ≤ 100)
def dvR (s a : ByteArray) (xs : List Int) (t : ByteArray) : Option Cr := if dvP s a xs t = true then gone (stW2 s a) t (xs.getD 0 0, xs.getD 1 0) t.size else none
theorem dvR_no {s a : ByteArray} {xs : List Int} {t : ByteArray} (h : dvP s a xs t = false) : dvR s a xs t = none := by unfold dvR; rw [h]; rfl
theorem Gr.sz {w w' : World} (g : Gr w w') : w.heap.size ≤ w'.heap.size := g.below.size
theorem isC_some {W H : Int} {xs : List Int} (h : isC W H xs = true) : ∃ x y, xs = [x, y] ∧ onC W H (x, y) := by
  unfold isC at h
  simp only [Bool.and_eq_true, decide_eq_true_eq] at h
  obtain ⟨x, y, rfl⟩ := len_two h.1
  exact ⟨x, y, rfl, of_decide_eq_true (show decide _ = true from h.2)⟩
theorem onC_nat {s a : ByteArray} {q : Cr} (h : onC a.size s.size q) : ∃ x y : Nat, q = ((x : Int), (y : Int)) ∧ x < a.size ∧ y < s.size := by
  obtain ⟨o1, o2, o3, o4⟩ := h
  exact ⟨q.1.toNat, q.2.toNat, by rw [Int.toNat_of_nonneg o1, Int.toNat_of_nonneg o3], by omega, by omega⟩
set_option maxRecDepth 100000 in
set_option maxHeartbeats 3200000 in
theorem Tryd.iDriveWord (w : World) (s a : ByteArray) (hs : s.size ≤ maxLen) (ha : a.size ≤ maxLen) (Ba : Nat) (la : Value) (xs : List Int) (t : ByteArray) (ht : t.size ≤ maxLen) (R : Option Cr) (hR : dvR s a xs t = R) (hla : OwnI w Ba la xs) :
    Calls Tryd.prog 14 #[.agg #[.string s, .string a], la, .string t] w fun e w' => ∃ v, e = .returned (.tuple #[v, .bool R.isSome]) ∧ OwnT 48 w' w.heap.size v (lsO R) ∧ Below w.heap.size w w' := by
  have mixed : Tryd.prog.follows .mixedOrders = true := by kernel_rfl
  unfold maxLen at ht
  obtain ⟨b1, h1⟩ : ∃ b1, okW s a = b1 := ⟨_, rfl⟩
  obtain ⟨b2, h2⟩ : ∃ b1, isC a.size s.size xs = b1 := ⟨_, rfl⟩
  have HA := Lib.hid (fun (X : World) (g : Gr w X) => Tryd.cornerOfWays X s a hs ha Ba la xs b1 b2 h1 h2 (hla.gr g))
  cases hall : (b1 && b2)
  · have HF := Lib.hid (show R = none by rw [← hR]; exact dvR_no (by unfold dvP; rw [h1, h2, hall]; rfl))
    rw [hall] at HA
    unfold coV at HA
    generalize coX false xs = x1 at *
    generalize coY false xs = y1 at *
    clear hla h1 h2 hall hR
    go_enter Tryd.func14, Tryd.ntmps14
    go_wp2_with (first | (go_at_call 25; refine (HA.out _ (by repeat (first | exact Gr.refl _ | refine Gr.alloc ?_ _ | refine Gr.trans ?_ (by assumption) | refine Gr.drew ?_ | refine Gr.drewN ?_ _ | refine Gr.grow ?_ _ | refine Gr.setCell ?_ (by (try simp); (try omega)) _))).mono ?_; rintro e w1 ⟨rfl, hbW⟩; have hcW := (bcell hbW.below).1; have hfW := (bcell hbW.below).2; (try have hzW : w.heap.size < w1.heap.size := by have hq := hbW.below.size; (try simp at hq); omega); (try have hyW : w.heap.size + 1 < w1.heap.size := by have hq := hbW.below.size; (try simp at hq); omega); (try have hxW : w.heap.size + 2 < w1.heap.size := by have hq := hbW.below.size; (try simp at hq); omega)))
    go_ret2
    exact ⟨_, by rw [HF.out]; rfl, by rw [HF.out]; exact OwnT.nil2 _ _ _, Gr.below (by repeat (first | exact Gr.refl _ | refine Gr.alloc ?_ _ | refine Gr.trans ?_ (by assumption) | refine Gr.drew ?_ | refine Gr.drewN ?_ _ | refine Gr.grow ?_ _ | refine Gr.setCell ?_ (by (try simp); (try omega)) _))⟩
  · rw [hall] at HA
    unfold coV coX coY at HA
    simp only [if_true] at HA
    have hall2 := hall
    simp only [Bool.and_eq_true] at hall
    obtain ⟨rfl, rfl⟩ := hall
    obtain ⟨x, y, rfl, ho⟩ := isC_some h2
    obtain ⟨ok1, ok2⟩ := okW_and h1
    have l1 := okT_len ok1
    have l2 := okT_len ok2
    simp only [List.getD_cons_zero, List.getD_cons_succ] at HA
    by_cases hsz : t.size ≤ 100
    · have hR' : gone (stW2 s a) t (x, y) t.size = R := by rw [← hR]; unfold dvR dvP; rw [h1, h2, decide_eq_true hsz]; rfl
      have HLD := Lib.hid (fun (X : World) => Tryd.ledByW X t (by omega) (.agg #[.string s, .string a]) (x, y) (onC a.size s.size) (stW2 s a) ho (fun q j r hq _ e => stW2_ok hq e)
        (fun Y q j hq hj hb => by
          obtain ⟨xn, yn, rfl, hx, hy⟩ := onC_nat hq
          refine (Tryd.iwStep Y s a l1 l2 xn yn hx hy j hj).mono ?_
          rintro e w' ⟨rfl, gg⟩
          refine ⟨?_, gg⟩
          unfold iwV stW2
          simp only [Int.toNat_natCast]
          by_cases hst : drv s a xn yn j = true
          · simp only [if_pos hst]
            exact ⟨_, _, rfl, fun r hr => by simp only [Option.some.injEq] at hr; rw [← hr]; rfl⟩
          · simp only [if_neg hst]
            exact ⟨_, _, rfl, fun r hr => by simp at hr⟩)
        (fun Y q r hq hr hb => by
          obtain ⟨xn, yn, rfl, hx, hy⟩ := onC_nat hq
          refine (Tryd.iwStepNo Y s a ok1 ok2 xn yn hx hy r hr).mono ?_
          rintro e w' ⟨rfl, gg⟩
          exact ⟨⟨_, _, rfl⟩, gg⟩) R hR')
      have zz : ¬ (100 : Int) < (t.size : Int) := by omega
      clear hla h1 h2 hR hR' hall2 ho ok1 ok2 l1 l2
      go_enter Tryd.func14, Tryd.ntmps14
      go_wp2_with (first | (go_at_call 25; refine (HA.out _ (by repeat (first | exact Gr.refl _ | refine Gr.alloc ?_ _ | refine Gr.trans ?_ (by assumption) | refine Gr.drew ?_ | refine Gr.drewN ?_ _ | refine Gr.grow ?_ _ | refine Gr.setCell ?_ (by (try simp); (try omega)) _))).mono ?_; rintro e w1 ⟨rfl, hbW⟩; have hcW := (bcell hbW.below).1; have hfW := (bcell hbW.below).2; (try have hzW : w.heap.size < w1.heap.size := by have hq := hbW.below.size; (try simp at hq); omega); (try have hyW : w.heap.size + 1 < w1.heap.size := by have hq := hbW.below.size; (try simp at hq); omega); (try have hxW : w.heap.size + 2 < w1.heap.size := by have hq := hbW.below.size; (try simp at hq); omega)) | (go_at_call 27; refine (HLD.out _).mono ?_; rintro e w3 ⟨v, rfl, ov, bv⟩; have hov := ov.eta; clear ov; obtain ⟨Av, cv, rfl, ov⟩ := hov))
      go_ret2
      exact ⟨_, rfl, ov.mono (Gr.sz (by repeat (first | exact Gr.refl _ | refine Gr.alloc ?_ _ | refine Gr.trans ?_ (by assumption) | refine Gr.drew ?_ | refine Gr.drewN ?_ _ | refine Gr.grow ?_ _ | refine Gr.setCell ?_ (by (try simp); (try omega)) _))), Below.trans (Gr.below (by repeat (first | exact Gr.refl _ | refine Gr.alloc ?_ _ | refine Gr.trans ?_ (by assumption) | refine Gr.drew ?_ | refine Gr.drewN ?_ _ | refine Gr.grow ?_ _ | refine Gr.setCell ?_ (by (try simp); (try omega)) _))) (bv.mono (Gr.sz (by repeat (first | exact Gr.refl _ | refine Gr.alloc ?_ _ | refine Gr.trans ?_ (by assumption) | refine Gr.drew ?_ | refine Gr.drewN ?_ _ | refine Gr.grow ?_ _ | refine Gr.setCell ?_ (by (try simp); (try omega)) _))))⟩
    · have HF := Lib.hid (show R = none by rw [← hR]; exact dvR_no (by unfold dvP; rw [h1, h2, decide_eq_false hsz]; rfl))
      have zz : (100 : Int) < (t.size : Int) := by omega
      clear hla h1 h2 hR hall2 ho ok1 ok2 l1 l2
      go_enter Tryd.func14, Tryd.ntmps14
      go_wp2_with (first | (go_at_call 25; refine (HA.out _ (by repeat (first | exact Gr.refl _ | refine Gr.alloc ?_ _ | refine Gr.trans ?_ (by assumption) | refine Gr.drew ?_ | refine Gr.drewN ?_ _ | refine Gr.grow ?_ _ | refine Gr.setCell ?_ (by (try simp); (try omega)) _))).mono ?_; rintro e w1 ⟨rfl, hbW⟩; have hcW := (bcell hbW.below).1; have hfW := (bcell hbW.below).2; (try have hzW : w.heap.size < w1.heap.size := by have hq := hbW.below.size; (try simp at hq); omega); (try have hyW : w.heap.size + 1 < w1.heap.size := by have hq := hbW.below.size; (try simp at hq); omega); (try have hxW : w.heap.size + 2 < w1.heap.size := by have hq := hbW.below.size; (try simp at hq); omega)))
      go_ret2
      exact ⟨_, by rw [HF.out]; rfl, by rw [HF.out]; exact OwnT.nil2 _ _ _, Gr.below (by repeat (first | exact Gr.refl _ | refine Gr.alloc ?_ _ | refine Gr.trans ?_ (by assumption) | refine Gr.drew ?_ | refine Gr.drewN ?_ _ | refine Gr.grow ?_ _ | refine Gr.setCell ?_ (by (try simp); (try omega)) _))⟩
end Go.Proofs
