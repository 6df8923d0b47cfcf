/-
  Chapter 6: around one block, both functions.
-/
import Derived.Test.YtcmjckipicmmeaaDoorOwU
namespace Go.Proofs
open Go.RowKit
set_option linter.unusedVariables false
set_option linter.unusedSimpArgs false
set_option maxRecDepth 100000 in
set_option maxHeartbeats 1600000 in
theorem Tryd.sRoundOfBlock (w : World) (s a : ByteArray) (hs : s.size ≤ maxLen) (ha : a.size ≤ maxLen) (x y : Int) :
    Calls Tryd.prog 27 #[.agg #[.string s, .string a], .int .i64 x, .int .i64 y] w fun e w' => e = .returned (.tuple #[.int .i64 (rbV s a x y), .bool (rbB s a x y)]) ∧ Gr w w' := by
  obtain ⟨b, hb⟩ : ∃ b, okW s a = b := ⟨_, rfl⟩
  have H1 := Lib.hid (fun (W : World) => Tryd.owGood W s a hs ha b hb)
  cases b
  · have e : rbB s a x y = false := by unfold rbB; rw [hb]; rfl
    unfold rbV
    rw [e]
    simp only [Bool.false_eq_true, if_false]
    clear hs ha hb e
    go_enter Tryd.func27, Tryd.ntmps27
    go_wp2_with (first | (go_at_call 40; refine (H1.out _).mono ?_; rintro e w1 ⟨rfl, hbW⟩; have hcW := (bcell hbW.below).1; have hfW := (bcell hbW.below).2; (try have hzW : w.heap.size < w1.heap.size := by have hq := hbW.below.size; (try simp at hq); omega); (try have hyW : w.heap.size + 1 < w1.heap.size := by have hq := hbW.below.size; (try simp at hq); omega); (try have hxW : w.heap.size + 2 < w1.heap.size := by have hq := hbW.below.size; (try simp at hq); omega)))
    go_ret2
    exact ⟨rfl, by repeat (first | exact Gr.refl _ | refine Gr.alloc ?_ _ | refine Gr.trans ?_ (by assumption) | refine Gr.drew ?_ | refine Gr.drewN ?_ _ | refine Gr.grow ?_ _ | refine Gr.setCell ?_ (by (try simp); (try omega)) _)⟩
  · obtain ⟨h1, h2⟩ := okW_and hb
    have l1 := okT_len h1
    have l2 := okT_len h2
    obtain ⟨bx, hbx⟩ : ∃ b, inn x 0 ((a.size : Int) - 2) = b := ⟨_, rfl⟩
    obtain ⟨bz, hby⟩ : ∃ b, inn y 0 ((s.size : Int) - 2) = b := ⟨_, rfl⟩
    have HX := Lib.hid (fun (W : World) => Tryd.l1In x 0 ((a.size : Int) - 2) bx hbx W)
    have HY := Lib.hid (fun (W : World) => Tryd.l1In y 0 ((s.size : Int) - 2) bz hby W)
    have wr1 : IntKind.i64.wrap ((a.size : Int) - 2) = (a.size : Int) - 2 := IntWalk.i64_in _ (by omega)
    have wr2 : IntKind.i64.wrap ((s.size : Int) - 2) = (s.size : Int) - 2 := IntWalk.i64_in _ (by omega)
    have e : rbB s a x y = (bx && bz) := by unfold rbB; rw [hb, ← hbx, ← hby]; rfl
    have HR : bx = true → bz = true → Hid (∀ W, Calls Tryd.prog 53 #[.agg #[.string s, .string a], .int .i64 x, .int .i64 y] W fun e w' => e = .returned (.int .i64 (rdW s a x.toNat y.toNat)) ∧ Gr W w') := by
      intro e1 e2
      have q1 := inn_e (hbx.trans e1)
      have q2 := inn_e (hby.trans e2)
      refine Lib.hid (fun W => ?_)
      have := Tryd.owRound W s a h1 h2 x.toNat y.toNat (by omega) (by omega)
      rwa [show ((x.toNat : Nat) : Int) = x by omega, show ((y.toNat : Nat) : Int) = y by omega] at this
    unfold rbV
    rw [e]
    clear e hb h1 h2 hs ha hbx hby
    cases bx
    · simp only [Bool.false_and, Bool.false_eq_true, if_false]
      clear HR
      go_enter Tryd.func27, Tryd.ntmps27
      go_wp2_with (first | (go_at_call 40; refine (H1.out _).mono ?_; rintro e w1 ⟨rfl, hbW⟩; have hcW := (bcell hbW.below).1; have hfW := (bcell hbW.below).2; (try have hzW : w.heap.size < w1.heap.size := by have hq := hbW.below.size; (try simp at hq); omega); (try have hyW : w.heap.size + 1 < w1.heap.size := by have hq := hbW.below.size; (try simp at hq); omega); (try have hxW : w.heap.size + 2 < w1.heap.size := by have hq := hbW.below.size; (try simp at hq); omega)) | (go_at_call_of 52 ((Value.int .i64 x)); refine (HX.out _).mono ?_; rintro e w1 ⟨rfl, rfl⟩))
      go_ret2
      exact ⟨rfl, by repeat (first | exact Gr.refl _ | refine Gr.alloc ?_ _ | refine Gr.trans ?_ (by assumption) | refine Gr.drew ?_ | refine Gr.drewN ?_ _ | refine Gr.grow ?_ _ | refine Gr.setCell ?_ (by (try simp); (try omega)) _)⟩
    · cases bz
      · simp only [Bool.and_false, Bool.false_eq_true, if_false]
        clear HR
        go_enter Tryd.func27, Tryd.ntmps27
        go_wp2_with (first | (go_at_call 40; refine (H1.out _).mono ?_; rintro e w1 ⟨rfl, hbW⟩; have hcW := (bcell hbW.below).1; have hfW := (bcell hbW.below).2; (try have hzW : w.heap.size < w1.heap.size := by have hq := hbW.below.size; (try simp at hq); omega); (try have hyW : w.heap.size + 1 < w1.heap.size := by have hq := hbW.below.size; (try simp at hq); omega); (try have hxW : w.heap.size + 2 < w1.heap.size := by have hq := hbW.below.size; (try simp at hq); omega)) | (go_at_call_of 52 ((Value.int .i64 x)); refine (HX.out _).mono ?_; rintro e w1 ⟨rfl, rfl⟩) | (go_at_call_of 52 ((Value.int .i64 y)); refine (HY.out _).mono ?_; rintro e w1 ⟨rfl, rfl⟩))
        go_ret2
        exact ⟨rfl, by repeat (first | exact Gr.refl _ | refine Gr.alloc ?_ _ | refine Gr.trans ?_ (by assumption) | refine Gr.drew ?_ | refine Gr.drewN ?_ _ | refine Gr.grow ?_ _ | refine Gr.setCell ?_ (by (try simp); (try omega)) _)⟩
      · simp only [Bool.and_true, if_true]
        have HV := HR rfl rfl
        clear HR
        generalize rdW s a x.toNat y.toNat = r at *
        go_enter Tryd.func27, Tryd.ntmps27
        go_wp2_with (first | (go_at_call 40; refine (H1.out _).mono ?_; rintro e wA ⟨rfl, gA⟩; have hc1 := (bcell gA.below).1; have szA := gA.below.size) | (go_at_call_of 52 ((Value.int .i64 x)); refine (HX.out _).mono ?_; rintro e w1 ⟨rfl, rfl⟩) | (go_at_call_of 52 ((Value.int .i64 y)); refine (HY.out _).mono ?_; rintro e w1 ⟨rfl, rfl⟩))
        go_at_call 53
        refine (HV.out _).mono ?_
        rintro e w5 ⟨rfl, g5⟩
        go_wp2_with fail
        go_ret2
        exact ⟨rfl, Gr.trans (Gr.alloc (Gr.refl _) _) (Gr.trans gA g5)⟩
set_option maxRecDepth 100000 in
set_option maxHeartbeats 1600000 in
theorem Tryd.iRoundOfBlock (w : World) (s a : ByteArray) (hs : s.size ≤ maxLen) (ha : a.size ≤ maxLen) (x y : Int) :
    Calls Tryd.prog 28 #[.agg #[.string s, .string a], .int .i64 x, .int .i64 y] w fun e w' => e = .returned (.tuple #[.int .i64 (rbV s a x y), .bool (rbB s a x y)]) ∧ Gr w w' := by
  obtain ⟨b, hb⟩ : ∃ b, okW s a = b := ⟨_, rfl⟩
  have H1 := Lib.hid (fun (W : World) => Tryd.iAreWays W s a hs ha b hb)
  cases b
  · have e : rbB s a x y = false := by unfold rbB; rw [hb]; rfl
    unfold rbV
    rw [e]
    simp only [Bool.false_eq_true, if_false]
    clear hs ha hb e
    go_enter Tryd.func28, Tryd.ntmps28
    go_wp2_with (first | (go_at_call 16; refine (H1.out _).mono ?_; rintro e w1 ⟨rfl, hbW⟩; have hcW := (bcell hbW.below).1; have hfW := (bcell hbW.below).2; (try have hzW : w.heap.size < w1.heap.size := by have hq := hbW.below.size; (try simp at hq); omega); (try have hyW : w.heap.size + 1 < w1.heap.size := by have hq := hbW.below.size; (try simp at hq); omega); (try have hxW : w.heap.size + 2 < w1.heap.size := by have hq := hbW.below.size; (try simp at hq); omega)))
    go_ret2
    exact ⟨rfl, by repeat (first | exact Gr.refl _ | refine Gr.alloc ?_ _ | refine Gr.trans ?_ (by assumption) | refine Gr.drew ?_ | refine Gr.drewN ?_ _ | refine Gr.grow ?_ _ | refine Gr.setCell ?_ (by (try simp); (try omega)) _)⟩
  · obtain ⟨h1, h2⟩ := okW_and hb
    have l1 := okT_len h1
    have l2 := okT_len h2
    obtain ⟨bx, hbx⟩ : ∃ b, inn x 0 ((a.size : Int) - 2) = b := ⟨_, rfl⟩
    obtain ⟨bz, hby⟩ : ∃ b, inn y 0 ((s.size : Int) - 2) = b := ⟨_, rfl⟩
    have HX := Lib.hid (fun (W : World) => Tryd.within x 0 ((a.size : Int) - 2) bx hbx W)
    have HY := Lib.hid (fun (W : World) => Tryd.within y 0 ((s.size : Int) - 2) bz hby W)
    have wr1 : IntKind.i64.wrap ((a.size : Int) - 2) = (a.size : Int) - 2 := IntWalk.i64_in _ (by omega)
    have wr2 : IntKind.i64.wrap ((s.size : Int) - 2) = (s.size : Int) - 2 := IntWalk.i64_in _ (by omega)
    have e : rbB s a x y = (bx && bz) := by unfold rbB; rw [hb, ← hbx, ← hby]; rfl
    have HQ := Lib.hid hbx
    have HQ2 := Lib.hid hby
    have HH1 := Lib.hid h1
    have HH2 := Lib.hid h2
    unfold rbV
    rw [e]
    clear e hb h1 h2 hs ha hbx hby
    cases bx
    · simp only [Bool.false_and, Bool.false_eq_true, if_false]
      go_enter Tryd.func28, Tryd.ntmps28
      go_wp2_with (first | (go_at_call 16; refine (H1.out _).mono ?_; rintro e w1 ⟨rfl, hbW⟩; have hcW := (bcell hbW.below).1; have hfW := (bcell hbW.below).2; (try have hzW : w.heap.size < w1.heap.size := by have hq := hbW.below.size; (try simp at hq); omega); (try have hyW : w.heap.size + 1 < w1.heap.size := by have hq := hbW.below.size; (try simp at hq); omega); (try have hxW : w.heap.size + 2 < w1.heap.size := by have hq := hbW.below.size; (try simp at hq); omega)) | (go_at_call_of 54 ((Value.int .i64 x)); refine (HX.out _).mono ?_; rintro e w1 ⟨rfl, rfl⟩))
      go_ret2
      exact ⟨rfl, by repeat (first | exact Gr.refl _ | refine Gr.alloc ?_ _ | refine Gr.trans ?_ (by assumption) | refine Gr.drew ?_ | refine Gr.drewN ?_ _ | refine Gr.grow ?_ _ | refine Gr.setCell ?_ (by (try simp); (try omega)) _)⟩
    · cases bz
      · simp only [Bool.and_false, Bool.false_eq_true, if_false]
        go_enter Tryd.func28, Tryd.ntmps28
        go_wp2_with (first | (go_at_call 16; refine (H1.out _).mono ?_; rintro e w1 ⟨rfl, hbW⟩; have hcW := (bcell hbW.below).1; have hfW := (bcell hbW.below).2; (try have hzW : w.heap.size < w1.heap.size := by have hq := hbW.below.size; (try simp at hq); omega); (try have hyW : w.heap.size + 1 < w1.heap.size := by have hq := hbW.below.size; (try simp at hq); omega); (try have hxW : w.heap.size + 2 < w1.heap.size := by have hq := hbW.below.size; (try simp at hq); omega)) | (go_at_call_of 54 ((Value.int .i64 x)); refine (HX.out _).mono ?_; rintro e w1 ⟨rfl, rfl⟩) | (go_at_call_of 54 ((Value.int .i64 y)); refine (HY.out _).mono ?_; rintro e w1 ⟨rfl, rfl⟩))
        go_ret2
        exact ⟨rfl, by repeat (first | exact Gr.refl _ | refine Gr.alloc ?_ _ | refine Gr.trans ?_ (by assumption) | refine Gr.drew ?_ | refine Gr.drewN ?_ _ | refine Gr.grow ?_ _ | refine Gr.setCell ?_ (by (try simp); (try omega)) _)⟩
      · simp only [Bool.and_true, if_true]
        have q1 := inn_e HQ.out
        have q2 := inn_e HQ2.out
        obtain ⟨m, rfl⟩ : ∃ m : Nat, (m : Int) = x := ⟨x.toNat, by omega⟩
        obtain ⟨n, rfl⟩ : ∃ n : Nat, (n : Int) = y := ⟨y.toNat, by omega⟩
        have zx0 : (0 : Int) ≤ (m : Int) := by omega
        have zy0 : (0 : Int) ≤ (n : Int) := by omega
        have zx2 : (m : Int) + 2 ≤ (a.size : Int) := by omega
        have zy2 : (n : Int) + 2 ≤ (s.size : Int) := by omega
        have zx3 : (0 : Int) ≤ (m : Int) + 2 := by omega
        have zy3 : (0 : Int) ≤ (n : Int) + 2 := by omega
        have zx4 : (m : Int) ≤ (m : Int) + 2 := by omega
        have zy4 : (n : Int) ≤ (n : Int) + 2 := by omega
        have n1 : ((m : Int) + 2).toNat = m + 2 := by omega
        have n2 : ((n : Int) + 2).toNat = n + 2 := by omega
        have wr3 : IntKind.i64.wrap ((m : Int) + 2) = (m : Int) + 2 := IntWalk.i64_in _ (by omega)
        have wr4 : IntKind.i64.wrap ((n : Int) + 2) = (n : Int) + 2 := IntWalk.i64_in _ (by omega)
        have e1 := ext_2g s n (by omega)
        have e2 := ext_2g a m (by omega)
        unfold rdW
        rw [show ((m : Int)).toNat = m from Int.toNat_natCast m, show ((n : Int)).toNat = n from Int.toNat_natCast n]
        have HR := Lib.hid (fun (W : World) => Tryd.roundOf W (gb s n) (gb s (n + 1)) (gb a m) (gb a (m + 1)))
        generalize rg (gb s n) (gb s (n + 1)) (gb a m) (gb a (m + 1)) = r at *
        generalize gb s n = p0 at *
        generalize gb s (n + 1) = p1 at *
        generalize gb a m = q0 at *
        generalize gb a (m + 1) = q1 at *
        clear HQ HQ2 HH1 HH2
        go_enter Tryd.func28, Tryd.ntmps28
        go_wp2_with (first | (go_at_call 16; refine (H1.out _).mono ?_; rintro e wA ⟨rfl, gA⟩; obtain ⟨y0, y1⟩ := ks gA (b := w.heap.size) (x := .string s) (y := .string a) ⟨by simp [go_sem], by simp [go_sem]⟩) | (go_at_call_of 54 ((Value.int .i64 (m : Int))); refine (HX.out _).mono ?_; rintro e w1 ⟨rfl, rfl⟩) | (go_at_call_of 54 ((Value.int .i64 (n : Int))); refine (HY.out _).mono ?_; rintro e w1 ⟨rfl, rfl⟩))
        have HS0 := ks gA (b := w.heap.size) (x := .string s) (y := .string a) ⟨by simp [go_sem], by simp [go_sem]⟩
        have szA : w.heap.size < wA.heap.size := World.block_lt_of_cell? _ _ HS0.1
        go_region_held3 (fun W' => W'.cell? ⟨w.heap.size, 0, none⟩ = some (.string s) ∧ W'.cell? ⟨w.heap.size, 1, none⟩ = some (.string a))
          (first | assumption | (refine ks (Gr.drew (Gr.refl _)) ?_; assumption; done))
          (first | (go_at_call 51; refine (HR.out _).mono ?_; rintro e w5 ⟨rfl, g5⟩; have HS5 := ks (show Gr wA w5 from (by repeat (first | exact Gr.refl _ | refine Gr.alloc ?_ _ | refine Gr.trans ?_ (by assumption) | refine Gr.drew ?_ | refine Gr.drewN ?_ _ | refine Gr.grow ?_ _ | refine Gr.setCell ?_ (by (try simp); (try omega)) _))) HS0))
        go_wp2_with fail
        go_ret2
        exact ⟨rfl, Gr.trans (Gr.alloc (Gr.refl _) _) (Gr.trans gA (by first | exact g5 | exact Gr.trans (Gr.drew (Gr.refl _)) g5))⟩
end Go.Proofs
