/-
  Chapter 7: a row told from another house on, both sides (TurnRow).
-/
import Derived.Test.YtaimpeajeppaiaaDoorRwD
import Derived.Test.YtaimpeajeppaiaaDoorQTail
namespace Go.Proofs
open Go.RowKit Go.Shelf
set_option linter.unusedVariables false
set_option linter.unusedSimpArgs false
def turnT (s : ByteArray) (n : Nat) : ByteArray := s.extract n s.size ++ s.extract 0 n
def turnB (s : ByteArray) (by_ : Int) : Bool := okR s && inn by_ 0 ((s.size : Int) - 1)
def turnV (s : ByteArray) (by_ : Int) : ByteArray := if turnB s by_ = true then turnT s by_.toNat else ⟨#[]⟩
set_option maxRecDepth 100000 in
set_option maxHeartbeats 1600000 in
theorem Tryd.sTurnRow (w : World) (s : ByteArray) (n : Int) (hs : s.size ≤ maxLen) (b : Bool) (hb : turnB s n = b) (r : ByteArray) (hr : turnV s n = r) :
    Calls Tryd.prog 24 #[.string s, .int .i64 n] w fun e w' => e = .returned (.tuple #[.string r, .bool b]) ∧ Gr w w' := by
  have mixed : Tryd.prog.follows .mixedOrders = true := by kernel_rfl
  unfold turnV at hr
  rw [hb] at hr
  unfold turnB at hb
  cases h1 : okR s
  · rw [h1, Bool.false_and] at hb
    subst hb
    rw [if_neg (by simp)] at hr
    have HR := Lib.hid hr
    have HG := Lib.hid (fun W => Tryd.rwRow W s hs _ h1)
    clear hs h1 hr
    go_enter Tryd.func24, Tryd.ntmps24
    go_wp2_with (first | (go_at_call 28; refine (HG.out _).mono ?_; rintro e w1 ⟨rfl, rfl⟩))
    go_ret2
    exact ⟨by rw [← HR.out]; rfl, by repeat (first | exact Gr.refl _ | refine Gr.alloc ?_ _ | refine Gr.trans ?_ (by assumption) | refine Gr.drew ?_ | refine Gr.drewN ?_ _ | refine Gr.grow ?_ _ | refine Gr.setCell ?_ (by (try simp); (try omega)) _)⟩
  · rw [h1, Bool.true_and] at hb
    have HG := Lib.hid (fun W => Tryd.rwRow W s hs _ h1)
    have hlen := okR_len h1
    have wn : IntKind.i64.wrap ((s.size : Int) - 1) = (s.size : Int) - 1 := IntWalk.i64_in _ (by omega)
    have HI := Lib.hid hb
    cases b
    · rw [if_neg (by simp)] at hr
      have HR := Lib.hid hr
      clear hs h1 hr hb
      go_enter Tryd.func24, Tryd.ntmps24
      go_wp2_with (first | (go_at_call 28; refine (HG.out _).mono ?_; rintro e w1 ⟨rfl, rfl⟩) | (go_at_call 38; refine (Tryd.l1In _ _ _ _ HI.out _).mono ?_; rintro e w1 ⟨rfl, rfl⟩))
      go_ret2
      exact ⟨by rw [← HR.out]; rfl, by repeat (first | exact Gr.refl _ | refine Gr.alloc ?_ _ | refine Gr.trans ?_ (by assumption) | refine Gr.drew ?_ | refine Gr.drewN ?_ _ | refine Gr.grow ?_ _ | refine Gr.setCell ?_ (by (try simp); (try omega)) _)⟩
    · rw [if_pos rfl] at hr
      have hn := inn_e hb
      obtain ⟨m, rfl⟩ : ∃ m : Nat, n = (m : Int) := ⟨n.toNat, by omega⟩
      rw [Int.toNat_natCast] at hr
      unfold turnT at hr
      have p1 : (s.extract m s.size).size ≤ 20 := by rw [ByteArray.size_extract]; omega
      have p3 : (s.extract 0 m).size ≤ 20 := by rw [ByteArray.size_extract]; omega
      obtain ⟨u1, e1⟩ : ∃ p, s.extract m s.size = p := ⟨_, rfl⟩
      obtain ⟨u3, e3⟩ : ∃ p, s.extract 0 m = p := ⟨_, rfl⟩
      rw [e1, e3] at hr
      rw [e1] at p1
      rw [e3] at p3
      have hadd := fun W => run_string_add (P := Tryd.prog) (w := W) u1 u3 (by omega) (by omega)
      rw [hr] at hadd
      have z0 : (0 : Int) ≤ (m : Int) := by omega
      have z1 : (m : Int) ≤ (s.size : Int) := by omega
      clear hs h1 hr hb hn p1 p3
      go_enter Tryd.func24, Tryd.ntmps24
      go_wp2_with (first | (go_at_call 28; refine (HG.out _).mono ?_; rintro e w1 ⟨rfl, rfl⟩) | (go_at_call 38; refine (Tryd.l1In _ _ _ _ HI.out _).mono ?_; rintro e w1 ⟨rfl, rfl⟩))
      (refine wp_region_quiet_grown mixed (by kernel_rfl) ?_; (repeat (first | go_big_quiet_step ((fail)) | quiet_step ((fail)))); refine wpQuiet_nil ?_; intro _ hw'; obtain ⟨⟨nq, osq⟩, hw''⟩ := hw'; subst hw'')
      go_wp2
      go_ret2
      exact ⟨rfl, by repeat (first | exact Gr.refl _ | refine Gr.alloc ?_ _ | refine Gr.trans ?_ (by assumption) | refine Gr.drew ?_ | refine Gr.drewN ?_ _ | refine Gr.grow ?_ _ | refine Gr.setCell ?_ (by (try simp); (try omega)) _)⟩
set_option maxRecDepth 100000 in
set_option maxHeartbeats 1600000 in
theorem Tryd.iTurnRow (w : World) (s : ByteArray) (n : Int) (hs : s.size ≤ maxLen) (b : Bool) (hb : turnB s n = b) (r : ByteArray) (hr : turnV s n = r) :
    Calls Tryd.prog 25 #[.string s, .int .i64 n] w fun e w' => e = .returned (.tuple #[.string r, .bool b]) ∧ Gr w w' := by
  have mixed : Tryd.prog.follows .mixedOrders = true := by kernel_rfl
  unfold turnV at hr
  rw [hb] at hr
  unfold turnB at hb
  cases h1 : okR s
  · rw [h1, Bool.false_and] at hb
    subst hb
    rw [if_neg (by simp)] at hr
    have HR := Lib.hid hr
    have HG := Lib.hid (fun W => Tryd.iIsLitRow W s hs _ h1)
    clear hs h1 hr
    go_enter Tryd.func25, Tryd.ntmps25
    go_wp2_with (first | (go_at_call 27; refine (HG.out _).mono ?_; rintro e w1 ⟨rfl, hbW⟩; have hcW := (bcell hbW.below).1; have hfW := (bcell hbW.below).2; (try have hzW : w.heap.size < w1.heap.size := by have hq := hbW.below.size; (try simp at hq); omega); (try have hyW : w.heap.size + 1 < w1.heap.size := by have hq := hbW.below.size; (try simp at hq); omega); (try have hxW : w.heap.size + 2 < w1.heap.size := by have hq := hbW.below.size; (try simp at hq); omega)))
    go_ret2
    exact ⟨by rw [← HR.out]; rfl, by repeat (first | exact Gr.refl _ | refine Gr.alloc ?_ _ | refine Gr.trans ?_ (by assumption) | refine Gr.drew ?_ | refine Gr.drewN ?_ _ | refine Gr.grow ?_ _ | refine Gr.setCell ?_ (by (try simp); (try omega)) _)⟩
  · rw [h1, Bool.true_and] at hb
    have HG := Lib.hid (fun W => Tryd.iIsLitRow W s hs _ h1)
    have hlen := okR_len h1
    have wn : IntKind.i64.wrap ((s.size : Int) - 1) = (s.size : Int) - 1 := IntWalk.i64_in _ (by omega)
    have HI := Lib.hid hb
    cases b
    · rw [if_neg (by simp)] at hr
      have HR := Lib.hid hr
      clear hs h1 hr hb
      go_enter Tryd.func25, Tryd.ntmps25
      go_wp2_with (first | (go_at_call 27; refine (HG.out _).mono ?_; rintro e w1 ⟨rfl, hbW⟩; have hcW := (bcell hbW.below).1; have hfW := (bcell hbW.below).2; (try have hzW : w.heap.size < w1.heap.size := by have hq := hbW.below.size; (try simp at hq); omega); (try have hyW : w.heap.size + 1 < w1.heap.size := by have hq := hbW.below.size; (try simp at hq); omega); (try have hxW : w.heap.size + 2 < w1.heap.size := by have hq := hbW.below.size; (try simp at hq); omega)) | (go_at_call 36; refine (Tryd.within _ _ _ _ HI.out _).mono ?_; rintro e w1 ⟨rfl, rfl⟩))
      go_ret2
      exact ⟨by rw [← HR.out]; rfl, by repeat (first | exact Gr.refl _ | refine Gr.alloc ?_ _ | refine Gr.trans ?_ (by assumption) | refine Gr.drew ?_ | refine Gr.drewN ?_ _ | refine Gr.grow ?_ _ | refine Gr.setCell ?_ (by (try simp); (try omega)) _)⟩
    · rw [if_pos rfl] at hr
      have hn := inn_e hb
      obtain ⟨m, rfl⟩ : ∃ m : Nat, n = (m : Int) := ⟨n.toNat, by omega⟩
      rw [Int.toNat_natCast] at hr
      unfold turnT at hr
      have p1 : (s.extract m s.size).size ≤ 20 := by rw [ByteArray.size_extract]; omega
      have p3 : (s.extract 0 m).size ≤ 20 := by rw [ByteArray.size_extract]; omega
      obtain ⟨u1, e1⟩ : ∃ p, s.extract m s.size = p := ⟨_, rfl⟩
      obtain ⟨u3, e3⟩ : ∃ p, s.extract 0 m = p := ⟨_, rfl⟩
      rw [e1, e3] at hr
      rw [e1] at p1
      rw [e3] at p3
      have hadd := fun W => run_string_add (P := Tryd.prog) (w := W) u1 u3 (by omega) (by omega)
      rw [hr] at hadd
      have z0 : (0 : Int) ≤ (m : Int) := by omega
      have z1 : (m : Int) ≤ (s.size : Int) := by omega
      clear hs h1 hr hb hn p1 p3
      go_enter Tryd.func25, Tryd.ntmps25
      go_wp2_with (first | (go_at_call 27; refine (HG.out _).mono ?_; rintro e w1 ⟨rfl, hbW⟩; have hcW := (bcell hbW.below).1; have hfW := (bcell hbW.below).2; (try have hzW : w.heap.size < w1.heap.size := by have hq := hbW.below.size; (try simp at hq); omega); (try have hyW : w.heap.size + 1 < w1.heap.size := by have hq := hbW.below.size; (try simp at hq); omega); (try have hxW : w.heap.size + 2 < w1.heap.size := by have hq := hbW.below.size; (try simp at hq); omega)) | (go_at_call 36; refine (Tryd.within _ _ _ _ HI.out _).mono ?_; rintro e w1 ⟨rfl, rfl⟩))
      (refine wp_region_quiet_grown mixed (by kernel_rfl) ?_; (repeat (first | go_big_quiet_step ((fail)) | quiet_step ((fail)))); refine wpQuiet_nil ?_; intro _ hw'; obtain ⟨⟨nq, osq⟩, hw''⟩ := hw'; subst hw'')
      go_wp2
      go_ret2
      exact ⟨rfl, by repeat (first | exact Gr.refl _ | refine Gr.alloc ?_ _ | refine Gr.trans ?_ (by assumption) | refine Gr.drew ?_ | refine Gr.drewN ?_ _ | refine Gr.grow ?_ _ | refine Gr.setCell ?_ (by (try simp); (try omega)) _)⟩
end Go.Proofs
