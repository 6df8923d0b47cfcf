/-
  Chapter 10: the first desk, both sides; a desk compared, marked and held.
-/
import Derived.Test.YtmdfjcfmceehiaaInts2
namespace Go.Proofs
open Go.RowKit
set_option linter.unusedVariables false
set_option linter.unusedSimpArgs false
theorem cell_gbZ {w w' : World} {row : Option Nat} (d : w.grownBy w' row) {b o : Nat} {v : Value} (h : w.cell? ⟨b, o, none⟩ = some v) (hne : some b ≠ row) : w'.cell? ⟨b, o, none⟩ = some v := d.cell h hne
theorem boxesF {w : World} (a b c d : Value) (t t2 : TypeId) : ((w.alloc (.cells #[a, b] t)).alloc (.cells #[c, d] t2)).cell? ⟨w.heap.size, 0, none⟩ = some a ∧ ((w.alloc (.cells #[a, b] t)).alloc (.cells #[c, d] t2)).cell? ⟨w.heap.size, 1, none⟩ = some b ∧ ((w.alloc (.cells #[a, b] t)).alloc (.cells #[c, d] t2)).cell? ⟨w.heap.size + 1, 0, none⟩ = some c ∧ ((w.alloc (.cells #[a, b] t)).alloc (.cells #[c, d] t2)).cell? ⟨w.heap.size + 1, 1, none⟩ = some d :=
  ⟨by simp [go_sem], by simp [go_sem], by simp [go_sem], by simp [go_sem]⟩
set_option maxHeartbeats 400000 in
theorem Try.eqStreetF (a b : Int) (w : World) :
    Calls Try.prog 9 #[.agg #[.int .i64 a, .int .i64 b], .agg #[.int .i64 a, .int .i64 b]] w fun e w' => e = .returned (.bool true) ∧ Gr w w' := by
  have mixed : Try.prog.follows .mixedOrders = true := by kernel_rfl
  obtain ⟨b0, b1, b2, b3⟩ := boxes w (.int .i64 a) (.int .i64 b) (.int .i64 a) (.int .i64 b) 23 23
  go_enter Try.func9, Try.ntmps9
  go_wp2
  go_ret
  exact ⟨rfl, by repeat (first | exact Gr.refl _ | refine Gr.alloc ?_ _ | refine Gr.trans ?_ (by assumption) | refine Gr.drew ?_ | refine Gr.drewN ?_ _ | refine Gr.grow ?_ _ | refine Gr.setCell ?_ (by (try simp); (try omega)) _)⟩
/-- a desk as a value -/
def dkV (k p : Int) (s : ByteArray) (v : Value) : Value := .agg #[.int .i64 k, .int .i64 p, .string s, v]
set_option maxRecDepth 100000 in
set_option maxHeartbeats 800000 in
theorem Try.eqDesk (w : World) (k p : Int) (s : ByteArray) (B B' : Nat) (a b : Value) (xs : List Int) (ha : OwnI w B a xs) (hb : OwnI w B' b xs) :
    Calls Try.prog 6 #[dkV k p s a, dkV k p s b] w fun e w' => e = .returned (.bool true) ∧ Gr w w' := by
  have ES := Lib.hid (fun (w : World) => Try.eqStreetF k p w)
  have HE := Lib.hid (fun (W : World) (g : Gr w W) => Try.eqIntS W B B' a b xs (ha.gr g) (hb.gr g))
  obtain ⟨A1, c1, rfl, ha⟩ := OwnI.eta ha
  obtain ⟨A2, c2, rfl, hb⟩ := OwnI.eta hb
  clear ha hb
  have mixed : Try.prog.follows .mixedOrders = true := by kernel_rfl
  have ARMS := True.intro
  unfold dkV
  go_enter Try.func6, Try.ntmps6
  go_wp2_with (first | (go_at_call 9; refine (ES.out _).mono ?_; rintro e w1 ⟨rfl, hb1⟩; have t0 : w1.cell? ⟨w.heap.size, 2, none⟩ = some (.string s) := hb1.keep0 (by simp [go_sem]); have t1 : w1.cell? ⟨w.heap.size, 3, none⟩ = some (.slice A1 xs.length c1) := hb1.keep0 (by simp [go_sem]); have t2 : w1.cell? ⟨w.heap.size + 1, 2, none⟩ = some (.string s) := hb1.keep0 (by simp [go_sem]); have t3 : w1.cell? ⟨w.heap.size + 1, 3, none⟩ = some (.slice A2 xs.length c2) := hb1.keep0 (by simp [go_sem])) | (go_at_call 10; refine (HE.out _ (by repeat (first | exact Gr.refl _ | refine Gr.alloc ?_ _ | refine Gr.trans ?_ (by assumption) | refine Gr.drew ?_ | refine Gr.drewN ?_ _ | refine Gr.grow ?_ _ | refine Gr.setCell ?_ (by (try simp); (try omega)) _))).mono ?_; rintro e w1 ⟨rfl, hbW⟩; have hcW := (bcell hbW.below).1; have hfW := (bcell hbW.below).2; (try have hzW : w.heap.size < w1.heap.size := by have hq := hbW.below.size; (try simp at hq); omega); (try have hyW : w.heap.size + 1 < w1.heap.size := by have hq := hbW.below.size; (try simp at hq); omega); (try have hxW : w.heap.size + 2 < w1.heap.size := by have hq := hbW.below.size; (try simp at hq); omega)))
  go_ret
  exact ⟨rfl, by repeat (first | exact Gr.refl _ | refine Gr.alloc ?_ _ | refine Gr.trans ?_ (by assumption) | refine Gr.drew ?_ | refine Gr.drewN ?_ _ | refine Gr.grow ?_ _ | refine Gr.setCell ?_ (by (try simp); (try omega)) _)⟩
set_option maxRecDepth 100000 in
set_option maxHeartbeats 800000 in
theorem Try.markDesk (w : World) (k p : Int) (s : ByteArray) (B : Nat) (v : Value) (xs : List Int) (hlen : xs.length ≤ 1000000000) (h : OwnI w B v xs) :
    Calls Try.prog 7 #[dkV k p s v, .int .i64 1] w fun e w' => e = .returned (.int .i64 (1 + 1 * (xs.length : Int))) ∧ OwnI w' B v (mki 1 xs.length xs) ∧ w.grownBy w' v.ownBlock := by
  have HM := Lib.hid (fun (W : World) (g : Gr w W) => Try.markIntM W B v xs 1 (by omega) (by omega) hlen (h.gr g))
  obtain ⟨A1, c1, rfl, h⟩ := OwnI.eta h
  clear h
  unfold dkV
  go_enter Try.func7, Try.ntmps7
  go_wp2_with (first | (go_at_call 11; refine (HM.out _ (by repeat (first | exact Gr.refl _ | refine Gr.alloc ?_ _ | refine Gr.trans ?_ (by assumption) | refine Gr.drew ?_ | refine Gr.drewN ?_ _ | refine Gr.grow ?_ _ | refine Gr.setCell ?_ (by (try simp); (try omega)) _))).mono ?_; rintro e w1 ⟨rfl, ho1, hg1⟩; have HO := Lib.hid ho1; have HG := Lib.hid hg1; clear ho1 hg1))
  go_ret
  refine ⟨by simp, HO.out, ?_⟩
  have g1 := World.grownBy_alloc w (.cells #[.int .i64 k, .int .i64 p, .string s, .slice A1 xs.length c1] 26) (Value.slice A1 xs.length c1).ownBlock
  have hg := HG.out
  exact ⟨hg.os.trans g1.os, hg.tape.trans g1.tape, hg.output.trans g1.output, Nat.le_trans g1.size hg.size, fun j hj hne => (hg.block j (Nat.lt_of_lt_of_le hj g1.size) hne).trans (g1.block j hj hne)⟩
set_option maxRecDepth 100000 in
set_option maxHeartbeats 800000 in
theorem Try.heldDesk (w : World) (k p : Int) (s : ByteArray) (B : Nat) (v : Value) (xs : List Int) (hlen : xs.length ≤ 1000000000) (h : OwnI w B v (mki 1 xs.length xs)) :
    Calls Try.prog 8 #[dkV k p s v, .int .i64 1] w fun e w' => e = .returned (.int .i64 (1 + 1 * (xs.length : Int))) ∧ Gr w w' := by
  have HM := Lib.hid (fun (W : World) (g : Gr w W) => Try.heldIntM W B v xs 1 (by omega) (by omega) hlen (h.gr g))
  have z : ¬ (1 + 1 * (xs.length : Int)) < 0 := by omega
  have z' : ¬ (1 + (xs.length : Int)) < 0 := by omega
  obtain ⟨A1, c1, rfl, h⟩ := OwnI.eta h
  clear h
  unfold dkV
  go_enter Try.func8, Try.ntmps8
  go_wp2_with (first | (go_at_call 12; refine (HM.out _ (by repeat (first | exact Gr.refl _ | refine Gr.alloc ?_ _ | refine Gr.trans ?_ (by assumption) | refine Gr.drew ?_ | refine Gr.drewN ?_ _ | refine Gr.grow ?_ _ | refine Gr.setCell ?_ (by (try simp); (try omega)) _))).mono ?_; rintro e w1 ⟨rfl, rfl⟩))
  go_ret
  exact ⟨by simp, by repeat (first | exact Gr.refl _ | refine Gr.alloc ?_ _ | refine Gr.trans ?_ (by assumption) | refine Gr.drew ?_ | refine Gr.drewN ?_ _ | refine Gr.grow ?_ _ | refine Gr.setCell ?_ (by (try simp); (try omega)) _)⟩
def fdS : ByteArray := ⟨#[108, 114, 98, 45, 108]⟩
def fdL : List Int := [1, 0, 0, 2, 1]
def RetD (w : World) (e : Ending) (w' : World) : Prop := ∃ v', e = .returned (dkV 1 5 fdS v') ∧ OwnI w' (w.heap.size + 1) v' fdL ∧ Below w.heap.size w w'
theorem own_fd (w : World) : OwnI (w.alloc (.cells #[.int .i64 1, .int .i64 0, .int .i64 0, .int .i64 2, .int .i64 1] 3)) w.heap.size (.slice (some ⟨w.heap.size, 0, none⟩) 5 5) fdL :=
  ⟨by simp [fdL], .inr ⟨w.heap.size, 5, _, rfl, Nat.le_refl _, heap_alloc_new w _, Nat.le_refl _, by decide, by simp, by simp [fdL]⟩⟩
set_option maxHeartbeats 400000 in
theorem Try.sFirstDesk (w : World) : Calls Try.prog 4 #[] w (RetD w) := by
  go_enter Try.func4, Try.ntmps4
  go_wp2
  refine bodyPost_ret (v := dkV 1 5 fdS (.slice (some ⟨w.heap.size + 1, 0, none⟩) 5 5)) (by simp [results, Try.results4, go_sem, dkV, fdS]) rfl ⟨_, rfl, ?_, ?_⟩
  · have h := own_fd (w.alloc (.cells #[.int .i64 1, .int .i64 5, .string fdS, .slice (some ⟨w.heap.size + 1, 0, none⟩) 5 5] 26))
    simpa [go_sem, fdS] using h
  · exact Gr.below (by repeat (first | exact Gr.refl _ | refine Gr.alloc ?_ _ | refine Gr.trans ?_ (by assumption) | refine Gr.drew ?_ | refine Gr.drewN ?_ _ | refine Gr.grow ?_ _ | refine Gr.setCell ?_ (by (try simp); (try omega)) _))
set_option maxHeartbeats 400000 in
theorem Try.iFirstDesk (w : World) : Calls Try.prog 5 #[] w (RetD w) := by
  go_enter Try.func5, Try.ntmps5
  go_wp2
  refine bodyPost_ret (v := dkV 1 5 fdS (.slice (some ⟨w.heap.size + 1, 0, none⟩) 5 5)) (by simp [results, Try.results5, go_sem, dkV, fdS]) rfl ⟨_, rfl, ?_, ?_⟩
  · have h := own_fd (w.alloc (.cells #[.int .i64 1, .int .i64 5, .string fdS, .slice (some ⟨w.heap.size + 1, 0, none⟩) 5 5] 26))
    simpa [go_sem, fdS] using h
  · exact Gr.below (by repeat (first | exact Gr.refl _ | refine Gr.alloc ?_ _ | refine Gr.trans ?_ (by assumption) | refine Gr.drew ?_ | refine Gr.drewN ?_ _ | refine Gr.grow ?_ _ | refine Gr.setCell ?_ (by (try simp); (try omega)) _))
end Go.Proofs
