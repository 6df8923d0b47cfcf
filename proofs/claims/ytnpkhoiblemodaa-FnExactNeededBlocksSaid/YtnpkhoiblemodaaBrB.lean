/-
  Cities: the contracts of the law's own helpers (copy, count, same, marks, marks held).
-/
import Derived.Test.YtnpkhoiblemodaaBrA
import Derived.Test.YtnpkhoiblemodaaInn
namespace Go.Proofs
open Go.RowKit Av
set_option linter.unusedVariables false
set_option linter.unusedSimpArgs false
set_option maxHeartbeats 800000 in
theorem Try.szCity (w : World) (W H : Int) (A : Option Addr) (len cap : Nat) (h2 : len ≤ maxLen) :
    Calls Try.prog 7 #[.agg #[.int .i64 W, .int .i64 H, .slice A len cap], .int .i64 1048576] w fun e w' => e = .returned (.int .i64 (if (1048576 : Int) < len then -1 else 1048576 - len)) ∧ Gr w w' := by
  have SZ := Lib.hid (fun (w : World) => Try.szBlockS w A len cap 1048576 (by omega) (by omega) h2)
  by_cases hlt : (1048576 : Int) < (len : Int)
  · rw [if_pos hlt] at SZ ⊢
    go_enter Try.func7, Try.ntmps7
    go_wp2_with (first | (go_at_call 27; refine (SZ.out _).mono ?_; rintro e w1 ⟨rfl, rfl⟩))
    go_ret
    exact ⟨rfl, by repeat (first | exact Gr.refl _ | refine Gr.alloc ?_ _ | refine Gr.trans ?_ (by assumption) | refine Gr.drew ?_ | refine Gr.drewN ?_ _ | refine Gr.grow ?_ _ | refine Gr.setCell ?_ (by (try simp); (try omega)) _)⟩
  · rw [if_neg hlt] at SZ ⊢
    have q : ¬ (1048576 : Int) - (len : Int) < 0 := by omega
    go_enter Try.func7, Try.ntmps7
    go_wp2_with (first | (go_at_call 27; refine (SZ.out _).mono ?_; rintro e w1 ⟨rfl, rfl⟩))
    go_ret
    exact ⟨rfl, by repeat (first | exact Gr.refl _ | refine Gr.alloc ?_ _ | refine Gr.trans ?_ (by assumption) | refine Gr.drew ?_ | refine Gr.drewN ?_ _ | refine Gr.grow ?_ _ | refine Gr.setCell ?_ (by (try simp); (try omega)) _)⟩
set_option maxRecDepth 100000 in
set_option maxHeartbeats 800000 in
theorem Try.toCity (w : World) (W H : Int) (A : Option Addr) (len cap : Nat) (xs : List Blk) (hb : len ≤ 1048576) (h : ArgB w A len cap xs) :
    Calls Try.prog 9 #[.agg #[.int .i64 W, .int .i64 H, .slice A len cap]] w fun e w' => ∃ v, e = .returned (.agg #[.int .i64 W, .int .i64 H, v]) ∧ OwnB w' w.heap.size v xs ∧ Below w.heap.size w w' := by
  have HB := Lib.hid (fun (W : World) (g : Gr w W) => Try.toBlockS W A len cap xs hb (ArgE.below h g.below))
  clear h
  go_enter Try.func9, Try.ntmps9
  go_wp2_with (first | (go_at_call 32; refine (HB.out _ (by repeat (first | exact Gr.refl _ | refine Gr.alloc ?_ _ | refine Gr.trans ?_ (by assumption) | refine Gr.drew ?_ | refine Gr.drewN ?_ _ | refine Gr.grow ?_ _ | refine Gr.setCell ?_ (by (try simp); (try omega)) _))).mono ?_; rintro e w1 ⟨v1, rfl, hown1, hbl1⟩; obtain ⟨A1, c1, rfl, hown1⟩ := OwnE.eta hown1; have hz1 := hbl1.size; have hcW := (bcell hbl1).1; have hfW := (bcell hbl1).2; have HOW := Lib.hid hown1; have HBL := Lib.hid hbl1; have hz3 : w.heap.size + 2 < w1.heap.size := (by (try simp at hz1); omega); clear hown1 hbl1 hz1; have hz2 : w.heap.size + 1 < w1.heap.size := (by omega); have hz1 : w.heap.size < w1.heap.size := (by omega); have q0 : w1.cell? ⟨w.heap.size + 1, 0, none⟩ = some (.int .i64 0) := (by rw [hcW _ _ (by simp)]; simp [go_sem]); have q1 : w1.cell? ⟨w.heap.size + 1, 1, none⟩ = some (.int .i64 0) := (by rw [hcW _ _ (by simp)]; simp [go_sem]); have q2 : w1.cell? ⟨w.heap.size + 1, 2, none⟩ = some (.slice none 0 0) := (by rw [hcW _ _ (by simp)]; simp [go_sem])))
  refine bodyPost_ret (v := .agg #[.int .i64 W, .int .i64 H, .slice A1 xs.length c1]) (by simp [results, Try.results9, go_sem, q0, q1, q2]) rfl ⟨_, rfl, ?_, ?_⟩
  · have ho := HOW.out
    simp only [World.size_alloc] at ho
    exact OwnE.mono (OwnE.setOther (OwnE.setOther (OwnE.setOther (OwnE.setOther ho (by simp) _) (by simp) _) (by simp) _) (by simp) _) (by omega)
  · have hb := HBL.out
    exact ((((Below.trans (Gr.below (by repeat (first | exact Gr.refl _ | refine Gr.alloc ?_ _ | refine Gr.trans ?_ (by assumption) | refine Gr.drew ?_ | refine Gr.drewN ?_ _ | refine Gr.grow ?_ _ | refine Gr.setCell ?_ (by (try simp); (try omega)) _))) (hb.mono (by simp; omega))).setCell (by simp; omega) _).setCell (by simp) _).setCell (by simp) _).setCell (by simp) _
set_option maxRecDepth 100000 in
set_option maxHeartbeats 800000 in
theorem Try.eqCity (w : World) (W H : Int) (B B' : Nat) (a b : Value) (ps : List Blk) (ha : OwnB w B a ps) (hb : OwnB w B' b ps) :
    Calls Try.prog 12 #[.agg #[.int .i64 W, .int .i64 H, a], .agg #[.int .i64 W, .int .i64 H, b]] w fun e w' => e = .returned (.bool true) ∧ Gr w w' := by
  have HE := Lib.hid (fun (W : World) (g : Gr w W) => Try.eqBlockS W B B' a b ps (ha.gr g) (hb.gr g))
  obtain ⟨A1, c1, rfl, ha⟩ := OwnE.eta ha
  obtain ⟨A2, c2, rfl, hb⟩ := OwnE.eta hb
  clear ha hb
  obtain ⟨b0, b1, b2, b3, b4, b5⟩ := boxesG3 (Gr.refl ((w.alloc (.cells #[.int .i64 W, .int .i64 H, .slice A1 ps.length c1] 30)).alloc (.cells #[.int .i64 W, .int .i64 H, .slice A2 ps.length c2] 30)))
  have mixed : Try.prog.follows .mixedOrders = true := by kernel_rfl
  go_enter Try.func12, Try.ntmps12
  go_wp2_with (first | (go_at_call 20; refine (HE.out _ (by repeat (first | exact Gr.refl _ | refine Gr.alloc ?_ _ | refine Gr.trans ?_ (by assumption) | refine Gr.drew ?_ | refine Gr.drewN ?_ _ | refine Gr.grow ?_ _ | refine Gr.setCell ?_ (by (try simp); (try omega)) _))).mono ?_; rintro e w1 ⟨rfl, hbW⟩; have hcW := (bcell hbW.below).1; have hfW := (bcell hbW.below).2; (try have hzW : w.heap.size < w1.heap.size := by have hq := hbW.below.size; (try simp at hq); omega); (try have hyW : w.heap.size + 1 < w1.heap.size := by have hq := hbW.below.size; (try simp at hq); omega); (try have hxW : w.heap.size + 2 < w1.heap.size := by have hq := hbW.below.size; (try simp at hq); omega)))
  go_ret
  exact ⟨rfl, by repeat (first | exact Gr.refl _ | refine Gr.alloc ?_ _ | refine Gr.trans ?_ (by assumption) | refine Gr.drew ?_ | refine Gr.drewN ?_ _ | refine Gr.grow ?_ _ | refine Gr.setCell ?_ (by (try simp); (try omega)) _)⟩
set_option maxRecDepth 100000 in
set_option maxHeartbeats 800000 in
theorem Try.markCity (w : World) (W H : Int) (B : Nat) (v : Value) (xs : List Blk) (hlen : xs.length ≤ 1000000000) (h : OwnB w B v xs) :
    Calls Try.prog 13 #[.agg #[.int .i64 W, .int .i64 H, v], .int .i64 1] w fun e w' => e = .returned (.int .i64 (1 + 3 * (xs.length : Int))) ∧ OwnB w' B v (mke mkb xs.length xs) ∧ w.grownBy w' v.ownBlock := by
  have HM := Lib.hid (fun (W : World) (g : Gr w W) => Try.markBlockS W B v xs hlen (h.gr g))
  obtain ⟨A1, c1, rfl, h⟩ := OwnE.eta h
  clear h
  go_enter Try.func13, Try.ntmps13
  go_wp2_with (first | (go_at_call 23; refine (HM.out _ (by repeat (first | exact Gr.refl _ | refine Gr.alloc ?_ _ | refine Gr.trans ?_ (by assumption) | refine Gr.drew ?_ | refine Gr.drewN ?_ _ | refine Gr.grow ?_ _ | refine Gr.setCell ?_ (by (try simp); (try omega)) _))).mono ?_; rintro e w1 ⟨rfl, ho1, hg1⟩; have HO := Lib.hid ho1; have HG := Lib.hid hg1; clear ho1 hg1))
  go_ret
  refine ⟨rfl, HO.out, ?_⟩
  have g1 := World.grownBy_alloc w (.cells #[.int .i64 W, .int .i64 H, .slice A1 xs.length c1] 30) (Value.slice A1 xs.length c1).ownBlock
  have hg := HG.out
  exact ⟨hg.os.trans g1.os, hg.tape.trans g1.tape, hg.output.trans g1.output, Nat.le_trans g1.size hg.size, fun j hj hne => (hg.block j (Nat.lt_of_lt_of_le hj g1.size) hne).trans (g1.block j hj hne)⟩
set_option maxRecDepth 100000 in
set_option maxHeartbeats 800000 in
theorem Try.heldCity (w : World) (W H : Int) (B : Nat) (v : Value) (xs : List Blk) (hlen : xs.length ≤ 1000000000) (h : OwnB w B v (mke mkb xs.length xs)) :
    Calls Try.prog 14 #[.agg #[.int .i64 W, .int .i64 H, v], .int .i64 1] w fun e w' => e = .returned (.int .i64 (1 + 3 * (xs.length : Int))) ∧ Gr w w' := by
  have HM := Lib.hid (fun (W : World) (g : Gr w W) => Try.heldBlockS W B v xs hlen (h.gr g))
  have z : ¬ (1 + 3 * (xs.length : Int)) < 0 := by omega
  obtain ⟨A1, c1, rfl, h⟩ := OwnE.eta h
  clear h
  go_enter Try.func14, Try.ntmps14
  go_wp2_with (first | (go_at_call 24; refine (HM.out _ (by repeat (first | exact Gr.refl _ | refine Gr.alloc ?_ _ | refine Gr.trans ?_ (by assumption) | refine Gr.drew ?_ | refine Gr.drewN ?_ _ | refine Gr.grow ?_ _ | refine Gr.setCell ?_ (by (try simp); (try omega)) _))).mono ?_; rintro e w1 ⟨rfl, rfl⟩))
  go_ret
  exact ⟨rfl, by repeat (first | exact Gr.refl _ | refine Gr.alloc ?_ _ | refine Gr.trans ?_ (by assumption) | refine Gr.drew ?_ | refine Gr.drewN ?_ _ | refine Gr.grow ?_ _ | refine Gr.setCell ?_ (by (try simp); (try omega)) _)⟩
end Go.Proofs
