/-
  Contracts of chapter 5: sums of walks to boxes and to a house, the box of each house (both sides).
-/
import Derived.Test.YtkhjjafeoijaaaaMdH
namespace Go.Proofs
open Go.RowKit
set_option linter.unusedVariables false
set_option linter.unusedSimpArgs false
theorem bwf_bd {xs bs : List Int} (hg : GoodP xs) (h0 : 0 < bs.length) (hb : ∀ j, j < bs.length → -200 ≤ gx bs j ∧ gx bs j ≤ 200) (i : Nat) (hi : i < xs.length) : 0 ≤ bwf xs bs i ∧ bwf xs bs i ≤ 300000 := by
  have := stf_bd hg h0 hb 0 i (by omega)
  simpa [stf, bwf] using this
def BWRel (xs bs : List Int) (w : World) (s i : Value) (wr : World) : Prop := Gr w wr ∧ ∃ k : Nat, k ≤ xs.length ∧ i = .int .i64 k ∧ s = .int .i64 (sumF (bwf xs bs) k)
set_option maxRecDepth 100000 in
set_option maxHeartbeats 1600000 in
theorem Try.sBoxesSum (w : World) (B B2 : Nat) (v v2 : Value) (xs bs : List Int) (b : Bool) (hb : b = true ↔ BoxesP xs bs) (hl : xs.length ≤ 1048576) (hl2 : bs.length ≤ 1048576) (h : OwnI w B v xs) (h2 : OwnI w B2 v2 bs) :
    Calls Try.prog 10 #[v, v2] w fun e w' => e = .returned (.tuple #[.int .i64 (if b then boxSum xs bs else 0), .bool b]) ∧ Gr w w' := by
  have HH := Lib.hid (Try.mdBoxes w B B2 v v2 xs bs b hb hl hl2 h h2)
  have H2 := Lib.hid h2
  cases q : b
  · rw [q] at HH
    obtain ⟨A, c, rfl, _⟩ := h.eta
    obtain ⟨A2, c2, rfl, _⟩ := h2.eta
    clear h h2 hb q
    go_enter Try.func10, Try.ntmps10
    go_wp2_with (first | (go_at_call 34; refine (HH.out).mono ?_; rintro e w1 ⟨rfl, hbW⟩; have hcW := (bcell hbW.below).1; have hfW := (bcell hbW.below).2; (try have hzW : w.heap.size < w1.heap.size := by have hq := hbW.below.size; (try simp at hq); omega); (try have hyW : w.heap.size + 1 < w1.heap.size := by have hq := hbW.below.size; (try simp at hq); omega); (try have hxW : w.heap.size + 2 < w1.heap.size := by have hq := hbW.below.size; (try simp at hq); omega)))
    go_ret2
    exact ⟨rfl, by repeat (first | exact Gr.refl _ | refine Gr.alloc ?_ _ | refine Gr.trans ?_ (by assumption) | refine Gr.drew ?_ | refine Gr.drewN ?_ _ | refine Gr.grow ?_ _ | refine Gr.setCell ?_ (by (try simp); (try omega)) _)⟩
  · rw [q] at HH
    have hB := hb.1 q
    have hg := hB.1
    have hxl := hg.1
    have hbx := h2.boxes (by have := hB.2.1; omega) (by have := hB.2.1; omega) hB.bd
    have HBX := Lib.hid hbx
    have HBD := Lib.hid hB
    obtain ⟨A2, c2, rfl, _⟩ := h2.eta
    rcases h.view with ⟨rfl, _⟩ | ⟨hpos, g, c, rfl, _, _, _, hc, _⟩
    · simp at hxl
    · have HC := Lib.hid hc
      have HE := Lib.hid (show boxSum xs bs = sumF (bwf xs bs) xs.length from rfl)
      obtain ⟨R, hR⟩ : ∃ R, boxSum xs bs = R := ⟨_, rfl⟩
      rw [if_pos rfl]
      rw [hR] at HE ⊢
      clear h h2 hb q hc hB hg hbx hR
      go_enter Try.func10, Try.ntmps10
      go_wp2_with (first | (go_at_call 34; refine (HH.out).mono ?_; rintro e w1 ⟨rfl, hbW⟩; have hcW := (bcell hbW.below).1; have hfW := (bcell hbW.below).2; (try have hzW : w.heap.size < w1.heap.size := by have hq := hbW.below.size; (try simp at hq); omega); (try have hyW : w.heap.size + 1 < w1.heap.size := by have hq := hbW.below.size; (try simp at hq); omega); (try have hxW : w.heap.size + 2 < w1.heap.size := by have hq := hbW.below.size; (try simp at hq); omega)))
      have GW := Lib.hid (show Gr w w1 from (by repeat (first | exact Gr.refl _ | refine Gr.alloc ?_ _ | refine Gr.trans ?_ (by assumption) | refine Gr.drew ?_ | refine Gr.drewN ?_ _ | refine Gr.grow ?_ _ | refine Gr.setCell ?_ (by (try simp); (try omega)) _)))
      clear hcW hfW hbW
      go_loopw [6, 15] (fun s i wr => BWRel xs bs w s i wr) (fun _ i _ => (xs.length - intOf i).toNat)
      case atStart => exact ⟨GW.out, 0, Nat.zero_le _, rfl, rfl⟩
      case round =>
        obtain ⟨gr, k, hk, rfl, rfl⟩ := hrel
        have HG := Lib.hid gr
        by_cases hlt : k < xs.length
        · have e1 := gr.keep2 (HC.out k hlt)
          have z0 : (0 : Int) ≤ (k : Int) := by omega
          have z1 : (k : Int) < (xs.length : Int) := by omega
          have hs := sumF_bd (f := bwf xs bs) (n := k) (K := 300000) (fun i hi => bwf_bd HBD.out.1 (by have := HBD.out.2.1; omega) HBD.out.bd i (by omega))
          have hp := bwf_bd HBD.out.1 (by have := HBD.out.2.1; omega) HBD.out.bd k hlt
          have nb := near_bd (h := (k : Int)) (by have := HBD.out.2.1; omega) HBD.out.bd
          have HN := Lib.hid (sumF_succ (bwf xs bs) k)
          have hm : bwf xs bs k = xs.getD k 0 * avv ((k : Int) - near bs (k : Int)) := rfl
          have HNB := Lib.hid (Try.mdNear wr _ bs (k : Int) (HBX.out.gr gr) (by omega))
          generalize near bs (k : Int) = nr at *
          have wd : IntKind.i64.wrap ((k : Int) - nr) = (k : Int) - nr := IntWalk.i64_in _ (by omega)
          have HA := Lib.hid (fun W => Try.l1AbsM ((k : Int) - nr) W (by omega) (by omega))
          obtain ⟨p, hp'⟩ : ∃ p, bwf xs bs k = p := ⟨_, rfl⟩
          rw [hp'] at hp hm HN
          generalize avv ((k : Int) - nr) = d at HA hm
          generalize xs.getD k 0 = y at e1 hm
          have wm : IntKind.i64.wrap (y * d) = p := by rw [← hm]; exact IntWalk.i64_in _ (by omega)
          clear gr hp' hm
          generalize sumF (bwf xs bs) k = s at *
          go_wp2_with (first | (go_at_call 35; refine (HA.out _).mono ?_; rintro e w1 ⟨rfl, rfl⟩) | (go_at_call 36; refine (HNB.out).mono ?_; rintro e w1 ⟨rfl, hbW⟩; have hcW := (bcell hbW.below).1; have hfW := (bcell hbW.below).2; (try have hzW : w.heap.size < w1.heap.size := by have hq := hbW.below.size; (try simp at hq); omega); (try have hyW : w.heap.size + 1 < w1.heap.size := by have hq := hbW.below.size; (try simp at hq); omega); (try have hxW : w.heap.size + 2 < w1.heap.size := by have hq := hbW.below.size; (try simp at hq); omega)))
          go_roundw
          case rel => exact ⟨HG.out.trans (by repeat (first | exact Gr.refl _ | refine Gr.alloc ?_ _ | refine Gr.trans ?_ (by assumption) | refine Gr.drew ?_ | refine Gr.drewN ?_ _ | refine Gr.grow ?_ _ | refine Gr.setCell ?_ (by (try simp); (try omega)) _)), k + 1, by omega, by go_num, by rw [HN.out]⟩
          case measure => simp [intOf]; omega
        · obtain rfl : k = xs.length := by omega
          rw [← HE.out]
          clear gr
          go_wp2
          go_ret2
          exact ⟨rfl, HG.out⟩
theorem Try.idx0 (a b : Int) (W : World) : (Instr.index 56 (.agg #[.int .i64 a, .int .i64 b]) (.int .i64 0)).run Try.prog W = .ok (.int .i64 a) W := by kernel_rfl
theorem Try.idx1 (a b : Int) (W : World) : (Instr.index 56 (.agg #[.int .i64 a, .int .i64 b]) (.int .i64 1)).run Try.prog W = .ok (.int .i64 b) W := by kernel_rfl
set_option maxHeartbeats 1600000 in
theorem Try.iBoxesSum (w : World) (B B2 : Nat) (v v2 : Value) (xs bs : List Int) (b : Bool) (hb : b = true ↔ BoxesP xs bs) (hl : xs.length ≤ 1048576) (hl2 : bs.length ≤ 1048576) (h : OwnI w B v xs) (h2 : OwnI w B2 v2 bs) :
    Calls Try.prog 12 #[v, v2] w fun e w' => e = .returned (.tuple #[.int .i64 (if b then boxSum xs bs else 0), .bool b]) ∧ Gr w w' := by
  have HH := Lib.hid (Try.haveBoxes w B B2 v v2 xs bs b hb hl hl2 h h2)
  cases q : b
  · rw [q] at HH
    obtain ⟨A, c, rfl, _⟩ := h.eta
    obtain ⟨A2, c2, rfl, _⟩ := h2.eta
    clear h h2 hb q
    go_enter Try.func12, Try.ntmps12
    go_wp2_with (first | (go_at_call 37; refine (HH.out).mono ?_; rintro e w1 ⟨rfl, hbW⟩; have hcW := (bcell hbW.below).1; have hfW := (bcell hbW.below).2; (try have hzW : w.heap.size < w1.heap.size := by have hq := hbW.below.size; (try simp at hq); omega); (try have hyW : w.heap.size + 1 < w1.heap.size := by have hq := hbW.below.size; (try simp at hq); omega); (try have hxW : w.heap.size + 2 < w1.heap.size := by have hq := hbW.below.size; (try simp at hq); omega)))
    go_ret2
    exact ⟨rfl, by repeat (first | exact Gr.refl _ | refine Gr.alloc ?_ _ | refine Gr.trans ?_ (by assumption) | refine Gr.drew ?_ | refine Gr.drewN ?_ _ | refine Gr.grow ?_ _ | refine Gr.setCell ?_ (by (try simp); (try omega)) _)⟩
  · rw [q] at HH
    have hB := hb.1 q
    have hg := hB.1
    have hbx := h2.boxes (by have := hB.2.1; omega) (by have := hB.2.1; omega) hB.bd
    have hpp := h.ppl hg.1.1
    have HS := Lib.hid (fun w1 (g : Gr w w1) => Try.sumsOfAll w1 v v2 xs bs hg (hpp.gr g) (hbx.gr g))
    obtain ⟨A, c, rfl, _⟩ := h.eta
    obtain ⟨A2, c2, rfl, _⟩ := h2.eta
    rw [if_pos rfl]
    generalize boxSum xs bs = R at *
    clear h h2 hb q hB hg hbx hpp
    have hix := Try.idx1
    go_enter Try.func12, Try.ntmps12
    go_wp2_with (first | (go_at_call 37; refine (HH.out).mono ?_; rintro e w1 ⟨rfl, hbW⟩; have hcW := (bcell hbW.below).1; have hfW := (bcell hbW.below).2; (try have hzW : w.heap.size < w1.heap.size := by have hq := hbW.below.size; (try simp at hq); omega); (try have hyW : w.heap.size + 1 < w1.heap.size := by have hq := hbW.below.size; (try simp at hq); omega); (try have hxW : w.heap.size + 2 < w1.heap.size := by have hq := hbW.below.size; (try simp at hq); omega)) | (go_at_call 38; refine (HS.out _ (by assumption)).mono ?_; rintro e w2 ⟨rfl, g2⟩))
    go_ret2
    exact ⟨rfl, by repeat (first | exact Gr.refl _ | refine Gr.alloc ?_ _ | refine Gr.trans ?_ (by assumption) | refine Gr.drew ?_ | refine Gr.drewN ?_ _ | refine Gr.grow ?_ _ | refine Gr.setCell ?_ (by (try simp); (try omega)) _)⟩
theorem near_one (h x : Int) : near [h] x = h := by simp [near, nearN, gx]
theorem walks_one (xs : List Int) (h : Int) : boxSum xs [h] = walksI xs h := sumF_ext fun i _ => by simp [bwf, near_one]
theorem boxes_one (xs : List Int) (h : Int) : HouseP xs h ↔ BoxesP xs [h] := by
  constructor
  · rintro ⟨g, a, b⟩
    refine ⟨g, by simp, fun j hj => ?_⟩
    obtain rfl : j = 0 := by simp at hj; exact hj
    exact ⟨⟨a, b⟩, fun q => by omega⟩
  · rintro ⟨g, _, r⟩
    have := (r 0 (by simp)).1
    exact ⟨g, by simpa using this⟩
theorem own_one (w : World) (n : Int) (B : Nat) (hB : B ≤ w.heap.size) : OwnI (w.alloc (.cells #[.int .i64 n] 3)) B (.slice (some ⟨w.heap.size, 0, none⟩) 1 1) [n] :=
  ⟨rfl, .inr ⟨_, _, _, rfl, hB, heap_alloc_new _ _, Nat.le_refl _, by decide, rfl, rfl⟩⟩
set_option maxHeartbeats 1600000 in
theorem Try.iWalksTo (w : World) (B : Nat) (v : Value) (xs : List Int) (n : Int) (b : Bool) (hb : b = true ↔ HouseP xs n) (hl : xs.length ≤ 1048576) (h : OwnI w B v xs) :
    Calls Try.prog 19 #[v, .int .i64 n] w fun e w' => e = .returned (.tuple #[.int .i64 (if b then walksI xs n else 0), .bool b]) ∧ Gr w w' := by
  have HS := Lib.hid (Try.iBoxesSum (w.alloc (.cells #[.int .i64 n] 3)) B w.heap.size v (.slice (some ⟨w.heap.size, 0, none⟩) 1 1) xs [n] b (hb.trans (boxes_one xs n)) hl (by simp) (h.gr (Gr.alloc (Gr.refl _) _)) (own_one w n _ (Nat.le_refl _)))
  rw [walks_one] at HS
  obtain ⟨A, c, rfl, _⟩ := h.eta
  generalize (if b = true then walksI xs n else 0) = R at *
  clear h hb
  go_enter Try.func19, Try.ntmps19
  go_wp2_with (first | (go_at_call 12; refine (HS.out).mono ?_; rintro e w1 ⟨rfl, hbW⟩; have hcW := (bcell hbW.below).1; have hfW := (bcell hbW.below).2; (try have hzW : w.heap.size < w1.heap.size := by have hq := hbW.below.size; (try simp at hq); omega); (try have hyW : w.heap.size + 1 < w1.heap.size := by have hq := hbW.below.size; (try simp at hq); omega); (try have hxW : w.heap.size + 2 < w1.heap.size := by have hq := hbW.below.size; (try simp at hq); omega)))
  go_ret2
  exact ⟨rfl, by repeat (first | exact Gr.refl _ | refine Gr.alloc ?_ _ | refine Gr.trans ?_ (by assumption) | refine Gr.drew ?_ | refine Gr.drewN ?_ _ | refine Gr.grow ?_ _ | refine Gr.setCell ?_ (by (try simp); (try omega)) _)⟩
end Go.Proofs
