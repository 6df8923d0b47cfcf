/-
  Contracts of chapter 2: the plates before a plate and the others, both sides.
-/
import Derived.Test.YtbnkhmemicmadabPlQC
import Derived.Deep.DeepCutAuto
import Derived.Deep.RegionHeld3
namespace Go.Proofs
open Go.RowKit Pl
set_option linter.unusedVariables false
set_option linter.unusedSimpArgs false
def ptB (ps : List Pi2) (p : Pi2) : Bool := okB ps && isP p.1 p.2 && decide (plc ps p ≠ 0 ∧ plc ps p ≠ ps.length)
def ptL (ps : List Pi2) (p : Pi2) : List Pi2 := if ptB ps p then ps.take (plc ps p) else []
def ptR (ps : List Pi2) (p : Pi2) : List Pi2 := if ptB ps p then ps.drop (plc ps p) else []
theorem pt_len (ps : List Pi2) (p : Pi2) : (ptL ps p).length ≤ ps.length ∧ (ptR ps p).length ≤ ps.length := by
  unfold ptL ptR; constructor <;> split <;> simp <;> omega
theorem pt_no {ps : List Pi2} {p : Pi2} (h : ptB ps p = false) : ptL ps p = [] ∧ ptR ps p = [] := ⟨by simp [ptL, h], by simp [ptR, h]⟩
set_option maxRecDepth 100000 in
set_option maxHeartbeats 3200000 in
theorem Try.iPartPlates (w : World) (B : Nat) (v : Value) (ps : List Pi2) (p0 p1 : Int) (hl : ps.length ≤ 1048576) (h : OwnP 34 w B v ps) :
    Calls Try.prog 39 #[v, .agg #[.int .i64 p0, .int .i64 p1]] w fun e w' => ∃ v1 v2 wM, e = .returned (.tuple #[v1, v2, .bool (ptB ps (p0, p1))]) ∧ OwnP 34 w' w.heap.size v1 (ptL ps (p0, p1)) ∧ OwnP 34 wM w.heap.size v1 (ptL ps (p0, p1)) ∧ OwnP 34 w' wM.heap.size v2 (ptR ps (p0, p1)) ∧ w.heap.size ≤ wM.heap.size ∧ Below w.heap.size w w' := by
  have mixed : Try.prog.follows .mixedOrders = true := by kernel_rfl
  have gW : Gr w (w.alloc (.cells #[.int .i64 p0, .int .i64 p1] 34)) := Gr.alloc (Gr.refl _) _
  have bx := fun (W : World) (g : Gr (w.alloc (.cells #[.int .i64 p0, .int .i64 p1] 34)) W) => boxG (w := w) g
  have HBX := Lib.hid bx
  clear bx
  have HG := Lib.hid gW
  obtain ⟨b0, b1⟩ := HBX.out _ (Gr.refl _)
  cases hg : okB ps
  · have hB : ptB ps (p0, p1) = false := by simp [ptB, hg]
    have HA := Lib.hid (fun (W : World) (g : Gr w W) => Try.iArePlates W B v ps false (okB_i ps _ hg) hl (h.gr g))
    obtain ⟨e1, e2⟩ := pt_no hB
    rw [e1, e2, hB]
    obtain ⟨A, c, rfl, h⟩ := h.eta
    clear h hg hB e1 e2 gW
    go_enter Try.func39, Try.ntmps39
    go_wp2_with (first | (go_at_call 46; refine (HA.out _ (by repeat (first | exact Gr.refl _ | refine Gr.alloc ?_ _ | refine Gr.trans ?_ (by assumption) | refine Gr.drew ?_ | refine Gr.drewN ?_ _ | refine Gr.grow ?_ _ | refine Gr.setCell ?_ (by (try simp); (try omega)) _))).mono ?_; rintro e w1 ⟨rfl, hbW⟩; have hcW := (bcell hbW.below).1; have hfW := (bcell hbW.below).2; (try have hzW : w.heap.size < w1.heap.size := by have hq := hbW.below.size; (try simp at hq); omega); (try have hyW : w.heap.size + 1 < w1.heap.size := by have hq := hbW.below.size; (try simp at hq); omega); (try have hxW : w.heap.size + 2 < w1.heap.size := by have hq := hbW.below.size; (try simp at hq); omega)))
    go_ret3
    exact ⟨_, _, _, rfl, OwnP.nil _ _ _, OwnP.nil _ _ _, OwnP.nil _ _ _, (Gr.below (by repeat (first | exact Gr.refl _ | refine Gr.alloc ?_ _ | refine Gr.trans ?_ (by assumption) | refine Gr.drew ?_ | refine Gr.drewN ?_ _ | refine Gr.grow ?_ _ | refine Gr.setCell ?_ (by (try simp); (try omega)) _))).size, Gr.below (by repeat (first | exact Gr.refl _ | refine Gr.alloc ?_ _ | refine Gr.trans ?_ (by assumption) | refine Gr.drew ?_ | refine Gr.drewN ?_ _ | refine Gr.grow ?_ _ | refine Gr.setCell ?_ (by (try simp); (try omega)) _))⟩
  · have HA := Lib.hid (fun (W : World) (g : Gr w W) => Try.iArePlates W B v ps true (okB_i ps _ hg) hl (h.gr g))
    have hok := (okB_iff ps).1 hg
    cases hp : isP p0 p1
    · have hB : ptB ps (p0, p1) = false := by simp [ptB, hp]
      have HP := Lib.hid hp
      obtain ⟨e1, e2⟩ := pt_no hB
      rw [e1, e2, hB]
      obtain ⟨A, c, rfl, h⟩ := h.eta
      clear h hg hB e1 e2 gW hp hok
      go_enter Try.func39, Try.ntmps39
      go_wp2_with (first | (go_at_call 46; refine (HA.out _ (by repeat (first | exact Gr.refl _ | refine Gr.alloc ?_ _ | refine Gr.trans ?_ (by assumption) | refine Gr.drew ?_ | refine Gr.drewN ?_ _ | refine Gr.grow ?_ _ | refine Gr.setCell ?_ (by (try simp); (try omega)) _))).mono ?_; rintro e w1 ⟨rfl, hbW⟩; have hcW := (bcell hbW.below).1; have hfW := (bcell hbW.below).2; (try have hzW : w.heap.size < w1.heap.size := by have hq := hbW.below.size; (try simp at hq); omega); (try have hyW : w.heap.size + 1 < w1.heap.size := by have hq := hbW.below.size; (try simp at hq); omega); (try have hxW : w.heap.size + 2 < w1.heap.size := by have hq := hbW.below.size; (try simp at hq); omega)) | (go_at_call 55; refine (Try.iIsPlate _ _ _ HP.out _).mono ?_; rintro e w2 ⟨rfl, hbX⟩))
      go_ret3
      exact ⟨_, _, _, rfl, OwnP.nil _ _ _, OwnP.nil _ _ _, OwnP.nil _ _ _, (Gr.below (by repeat (first | exact Gr.refl _ | refine Gr.alloc ?_ _ | refine Gr.trans ?_ (by assumption) | refine Gr.drew ?_ | refine Gr.drewN ?_ _ | refine Gr.grow ?_ _ | refine Gr.setCell ?_ (by (try simp); (try omega)) _))).size, Gr.below (by repeat (first | exact Gr.refl _ | refine Gr.alloc ?_ _ | refine Gr.trans ?_ (by assumption) | refine Gr.drew ?_ | refine Gr.drewN ?_ _ | refine Gr.grow ?_ _ | refine Gr.setCell ?_ (by (try simp); (try omega)) _))⟩
    · have HP := Lib.hid hp
      have HI := Lib.hid (fun (W : World) (g : Gr w W) => Try.indexForPlate W B v ps p0 p1 hok.2.2.1 hp (hok.1) hl (h.gr g))
      have hn := plc_le ps (p0, p1)
      by_cases hk : plc ps (p0, p1) = 0 ∨ plc ps (p0, p1) = ps.length
      · have hB : ptB ps (p0, p1) = false := by
          unfold ptB
          rw [show decide (plc ps (p0, p1) ≠ 0 ∧ plc ps (p0, p1) ≠ ps.length) = false from decide_eq_false (by omega)]
          simp
        obtain ⟨e1, e2⟩ := pt_no hB
        rw [e1, e2, hB]
        generalize plc ps (p0, p1) = k at *
        have hpos := hok.1
        obtain ⟨A, c, rfl, h⟩ := h.eta
        have hk2 : k = 0 ∨ (0 < k ∧ k = ps.length) := by omega
        have dl0 : ((ps.length : Int) == 0) = false := by simp; intro q; subst q; simp at hpos
        have dl1 : decide (ps.length = 0) = false := by simp; intro q; subst q; simp at hpos
        clear h hg hB e1 e2 gW hp hok hk
        rcases hk2 with rfl | ⟨hk0, rfl⟩
        all_goals
          go_enter Try.func39, Try.ntmps39
          go_wp2_with (first | (go_at_call 46; refine (HA.out _ (by repeat (first | exact Gr.refl _ | refine Gr.alloc ?_ _ | refine Gr.trans ?_ (by assumption) | refine Gr.drew ?_ | refine Gr.drewN ?_ _ | refine Gr.grow ?_ _ | refine Gr.setCell ?_ (by (try simp); (try omega)) _))).mono ?_; rintro e w1 ⟨rfl, hbW⟩; have hcW := (bcell hbW.below).1; have hfW := (bcell hbW.below).2; (try have hzW : w.heap.size < w1.heap.size := by have hq := hbW.below.size; (try simp at hq); omega); (try have hyW : w.heap.size + 1 < w1.heap.size := by have hq := hbW.below.size; (try simp at hq); omega); (try have hxW : w.heap.size + 2 < w1.heap.size := by have hq := hbW.below.size; (try simp at hq); omega)) | (go_at_call 55; refine (Try.iIsPlate _ _ _ HP.out _).mono ?_; rintro e w2 ⟨rfl, hbX⟩; (try have hcX := (bcell hbX.below).1)) | (go_at_call 53; refine (HI.out _ (by repeat (first | exact Gr.refl _ | refine Gr.alloc ?_ _ | refine Gr.trans ?_ (by assumption) | refine Gr.drew ?_ | refine Gr.drewN ?_ _ | refine Gr.grow ?_ _ | refine Gr.setCell ?_ (by (try simp); (try omega)) _))).mono ?_; rintro e w3 ⟨rfl, hbY⟩))
          go_ret3
          exact ⟨_, _, _, rfl, OwnP.nil _ _ _, OwnP.nil _ _ _, OwnP.nil _ _ _, (Gr.below (by repeat (first | exact Gr.refl _ | refine Gr.alloc ?_ _ | refine Gr.trans ?_ (by assumption) | refine Gr.drew ?_ | refine Gr.drewN ?_ _ | refine Gr.grow ?_ _ | refine Gr.setCell ?_ (by (try simp); (try omega)) _))).size, Gr.below (by repeat (first | exact Gr.refl _ | refine Gr.alloc ?_ _ | refine Gr.trans ?_ (by assumption) | refine Gr.drew ?_ | refine Gr.drewN ?_ _ | refine Gr.grow ?_ _ | refine Gr.setCell ?_ (by (try simp); (try omega)) _))⟩
      · have hB : ptB ps (p0, p1) = true := by
          unfold ptB
          rw [hg, show isP (p0, p1).1 (p0, p1).2 = true from hp, show decide (plc ps (p0, p1) ≠ 0 ∧ plc ps (p0, p1) ≠ ps.length) = true from decide_eq_true (by omega)]
          rfl
        rw [show ptL ps (p0, p1) = ps.take (plc ps (p0, p1)) by simp [ptL, hB], show ptR ps (p0, p1) = ps.drop (plc ps (p0, p1)) by simp [ptR, hB], hB]
        generalize plc ps (p0, p1) = k at *
        have hmax : ps.length ≤ 60 := hok.2.1
        have hk0 : 0 < k := by omega
        have hk1 : k < ps.length := by omega
        have zk0 : (0 : Int) < (k : Int) := by omega
        have zk1 : (k : Int) < (ps.length : Int) := by omega
        have zk2 : (0 : Int) ≤ (k : Int) := by omega
        have zk3 : (k : Int) ≤ (ps.length : Int) := by omega
        have dk0 : decide (k = 0) = false := by simpa using (by omega : ¬ k = 0)
        have dk1 : ((k : Int) == 0) = false := by simpa using (by omega : ¬ k = 0)
        have dk2 : ((k : Int) == (ps.length : Int)) = false := by simp; omega
        rcases h.view with ⟨hz, _⟩ | ⟨_, g, cap, rfl, _, g2, hcap, hcm, _, _⟩
        · subst hz; simp at hk1
        · have zc1 : (ps.length : Int) ≤ (cap : Int) := by omega
          have zc2 : (k : Int) ≤ (cap : Int) := by omega
          have nck : ¬ cap = k := by omega
          have HR1 := Lib.hid (fun (W : World) (g' : Gr w W) => (show ∀ j u, (pcs (ps.take k))[j]? = some u → W.cell? ((⟨g, 0, none⟩ : Addr).add j) = some u by have := (h.gr g').reads rfl 0 k (by omega); simpa using this))
          have HR2 := Lib.hid (fun (W : World) (g' : Below w.heap.size w W) => (show ∀ j u, (pcs (ps.drop k))[j]? = some u → W.cell? ((⟨g, k * 2, none⟩ : Addr).add j) = some u by
            have := (h.below g' (Nat.le_refl _)).reads rfl k (ps.length - k) (by omega)
            rwa [List.take_of_length_le (by simp)] at this))
          clear h hg hB gW hp hok hk hn hmax
          go_enter Try.func39, Try.ntmps39
          go_wp2_with (first | (go_at_call 46; refine (HA.out _ (by repeat (first | exact Gr.refl _ | refine Gr.alloc ?_ _ | refine Gr.trans ?_ (by assumption) | refine Gr.drew ?_ | refine Gr.drewN ?_ _ | refine Gr.grow ?_ _ | refine Gr.setCell ?_ (by (try simp); (try omega)) _))).mono ?_; rintro e w1 ⟨rfl, hbW⟩; have hcW := (bcell hbW.below).1; have hfW := (bcell hbW.below).2; (try have hzW : w.heap.size < w1.heap.size := by have hq := hbW.below.size; (try simp at hq); omega); (try have hyW : w.heap.size + 1 < w1.heap.size := by have hq := hbW.below.size; (try simp at hq); omega); (try have hxW : w.heap.size + 2 < w1.heap.size := by have hq := hbW.below.size; (try simp at hq); omega)) | (go_at_call 55; refine (Try.iIsPlate _ _ _ HP.out _).mono ?_; rintro e w2 ⟨rfl, hbX⟩; (try have hcX := (bcell hbX.below).1)) | (go_at_call 53; refine (HI.out _ (by repeat (first | exact Gr.refl _ | refine Gr.alloc ?_ _ | refine Gr.trans ?_ (by assumption) | refine Gr.drew ?_ | refine Gr.drewN ?_ _ | refine Gr.grow ?_ _ | refine Gr.setCell ?_ (by (try simp); (try omega)) _))).mono ?_; rintro e w3 ⟨rfl, hbY⟩))
          go_region_held3 (fun _ => True) (trivial)
            ((first | (go_at_call_of 51 (Value.slice (some ⟨g, 0, none⟩) k cap); refine (Try.cloneP _ _ _ _ (ps.take k) (by simp; omega) (by omega) (HR1.out _ (by repeat (first | exact Gr.refl _ | refine Gr.alloc ?_ _ | refine Gr.trans ?_ (by assumption) | refine Gr.drew ?_ | refine Gr.drewN ?_ _ | refine Gr.grow ?_ _ | refine Gr.setCell ?_ (by (try simp); (try omega)) _)))).mono ?_; rintro e w4 ⟨v1, rfl, ho4, hb4⟩) | (go_at_call 51; refine (Try.cloneP _ _ _ _ (ps.drop k) (by simp) (by omega) (HR2.out _ (Below.trans (Gr.below (by repeat (first | exact Gr.refl _ | refine Gr.alloc ?_ _ | refine Gr.trans ?_ (by assumption) | refine Gr.drew ?_ | refine Gr.drewN ?_ _ | refine Gr.grow ?_ _ | refine Gr.setCell ?_ (by (try simp); (try omega)) _))) (hb4.mono (Gr.below (by repeat (first | exact Gr.refl _ | refine Gr.alloc ?_ _ | refine Gr.trans ?_ (by assumption) | refine Gr.drew ?_ | refine Gr.drewN ?_ _ | refine Gr.grow ?_ _ | refine Gr.setCell ?_ (by (try simp); (try omega)) _))).size)))).mono ?_; rintro e w5 ⟨v2, rfl, ho5, hb5⟩)))
          go_wp2
          go_ret3
          have b4 : Below w.heap.size w w4 := Below.trans (Gr.below (by repeat (first | exact Gr.refl _ | refine Gr.alloc ?_ _ | refine Gr.trans ?_ (by assumption) | refine Gr.drew ?_ | refine Gr.drewN ?_ _ | refine Gr.grow ?_ _ | refine Gr.setCell ?_ (by (try simp); (try omega)) _))) (hb4.mono (Gr.below (by repeat (first | exact Gr.refl _ | refine Gr.alloc ?_ _ | refine Gr.trans ?_ (by assumption) | refine Gr.drew ?_ | refine Gr.drewN ?_ _ | refine Gr.grow ?_ _ | refine Gr.setCell ?_ (by (try simp); (try omega)) _))).size)
          have b5 : Below w.heap.size w4 w5 := hb5.mono b4.size
          exact ⟨_, _, w4, rfl, (ho4.mono (Gr.below (by repeat (first | exact Gr.refl _ | refine Gr.alloc ?_ _ | refine Gr.trans ?_ (by assumption) | refine Gr.drew ?_ | refine Gr.drewN ?_ _ | refine Gr.grow ?_ _ | refine Gr.setCell ?_ (by (try simp); (try omega)) _))).size).below hb5 (Nat.le_refl _), ho4.mono (Gr.below (by repeat (first | exact Gr.refl _ | refine Gr.alloc ?_ _ | refine Gr.trans ?_ (by assumption) | refine Gr.drew ?_ | refine Gr.drewN ?_ _ | refine Gr.grow ?_ _ | refine Gr.setCell ?_ (by (try simp); (try omega)) _))).size, ho5, b4.size, b4.trans b5⟩
end Go.Proofs
