/-
  Chapter 9: what puzzles are, both sides (impl.IsClue, IsPuzzle; spec.pzGood, IsPuzzle).
-/
import Derived.Test.YtopmclaphcnmbaaDoorPzC
namespace Go.Proofs
open Go.RowKit
set_option linter.unusedVariables false
set_option linter.unusedSimpArgs false
theorem row1 (w : World) (x y z : Int) (t : TypeId) : CluRow (w.alloc (.cells #[.int .i64 x, .int .i64 y, .int .i64 z] t)) (.slice (some ⟨w.heap.size, 0, none⟩) 1 1) [(x, y, z)] := by
  refine ⟨_, 1, rfl, Nat.le_refl _, by decide, .inr ⟨_, 0, rfl, fun j hj => ?_⟩⟩
  obtain rfl : j = 0 := by simp at hj; omega
  simp [go_sem]
theorem pgood_lt {k p : Int} {cs : List Clu} (h : pgood k p cs = true) : pst k p = true ∧ cs.length ≤ 6 ∧ cs.all cok = true := by
  unfold pgood at h
  rw [Bool.and_eq_true, Bool.and_eq_true] at h
  exact ⟨h.1.1, of_decide_eq_true h.1.2, h.2⟩
abbrev pzV (k p : Int) (v : Value) : Value := .agg #[.int .i64 k, .int .i64 p, v]
set_option maxRecDepth 100000 in
set_option maxHeartbeats 1600000 in
theorem Tryd.iIsPuzzle (w : World) (k p : Int) (v : Value) (cs : List Clu) (b : Bool) (hb : pgood k p cs = b) (h : CluRow w v cs) :
    Calls Tryd.prog 30 #[pzV k p v] w fun e w' => e = .returned (.bool b) ∧ Gr w w' := by
  have AC := Lib.hid (fun (W : World) (g : Gr w W) => Tryd.areClues W v cs _ rfl (h.gr g))
  obtain ⟨A, c, rfl, hl, hm, _⟩ := h
  unfold maxLen at hm
  have HB := Lib.hid hb
  clear hb
  cases hg : pst k p
  · have HF := Lib.hid (show b = false by rw [← HB.out]; simp [pgood, hg])
    have H := Lib.hid hg
    clear hg
    go_enter Tryd.func30, Tryd.ntmps30
    go_wp2_with (first | (go_at_call 48; refine (Tryd.canHide _ _ _ H.out _).mono ?_; rintro e w1 ⟨rfl, hbW⟩; have hcW := (bcell hbW.below).1; have hfW := (bcell hbW.below).2; (try have hzW : w.heap.size < w1.heap.size := by have hq := hbW.below.size; (try simp at hq); omega); (try have hyW : w.heap.size + 1 < w1.heap.size := by have hq := hbW.below.size; (try simp at hq); omega); (try have hxW : w.heap.size + 2 < w1.heap.size := by have hq := hbW.below.size; (try simp at hq); omega)))
    go_ret
    exact ⟨by rw [HF.out]; rfl, by repeat (first | exact Gr.refl _ | refine Gr.alloc ?_ _ | refine Gr.trans ?_ (by assumption) | refine Gr.drew ?_ | refine Gr.drewN ?_ _ | refine Gr.grow ?_ _ | refine Gr.setCell ?_ (by (try simp); (try omega)) _)⟩
  · by_cases h6 : cs.length ≤ 6
    · have HF := Lib.hid (show b = cs.all cok by rw [← HB.out]; simp [pgood, hg, h6])
      have z6 : (cs.length : Int) ≤ 6 := by omega
      have H := Lib.hid hg
      clear hg h6
      go_enter Tryd.func30, Tryd.ntmps30
      go_wp2_with (first | (go_at_call 48; refine (Tryd.canHide _ _ _ H.out _).mono ?_; rintro e w1 ⟨rfl, hbW⟩; have hcW := (bcell hbW.below).1; have hfW := (bcell hbW.below).2; (try have hzW : w.heap.size < w1.heap.size := by have hq := hbW.below.size; (try simp at hq); omega); (try have hyW : w.heap.size + 1 < w1.heap.size := by have hq := hbW.below.size; (try simp at hq); omega); (try have hxW : w.heap.size + 2 < w1.heap.size := by have hq := hbW.below.size; (try simp at hq); omega)) | (go_at_call 49; refine (AC.out _ (by repeat (first | exact Gr.refl _ | refine Gr.alloc ?_ _ | refine Gr.trans ?_ (by assumption) | refine Gr.drew ?_ | refine Gr.drewN ?_ _ | refine Gr.grow ?_ _ | refine Gr.setCell ?_ (by (try simp); (try omega)) _))).mono ?_; rintro e w1 ⟨rfl, hbW⟩; have hcW := (bcell hbW.below).1; have hfW := (bcell hbW.below).2; (try have hzW : w.heap.size < w1.heap.size := by have hq := hbW.below.size; (try simp at hq); omega); (try have hyW : w.heap.size + 1 < w1.heap.size := by have hq := hbW.below.size; (try simp at hq); omega); (try have hxW : w.heap.size + 2 < w1.heap.size := by have hq := hbW.below.size; (try simp at hq); omega)))
      go_ret
      exact ⟨by rw [HF.out]; rfl, by repeat (first | exact Gr.refl _ | refine Gr.alloc ?_ _ | refine Gr.trans ?_ (by assumption) | refine Gr.drew ?_ | refine Gr.drewN ?_ _ | refine Gr.grow ?_ _ | refine Gr.setCell ?_ (by (try simp); (try omega)) _)⟩
    · have HF := Lib.hid (show b = false by rw [← HB.out]; simp [pgood, h6])
      have z6 : ¬ (cs.length : Int) ≤ 6 := by omega
      have H := Lib.hid hg
      clear hg h6
      go_enter Tryd.func30, Tryd.ntmps30
      go_wp2_with (first | (go_at_call 48; refine (Tryd.canHide _ _ _ H.out _).mono ?_; rintro e w1 ⟨rfl, hbW⟩; have hcW := (bcell hbW.below).1; have hfW := (bcell hbW.below).2; (try have hzW : w.heap.size < w1.heap.size := by have hq := hbW.below.size; (try simp at hq); omega); (try have hyW : w.heap.size + 1 < w1.heap.size := by have hq := hbW.below.size; (try simp at hq); omega); (try have hxW : w.heap.size + 2 < w1.heap.size := by have hq := hbW.below.size; (try simp at hq); omega)))
      go_ret
      exact ⟨by rw [HF.out]; rfl, by repeat (first | exact Gr.refl _ | refine Gr.alloc ?_ _ | refine Gr.trans ?_ (by assumption) | refine Gr.drew ?_ | refine Gr.drewN ?_ _ | refine Gr.grow ?_ _ | refine Gr.setCell ?_ (by (try simp); (try omega)) _)⟩
set_option maxRecDepth 100000 in
set_option maxHeartbeats 1600000 in
theorem Tryd.pzGood (w : World) (k p : Int) (v : Value) (cs : List Clu) (b : Bool) (hb : pgood k p cs = b) (h : CluRow w v cs) :
    Calls Tryd.prog 22 #[pzV k p v] w fun e w' => e = .returned (.bool b) ∧ Gr w w' := by
  obtain ⟨A, c, rfl, hlc, hm, h⟩ := h
  unfold maxLen at hm
  have HB := Lib.hid hb
  have HC := Lib.hid h
  clear hb h
  cases hg : pst k p
  · have HF := Lib.hid (show b = false by rw [← HB.out]; simp [pgood, hg])
    have H := Lib.hid hg
    clear hg
    go_enter Tryd.func22, Tryd.ntmps22
    go_wp2_with (first | (go_at_call 36; refine (Tryd.pzStreet _ _ _ H.out _).mono ?_; rintro e w1 ⟨rfl, hbW⟩; have hcW := (bcell hbW.below).1; have hfW := (bcell hbW.below).2; (try have hzW : w.heap.size < w1.heap.size := by have hq := hbW.below.size; (try simp at hq); omega); (try have hyW : w.heap.size + 1 < w1.heap.size := by have hq := hbW.below.size; (try simp at hq); omega); (try have hxW : w.heap.size + 2 < w1.heap.size := by have hq := hbW.below.size; (try simp at hq); omega)))
    go_ret
    exact ⟨by rw [HF.out]; rfl, by repeat (first | exact Gr.refl _ | refine Gr.alloc ?_ _ | refine Gr.trans ?_ (by assumption) | refine Gr.drew ?_ | refine Gr.drewN ?_ _ | refine Gr.grow ?_ _ | refine Gr.setCell ?_ (by (try simp); (try omega)) _)⟩
  · by_cases h6 : cs.length ≤ 6
    · have HF := Lib.hid (show b = cs.all cok by rw [← HB.out]; simp [pgood, hg, h6])
      have z6 : ¬ (6 : Int) < (cs.length : Int) := by omega
      have H := Lib.hid hg
      clear hg h6 HB
      go_enter Tryd.func22, Tryd.ntmps22
      go_wp2_with (first | (go_at_call 36; refine (Tryd.pzStreet _ _ _ H.out _).mono ?_; rintro e w1 ⟨rfl, hbW⟩; have hcW := (bcell hbW.below).1; have hfW := (bcell hbW.below).2; (try have hzW : w.heap.size < w1.heap.size := by have hq := hbW.below.size; (try simp at hq); omega); (try have hyW : w.heap.size + 1 < w1.heap.size := by have hq := hbW.below.size; (try simp at hq); omega); (try have hxW : w.heap.size + 2 < w1.heap.size := by have hq := hbW.below.size; (try simp at hq); omega)))
      have gW : Gr w w1 := (by repeat (first | exact Gr.refl _ | refine Gr.alloc ?_ _ | refine Gr.trans ?_ (by assumption) | refine Gr.drew ?_ | refine Gr.drewN ?_ _ | refine Gr.grow ?_ _ | refine Gr.setCell ?_ (by (try simp); (try omega)) _))
      have GW0 := Lib.hid gW
      clear gW hbW hcW
      go_loopw [4, 18] (fun _ i wr => ARelC cs w1 i wr) (fun _ i _ => (cs.length - intOf i).toNat)
      case atStart => exact ⟨by repeat (first | exact Gr.refl _ | refine Gr.alloc ?_ _ | refine Gr.trans ?_ (by assumption) | refine Gr.drew ?_ | refine Gr.drewN ?_ _ | refine Gr.grow ?_ _ | refine Gr.setCell ?_ (by (try simp); (try omega)) _), 0, Nat.zero_le _, rfl, fun j hj => absurd hj (Nat.not_lt_zero _)⟩
      case round =>
        obtain ⟨gr, q, hk, rfl, hall⟩ := hrel
        have gw : Gr w wr := GW0.out.trans gr
        by_cases hlt : q < cs.length
        · rcases HC.out with e | ⟨g, o, rfl, hc⟩
          · rw [e] at hlt; simp at hlt
          obtain ⟨c0, c1, c2⟩ := hc q hlt
          have e0 := gw.keep0 c0
          have e1 := gw.keep0 c1
          have e2 := gw.keep0 c2
          have z0 : (0 : Int) ≤ (q : Int) := by omega
          have z1 : (q : Int) < (cs.length : Int) := by omega
          have HA := Lib.hid hall
          have GR := Lib.hid gr
          have GW := Lib.hid gw
          rcases hy : cs.getD q cl0 with ⟨x, y, z⟩
          rw [hy] at e0 e1 e2
          simp only at e0 e1 e2
          have HY := Lib.hid hy
          clear hy hc c0 c1 c2 hall gr gw
          cases hok : cok (x, y, z)
          · have HF2 := Lib.hid (show b = false by
              rw [HF.out, List.all_eq_false]
              refine ⟨_, List.getElem_mem hlt, ?_⟩
              have := HY.out
              simp only [List.getD, List.getElem?_eq_getElem hlt, Option.getD_some] at this
              rw [this, hok]; simp)
            have HK := Lib.hid hok
            clear hok
            go_wp2_with (first | (go_at_call 37; refine (Tryd.pzClue _ _ _ _ HK.out _).mono ?_; rintro e w1 ⟨rfl, hbW⟩; have hcW := (bcell hbW.below).1; have hfW := (bcell hbW.below).2; (try have hzW : w.heap.size < w1.heap.size := by have hq := hbW.below.size; (try simp at hq); omega); (try have hyW : w.heap.size + 1 < w1.heap.size := by have hq := hbW.below.size; (try simp at hq); omega); (try have hxW : w.heap.size + 2 < w1.heap.size := by have hq := hbW.below.size; (try simp at hq); omega)))
            go_ret
            exact ⟨by rw [HF2.out]; rfl, GW.out.trans (by repeat (first | exact Gr.refl _ | refine Gr.alloc ?_ _ | refine Gr.trans ?_ (by assumption) | refine Gr.drew ?_ | refine Gr.drewN ?_ _ | refine Gr.grow ?_ _ | refine Gr.setCell ?_ (by (try simp); (try omega)) _))⟩
          · have HS := Lib.hid (all_snocC HA.out (show cok (cs.getD q cl0) = true by rw [HY.out]; exact hok))
            have HK := Lib.hid hok
            clear hok
            go_wp2_with (first | (go_at_call 37; refine (Tryd.pzClue _ _ _ _ HK.out _).mono ?_; rintro e w1 ⟨rfl, hbW⟩; have hcW := (bcell hbW.below).1; have hfW := (bcell hbW.below).2; (try have hzW : w.heap.size < w1.heap.size := by have hq := hbW.below.size; (try simp at hq); omega); (try have hyW : w.heap.size + 1 < w1.heap.size := by have hq := hbW.below.size; (try simp at hq); omega); (try have hxW : w.heap.size + 2 < w1.heap.size := by have hq := hbW.below.size; (try simp at hq); omega)))
            go_roundw
            case rel => exact ⟨GR.out.trans (by repeat (first | exact Gr.refl _ | refine Gr.alloc ?_ _ | refine Gr.trans ?_ (by assumption) | refine Gr.drew ?_ | refine Gr.drewN ?_ _ | refine Gr.grow ?_ _ | refine Gr.setCell ?_ (by (try simp); (try omega)) _)), q + 1, by omega, by go_num, HS.out⟩
            case measure => simp [intOf]; omega
        · obtain rfl : q = cs.length := by omega
          have HF2 := Lib.hid (show b = true from HF.out.trans (by
            rw [List.all_eq_true]
            intro x hx
            obtain ⟨j, hj, rfl⟩ := List.getElem_of_mem hx
            have := hall j hj
            simpa [List.getD, hj] using this))
          have GW := Lib.hid gw
          clear hall gr gw
          go_wp2
          go_ret
          exact ⟨by rw [HF2.out]; rfl, GW.out⟩
    · have HF := Lib.hid (show b = false by rw [← HB.out]; simp [pgood, h6])
      have z6 : (6 : Int) < (cs.length : Int) := by omega
      have H := Lib.hid hg
      clear hg h6
      go_enter Tryd.func22, Tryd.ntmps22
      go_wp2_with (first | (go_at_call 36; refine (Tryd.pzStreet _ _ _ H.out _).mono ?_; rintro e w1 ⟨rfl, hbW⟩; have hcW := (bcell hbW.below).1; have hfW := (bcell hbW.below).2; (try have hzW : w.heap.size < w1.heap.size := by have hq := hbW.below.size; (try simp at hq); omega); (try have hyW : w.heap.size + 1 < w1.heap.size := by have hq := hbW.below.size; (try simp at hq); omega); (try have hxW : w.heap.size + 2 < w1.heap.size := by have hq := hbW.below.size; (try simp at hq); omega)))
      go_ret
      exact ⟨by rw [HF.out]; rfl, by repeat (first | exact Gr.refl _ | refine Gr.alloc ?_ _ | refine Gr.trans ?_ (by assumption) | refine Gr.drew ?_ | refine Gr.drewN ?_ _ | refine Gr.grow ?_ _ | refine Gr.setCell ?_ (by (try simp); (try omega)) _)⟩
end Go.Proofs
