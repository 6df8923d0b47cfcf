/-
  Contracts of chapter 2: as many plates with new numbers.
-/
import Derived.Test.YtbnkhmemicmadabPlK
namespace Go.Proofs
open Go.RowKit Pl
set_option linter.unusedVariables false
set_option linter.unusedSimpArgs false
def nums (n : Nat) : List Pi2 := (List.range n).map fun (j : Nat) => ((j : Int) + 1, 0)
theorem nums_len (n : Nat) : (nums n).length = n := by simp [nums]
theorem nums_succ (n : Nat) : nums (n + 1) = nums n ++ [((n : Int) + 1, 0)] := by simp [nums, List.range_succ]
def rnV (ps : List Pi2) : List Pi2 := if okB ps then nums ps.length else []
theorem rn_len (ps : List Pi2) : (rnV ps).length ≤ ps.length := by unfold rnV; split <;> simp [nums]
def NRelP (T : TypeId) (n : Nat) (w : World) (s i : Value) (wr : World) : Prop := ∃ k : Nat, k ≤ n ∧ i = .int .i64 k ∧ OwnP T wr w.heap.size s (nums k) ∧ Below w.heap.size w wr
set_option maxRecDepth 100000 in
set_option maxHeartbeats 800000 in
theorem Try.sRenumberPlates (w : World) (B : Nat) (v : Value) (ps : List Pi2) (hl : ps.length ≤ 1048576) (h : OwnP 34 w B v ps) :
    Calls Try.prog 31 #[v] w fun e w' => ∃ v, e = .returned (.tuple #[v, .bool (okB ps)]) ∧ OwnP 34 w' w.heap.size v (rnV ps) ∧ Below w.heap.size w w' := by
  cases hg : okB ps
  · have HA := Lib.hid (Try.isGood w B v ps false (okB_i ps _ hg) hl h)
    rw [show rnV ps = [] by simp [rnV, hg]]
    obtain ⟨A, c, rfl, h⟩ := h.eta
    clear h hg
    go_enter Try.func31, Try.ntmps31
    go_wp2_with (go_at_call 42; refine (HA.out).mono ?_; rintro e w1 ⟨rfl, hbW⟩; have hcW := (bcell hbW.below).1; have hfW := (bcell hbW.below).2; (try have hzW : w.heap.size < w1.heap.size := by have hq := hbW.below.size; (try simp at hq); omega); (try have hyW : w.heap.size + 1 < w1.heap.size := by have hq := hbW.below.size; (try simp at hq); omega); (try have hxW : w.heap.size + 2 < w1.heap.size := by have hq := hbW.below.size; (try simp at hq); omega))
    go_ret2
    exact ⟨_, rfl, OwnP.nil _ _ _, Gr.below (by repeat (first | exact Gr.refl _ | refine Gr.alloc ?_ _ | refine Gr.trans ?_ (by assumption) | refine Gr.drew ?_ | refine Gr.drewN ?_ _ | refine Gr.grow ?_ _ | refine Gr.setCell ?_ (by (try simp); (try omega)) _))⟩
  · have HA := Lib.hid (Try.isGood w B v ps true (okB_i ps _ hg) hl h)
    have h60 := ((okB_iff ps).1 hg).2.1
    rw [show rnV ps = nums ps.length by simp [rnV, hg]]
    obtain ⟨A, c, rfl, h⟩ := h.eta
    have zl : (0 : Int) ≤ (ps.length : Int) := by omega
    clear h hg
    go_enter Try.func31, Try.ntmps31
    go_wp2_with (go_at_call 42; refine (HA.out).mono ?_; rintro e w1 ⟨rfl, hbW⟩; have hcW := (bcell hbW.below).1; have hfW := (bcell hbW.below).2; (try have hzW : w.heap.size < w1.heap.size := by have hq := hbW.below.size; (try simp at hq); omega); (try have hyW : w.heap.size + 1 < w1.heap.size := by have hq := hbW.below.size; (try simp at hq); omega); (try have hxW : w.heap.size + 2 < w1.heap.size := by have hq := hbW.below.size; (try simp at hq); omega))
    go_loopw [4, 5, 11] (fun s _ i wr => NRelP 34 ps.length w s i wr) (fun _ _ i _ => (ps.length - intOf i).toNat)
    case atStart => exact ⟨0, Nat.zero_le _, rfl, OwnP.nil _ _ _, Gr.below hbW⟩
    case round =>
      obtain ⟨k, hk, rfl, ho, hb⟩ := hrel
      by_cases hlt : k < ps.length
      · have z0 : (0 : Int) ≤ (k : Int) := by omega
        have z1 : (k : Int) < (ps.length : Int) := by omega
        have sz := hb.size
        have HO := Lib.hid ho
        have HB := Lib.hid hb
        have HL := Lib.hid (show (nums k).length ≤ 1000000000 by rw [nums_len]; omega)
        clear ho hb hcW hfW
        go_wp2_with (at_builtin; refine wpList_app1 rfl _ _ 26 rfl 34 Try.underlying26 Try.infoP w.heap.size _ _ rfl HO.out ((k : Int) + 1) 0 rfl HL.out sz ?_; intro v' w3 ho3 hb3 _ _)
        have OW := Lib.hid ho3
        have GB := Lib.hid (HB.out.trans hb3)
        clear ho3 hb3
        go_wp2
        go_roundw
        case rel => exact ⟨k + 1, by omega, by go_num, by rw [nums_succ]; exact OW.out, GB.out⟩
        case measure => simp [intOf]; omega
      · obtain rfl : k = ps.length := by omega
        have HO := Lib.hid ho
        have HB := Lib.hid hb
        clear ho hb
        go_wp2
        go_ret2
        exact ⟨_, rfl, HO.out, HB.out⟩
set_option maxRecDepth 100000 in
set_option maxHeartbeats 800000 in
theorem Try.iRenumberPlates (w : World) (B : Nat) (v : Value) (ps : List Pi2) (hl : ps.length ≤ 1048576) (h : OwnP 34 w B v ps) :
    Calls Try.prog 32 #[v] w fun e w' => ∃ v, e = .returned (.tuple #[v, .bool (okB ps)]) ∧ OwnP 34 w' w.heap.size v (rnV ps) ∧ Below w.heap.size w w' := by
  cases hg : okB ps
  · have HA := Lib.hid (Try.iArePlates w B v ps false (okB_i ps _ hg) hl h)
    rw [show rnV ps = [] by simp [rnV, hg]]
    obtain ⟨A, c, rfl, h⟩ := h.eta
    clear h hg
    go_enter Try.func32, Try.ntmps32
    go_wp2_with (go_at_call 46; refine (HA.out).mono ?_; rintro e w1 ⟨rfl, hbW⟩; have hcW := (bcell hbW.below).1; have hfW := (bcell hbW.below).2; (try have hzW : w.heap.size < w1.heap.size := by have hq := hbW.below.size; (try simp at hq); omega); (try have hyW : w.heap.size + 1 < w1.heap.size := by have hq := hbW.below.size; (try simp at hq); omega); (try have hxW : w.heap.size + 2 < w1.heap.size := by have hq := hbW.below.size; (try simp at hq); omega))
    go_ret2
    exact ⟨_, rfl, OwnP.nil _ _ _, Gr.below (by repeat (first | exact Gr.refl _ | refine Gr.alloc ?_ _ | refine Gr.trans ?_ (by assumption) | refine Gr.drew ?_ | refine Gr.drewN ?_ _ | refine Gr.grow ?_ _ | refine Gr.setCell ?_ (by (try simp); (try omega)) _))⟩
  · have HA := Lib.hid (Try.iArePlates w B v ps true (okB_i ps _ hg) hl h)
    have h60 := ((okB_iff ps).1 hg).2.1
    rw [show rnV ps = nums ps.length by simp [rnV, hg]]
    obtain ⟨A, c, rfl, h⟩ := h.eta
    have zl : (0 : Int) ≤ (ps.length : Int) := by omega
    clear h hg
    go_enter Try.func32, Try.ntmps32
    go_wp2_with (go_at_call 46; refine (HA.out).mono ?_; rintro e w1 ⟨rfl, hbW⟩; have hcW := (bcell hbW.below).1; have hfW := (bcell hbW.below).2; (try have hzW : w.heap.size < w1.heap.size := by have hq := hbW.below.size; (try simp at hq); omega); (try have hyW : w.heap.size + 1 < w1.heap.size := by have hq := hbW.below.size; (try simp at hq); omega); (try have hxW : w.heap.size + 2 < w1.heap.size := by have hq := hbW.below.size; (try simp at hq); omega))
    go_loopw [4, 5, 11] (fun s _ i wr => NRelP 34 ps.length w s i wr) (fun _ _ i _ => (ps.length - intOf i).toNat)
    case atStart => exact ⟨0, Nat.zero_le _, rfl, OwnP.nil _ _ _, Gr.below hbW⟩
    case round =>
      obtain ⟨k, hk, rfl, ho, hb⟩ := hrel
      by_cases hlt : k < ps.length
      · have z0 : (0 : Int) ≤ (k : Int) := by omega
        have z1 : (k : Int) < (ps.length : Int) := by omega
        have sz := hb.size
        have HO := Lib.hid ho
        have HB := Lib.hid hb
        have HL := Lib.hid (show (nums k).length ≤ 1000000000 by rw [nums_len]; omega)
        clear ho hb hcW hfW
        go_wp2_with (at_builtin; refine wpList_app1 rfl _ _ 26 rfl 34 Try.underlying26 Try.infoP w.heap.size _ _ rfl HO.out ((k : Int) + 1) 0 rfl HL.out sz ?_; intro v' w3 ho3 hb3 _ _)
        have OW := Lib.hid ho3
        have GB := Lib.hid (HB.out.trans hb3)
        clear ho3 hb3
        go_wp2
        go_roundw
        case rel => exact ⟨k + 1, by omega, by go_num, by rw [nums_succ]; exact OW.out, GB.out⟩
        case measure => simp [intOf]; omega
      · obtain rfl : k = ps.length := by omega
        have HO := Lib.hid ho
        have HB := Lib.hid hb
        clear ho hb
        go_wp2
        go_ret2
        exact ⟨_, rfl, HO.out, HB.out⟩
end Go.Proofs
