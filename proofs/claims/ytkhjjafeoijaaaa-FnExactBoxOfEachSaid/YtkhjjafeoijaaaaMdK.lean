/-
  Contracts of chapter 5: the box of each house (both sides).
-/
import Derived.Test.YtkhjjafeoijaaaaMdJ
namespace Go.Proofs
open Go.RowKit
set_option linter.unusedVariables false
set_option linter.unusedSimpArgs false
def tbl (f : Nat → Int) (n : Nat) : List Int := (List.range n).map f
theorem tbl_zero (f : Nat → Int) : tbl f 0 = [] := rfl
theorem tbl_succ (f : Nat → Int) (n : Nat) : tbl f (n + 1) = tbl f n ++ [f n] := by simp [tbl, List.range_succ]
theorem tbl_len (f : Nat → Int) (n : Nat) : (tbl f n).length = n := by simp [tbl]
theorem tbl_get (f : Nat → Int) (n i : Nat) (h : i < n) : (tbl f n).getD i 0 = f i := by simp [tbl, List.getD, h]
theorem tbl_ext {f g : Nat → Int} {n : Nat} (h : ∀ i, i < n → f i = g i) : tbl f n = tbl g n := by
  unfold tbl
  exact List.map_congr_left fun i hi => h i (List.mem_range.1 hi)
def TRel (f : Nat → Int) (n : Nat) (w : World) (B : Nat) (s i : Value) (wr : World) : Prop := ∃ k : Nat, k ≤ n ∧ i = .int .i64 k ∧ OwnI wr B s (tbl f k) ∧ Below B w wr
def RetL (w : World) (xs : List Int) (b : Bool) (e : Ending) (w' : World) : Prop := ∃ v, e = .returned (.tuple #[v, .bool b]) ∧ OwnI w' w.heap.size v xs ∧ Below w.heap.size w w'
def boxList (xs bs : List Int) : List Int := tbl (fun i => near bs (i : Int)) xs.length
set_option maxRecDepth 100000 in
set_option maxHeartbeats 1600000 in
theorem Try.sBoxOfEach (w : World) (B B2 : Nat) (v v2 : Value) (xs bs : List Int) (b : Bool) (hb : b = true ↔ BoxesP xs bs) (hl : xs.length ≤ 1048576) (hl2 : bs.length ≤ 1048576) (h : OwnI w B v xs) (h2 : OwnI w B2 v2 bs) :
    Calls Try.prog 14 #[v, v2] w (RetL w (if b then boxList xs bs else []) b) := by
  have HH := Lib.hid (Try.mdBoxes w B B2 v v2 xs bs b hb hl hl2 h h2)
  cases q : b
  · rw [q] at HH
    obtain ⟨A, c, rfl, _⟩ := h.eta
    obtain ⟨A2, c2, rfl, _⟩ := h2.eta
    clear h h2 hb q
    go_enter Try.func14, Try.ntmps14
    go_wp2_with (first | (go_at_call 34; refine (HH.out).mono ?_; rintro e w1 ⟨rfl, hbW⟩; have hcW := (bcell hbW.below).1; have hfW := (bcell hbW.below).2; (try have hzW : w.heap.size < w1.heap.size := by have hq := hbW.below.size; (try simp at hq); omega); (try have hyW : w.heap.size + 1 < w1.heap.size := by have hq := hbW.below.size; (try simp at hq); omega); (try have hxW : w.heap.size + 2 < w1.heap.size := by have hq := hbW.below.size; (try simp at hq); omega)))
    go_ret2
    exact ⟨_, rfl, OwnI.nil2 _ _, Gr.below (by repeat (first | exact Gr.refl _ | refine Gr.alloc ?_ _ | refine Gr.trans ?_ (by assumption) | refine Gr.drew ?_ | refine Gr.drewN ?_ _ | refine Gr.grow ?_ _ | refine Gr.setCell ?_ (by (try simp); (try omega)) _))⟩
  · rw [q] at HH
    have hB := hb.1 q
    have hg := hB.1
    have hxl := hg.1
    have hbx := h2.boxes (by have := hB.2.1; omega) (by have := hB.2.1; omega) hB.bd
    have HBX := Lib.hid hbx
    obtain ⟨A2, c2, rfl, _⟩ := h2.eta
    obtain ⟨A, c, rfl, _⟩ := h.eta
    rw [if_pos rfl]
    have HE := Lib.hid (show boxList xs bs = tbl (fun i => near bs (i : Int)) xs.length from rfl)
    obtain ⟨R, hR⟩ : ∃ R, boxList xs bs = R := ⟨_, rfl⟩
    rw [hR] at HE ⊢
    clear h h2 hb q hB hg hbx hR
    go_enter Try.func14, Try.ntmps14
    go_wp2_with (first | (go_at_call 34; refine (HH.out).mono ?_; rintro e w1 ⟨rfl, hbW⟩; have hcW := (bcell hbW.below).1; have hfW := (bcell hbW.below).2; (try have hzW : w.heap.size < w1.heap.size := by have hq := hbW.below.size; (try simp at hq); omega); (try have hyW : w.heap.size + 1 < w1.heap.size := by have hq := hbW.below.size; (try simp at hq); omega); (try have hxW : w.heap.size + 2 < w1.heap.size := by have hq := hbW.below.size; (try simp at hq); omega)))
    have GW := Lib.hid (show Gr w w1 from (by repeat (first | exact Gr.refl _ | refine Gr.alloc ?_ _ | refine Gr.trans ?_ (by assumption) | refine Gr.drew ?_ | refine Gr.drewN ?_ _ | refine Gr.grow ?_ _ | refine Gr.setCell ?_ (by (try simp); (try omega)) _)))
    have szw := GW.out.below.size
    clear hcW hfW hbW
    go_loopw [6, 14] (fun s i wr => TRel (fun i => near bs (i : Int)) xs.length w w.heap.size s i wr) (fun _ i _ => (xs.length - intOf i).toNat)
    case atStart => exact ⟨0, Nat.zero_le _, rfl, OwnI.nil2 _ _, GW.out.below⟩
    case round =>
      obtain ⟨k, hk, rfl, ho, hbl⟩ := hrel
      have HO := Lib.hid ho
      have HL := Lib.hid hbl
      have szr := hbl.size
      by_cases hlt : k < xs.length
      · have z0 : (0 : Int) ≤ (k : Int) := by omega
        have z1 : (k : Int) < (xs.length : Int) := by omega
        have HN := Lib.hid (tbl_succ (fun i => near bs (i : Int)) k)
        have HNB := Lib.hid (Try.mdNear wr _ bs (k : Int) (HBX.out.below hbl) (by omega))
        have HTL := Lib.hid (tbl_len (fun i => near bs (i : Int)) k)
        clear ho hbl
        generalize near bs (k : Int) = nr at *
        go_wp2_with (first | (go_at_call 36; refine (HNB.out).mono ?_; rintro e w1 ⟨rfl, hbW⟩; have hcW := (bcell hbW.below).1; have hfW := (bcell hbW.below).2; (try have hzW : w.heap.size < w1.heap.size := by have hq := hbW.below.size; (try simp at hq); omega); (try have hyW : w.heap.size + 1 < w1.heap.size := by have hq := hbW.below.size; (try simp at hq); omega); (try have hxW : w.heap.size + 2 < w1.heap.size := by have hq := hbW.below.size; (try simp at hq); omega)) | (at_builtin; refine wpList_app1I rfl _ _ 22 rfl Try.underlying22 Try.infoI2 w.heap.size _ _ rfl (HO.out.gr hbW) nr rfl (by rw [HTL.out]; omega) (by have := hbW.below.size; omega) ?_; intro v' w3 ho3 hb3 _ _))
        have hb4 := HL.out.trans (hbW.below.mono szr)
        have OW := Lib.hid ho3
        have GB := Lib.hid (hb4.trans hb3)
        clear ho3 hb3 hb4 hbW hcW hfW
        go_wp2
        go_roundw
        case rel => exact ⟨k + 1, by omega, by go_num, by rw [HN.out]; exact OW.out, GB.out⟩
        case measure => simp [intOf]; omega
      · obtain rfl : k = xs.length := by omega
        rw [← HE.out] at HO
        clear ho hbl
        go_wp2
        go_ret2
        exact ⟨_, rfl, HO.out, HL.out⟩
set_option maxRecDepth 100000 in
set_option maxHeartbeats 1600000 in
theorem Try.iBoxOfEach (w : World) (B B2 : Nat) (v v2 : Value) (xs bs : List Int) (b : Bool) (hb : b = true ↔ BoxesP xs bs) (hl : xs.length ≤ 1048576) (hl2 : bs.length ≤ 1048576) (h : OwnI w B v xs) (h2 : OwnI w B2 v2 bs) :
    Calls Try.prog 15 #[v, v2] w (RetL w (if b then boxList xs bs else []) b) := by
  have HH := Lib.hid (Try.haveBoxes w B B2 v v2 xs bs b hb hl hl2 h h2)
  cases q : b
  · rw [q] at HH
    obtain ⟨A, c, rfl, _⟩ := h.eta
    obtain ⟨A2, c2, rfl, _⟩ := h2.eta
    clear h h2 hb q
    go_enter Try.func15, Try.ntmps15
    go_wp2_with (first | (go_at_call 37; refine (HH.out).mono ?_; rintro e w1 ⟨rfl, hbW⟩; have hcW := (bcell hbW.below).1; have hfW := (bcell hbW.below).2; (try have hzW : w.heap.size < w1.heap.size := by have hq := hbW.below.size; (try simp at hq); omega); (try have hyW : w.heap.size + 1 < w1.heap.size := by have hq := hbW.below.size; (try simp at hq); omega); (try have hxW : w.heap.size + 2 < w1.heap.size := by have hq := hbW.below.size; (try simp at hq); omega)))
    go_ret2
    exact ⟨_, rfl, OwnI.nil2 _ _, Gr.below (by repeat (first | exact Gr.refl _ | refine Gr.alloc ?_ _ | refine Gr.trans ?_ (by assumption) | refine Gr.drew ?_ | refine Gr.drewN ?_ _ | refine Gr.grow ?_ _ | refine Gr.setCell ?_ (by (try simp); (try omega)) _))⟩
  · rw [q] at HH
    have hB := hb.1 q
    have hg := hB.1
    have hxl := hg.1
    have hbx := h2.boxes (by have := hB.2.1; omega) (by have := hB.2.1; omega) hB.bd
    have HBX := Lib.hid hbx
    obtain ⟨A2, c2, rfl, _⟩ := h2.eta
    obtain ⟨A, c, rfl, _⟩ := h.eta
    rw [if_pos rfl]
    have HE := Lib.hid (show boxList xs bs = tbl (fun i => near bs (i : Int)) xs.length from rfl)
    obtain ⟨R, hR⟩ : ∃ R, boxList xs bs = R := ⟨_, rfl⟩
    rw [hR] at HE ⊢
    clear h h2 hb q hB hg hbx hR
    go_enter Try.func15, Try.ntmps15
    go_wp2_with (first | (go_at_call 37; refine (HH.out).mono ?_; rintro e w1 ⟨rfl, hbW⟩; have hcW := (bcell hbW.below).1; have hfW := (bcell hbW.below).2; (try have hzW : w.heap.size < w1.heap.size := by have hq := hbW.below.size; (try simp at hq); omega); (try have hyW : w.heap.size + 1 < w1.heap.size := by have hq := hbW.below.size; (try simp at hq); omega); (try have hxW : w.heap.size + 2 < w1.heap.size := by have hq := hbW.below.size; (try simp at hq); omega)))
    have GW := Lib.hid (show Gr w w1 from (by repeat (first | exact Gr.refl _ | refine Gr.alloc ?_ _ | refine Gr.trans ?_ (by assumption) | refine Gr.drew ?_ | refine Gr.drewN ?_ _ | refine Gr.grow ?_ _ | refine Gr.setCell ?_ (by (try simp); (try omega)) _)))
    have szw := GW.out.below.size
    clear hcW hfW hbW
    go_loopw [6, 14] (fun s i wr => TRel (fun i => near bs (i : Int)) xs.length w w.heap.size s i wr) (fun _ i _ => (xs.length - intOf i).toNat)
    case atStart => exact ⟨0, Nat.zero_le _, rfl, OwnI.nil2 _ _, GW.out.below⟩
    case round =>
      obtain ⟨k, hk, rfl, ho, hbl⟩ := hrel
      have HO := Lib.hid ho
      have HL := Lib.hid hbl
      have szr := hbl.size
      by_cases hlt : k < xs.length
      · have z0 : (0 : Int) ≤ (k : Int) := by omega
        have z1 : (k : Int) < (xs.length : Int) := by omega
        have HN := Lib.hid (tbl_succ (fun i => near bs (i : Int)) k)
        have HNB := Lib.hid (Try.nearestBox wr _ bs (k : Int) (HBX.out.below hbl) (by omega))
        have HTL := Lib.hid (tbl_len (fun i => near bs (i : Int)) k)
        clear ho hbl
        generalize near bs (k : Int) = nr at *
        go_wp2_with (first | (go_at_call 39; refine (HNB.out).mono ?_; rintro e w1 ⟨rfl, hbW⟩; have hcW := (bcell hbW.below).1; have hfW := (bcell hbW.below).2; (try have hzW : w.heap.size < w1.heap.size := by have hq := hbW.below.size; (try simp at hq); omega); (try have hyW : w.heap.size + 1 < w1.heap.size := by have hq := hbW.below.size; (try simp at hq); omega); (try have hxW : w.heap.size + 2 < w1.heap.size := by have hq := hbW.below.size; (try simp at hq); omega)) | (at_builtin; refine wpList_app1I rfl _ _ 22 rfl Try.underlying22 Try.infoI2 w.heap.size _ _ rfl (HO.out.gr hbW) nr rfl (by rw [HTL.out]; omega) (by have := hbW.below.size; omega) ?_; intro v' w3 ho3 hb3 _ _))
        have hb4 := HL.out.trans (hbW.below.mono szr)
        have OW := Lib.hid ho3
        have GB := Lib.hid (hb4.trans hb3)
        clear ho3 hb3 hb4 hbW hcW hfW
        go_wp2
        go_roundw
        case rel => exact ⟨k + 1, by omega, by go_num, by rw [HN.out]; exact OW.out, GB.out⟩
        case measure => simp [intOf]; omega
      · obtain rfl : k = xs.length := by omega
        rw [← HE.out] at HO
        clear ho hbl
        go_wp2
        go_ret2
        exact ⟨_, rfl, HO.out, HL.out⟩
end Go.Proofs
