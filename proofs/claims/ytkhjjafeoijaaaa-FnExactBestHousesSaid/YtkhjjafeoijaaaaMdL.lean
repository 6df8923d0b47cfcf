/-
  Contracts of chapter 5: the longest walk to a house (model), tables of sums and of longest walks, SumTable (both sides).
-/
import Derived.Test.YtkhjjafeoijaaaaMdK
namespace Go.Proofs
open Go.RowKit
set_option linter.unusedVariables false
set_option linter.unusedSimpArgs false
set_option maxHeartbeats 400000 in
theorem Try.l1Most (a b : Int) (w : World) : Calls Try.prog 69 #[.int .i64 a, .int .i64 b] w fun e w' => e = .returned (.int .i64 (max a b)) ∧ w = w' := by
  go_enter Try.func69, Try.ntmps69
  go_wp2
  all_goals
    go_ret
    exact ⟨ri (by rw [Int.max_def]; split <;> omega), rfl⟩
/-- the longest walk of those who live in the first k houses -/
def farN (xs : List Int) (h : Int) : Nat → Int
  | 0 => 0
  | k + 1 => if 0 < gx xs k then max (farN xs h k) (avv ((k : Int) - h)) else farN xs h k
def farI (xs : List Int) (h : Int) : Int := farN xs h xs.length
theorem farN_bd (xs : List Int) (h : Int) (h0 : 0 ≤ h) (h1 : h ≤ 59) (k : Nat) (hk : k ≤ 60) : 0 ≤ farN xs h k ∧ farN xs h k ≤ 59 := by
  induction k with
  | zero => simp [farN]
  | succ k ih =>
    have := ih (by omega)
    have a := avv_nn ((k : Int) - h)
    have b := avv_le (n := (k : Int) - h) (K := 59) (by omega) (by omega)
    unfold farN
    split
    · rw [Int.max_def]; split <;> omega
    · exact this
def FRelS (xs : List Int) (h : Int) (w : World) (s i : Value) (wr : World) : Prop := Gr w wr ∧ ∃ k : Nat, k ≤ xs.length ∧ i = .int .i64 k ∧ s = .int .i64 (farN xs h k)
set_option maxRecDepth 100000 in
set_option maxHeartbeats 800000 in
theorem Try.mdFar (w : World) (B : Nat) (v : Value) (xs : List Int) (n : Int) (hg : GoodP xs) (h0 : 0 ≤ n) (h1 : n ≤ 59) (h : OwnI w B v xs) :
    Calls Try.prog 80 #[v, .int .i64 n] w fun e w' => e = .returned (.int .i64 (farI xs n)) ∧ Gr w w' := by
  have hl := hg.1.2
  rcases h.view with ⟨rfl, A, c, rfl⟩ | ⟨hpos, g, c, rfl, _, _, _, hc, _⟩
  · exact absurd hg.1.1 (by simp)
  · have HC := Lib.hid hc
    have HE := Lib.hid (show farI xs n = farN xs n xs.length from rfl)
    obtain ⟨R, hR⟩ : ∃ R, farI xs n = R := ⟨_, rfl⟩
    rw [hR] at HE ⊢
    clear h hc hg hR
    go_enter Try.func80, Try.ntmps80
    go_wp2
    go_loopw [5, 10] (fun s i wr => FRelS xs n w s i wr) (fun _ i _ => (xs.length - intOf i).toNat)
    case atStart => exact ⟨Gr.refl _, 0, Nat.zero_le _, rfl, rfl⟩
    case round =>
      obtain ⟨gr, k, hk, rfl, rfl⟩ := hrel
      have HG := Lib.hid gr
      by_cases hlt : k < xs.length
      · have e1 := gr.keep2 (HC.out k hlt)
        have z0 : (0 : Int) ≤ (k : Int) := by omega
        have z1 : (k : Int) < (xs.length : Int) := by omega
        have hs : farN xs n (k + 1) = if 0 < gx xs k then max (farN xs n k) (avv ((k : Int) - n)) else farN xs n k := rfl
        have wd : IntKind.i64.wrap ((k : Int) - n) = (k : Int) - n := IntWalk.i64_in _ (by omega)
        have HA := Lib.hid (fun W => Try.l1AbsM ((k : Int) - n) W (by omega) (by omega))
        obtain ⟨y, hy⟩ : ∃ y, gx xs k = y := ⟨_, rfl⟩
        rw [hy] at hs
        rw [show xs.getD k 0 = y from hy] at e1
        generalize avv ((k : Int) - n) = d at HA hs
        generalize farN xs n k = s at *
        have HM := Lib.hid (fun W => Try.l1Most s d W)
        clear gr hy
        by_cases hp : 0 < y
        · rw [if_pos hp] at hs
          have HN := Lib.hid hs
          clear hs
          generalize max s d = m at *
          go_wp2_with (first | (go_at_call 35; refine (HA.out _).mono ?_; rintro e w1 ⟨rfl, rfl⟩) | (go_at_call 69; refine (HM.out _).mono ?_; rintro e w1 ⟨rfl, rfl⟩))
          go_roundw
          case rel => exact ⟨HG.out, k + 1, by omega, by go_num, by rw [HN.out]⟩
          case measure => simp [intOf]; omega
        · rw [if_neg hp] at hs
          have HN := Lib.hid hs
          clear hs
          go_wp2
          go_roundw
          case rel => exact ⟨HG.out, k + 1, by omega, by go_num, by rw [HN.out]⟩
          case measure => simp [intOf]; omega
      · obtain rfl : k = xs.length := by omega
        rw [← HE.out]
        clear gr
        go_wp2
        go_ret
        exact ⟨rfl, HG.out⟩
def tabF (xs : List Int) (far : Bool) (i : Nat) : Int := if far then farI xs (i : Int) else walksI xs (i : Int)
set_option maxRecDepth 100000 in
set_option maxHeartbeats 1600000 in
theorem Try.mdTable (w : World) (B : Nat) (v : Value) (xs : List Int) (far : Bool) (hg : GoodP xs) (h : OwnI w B v xs) :
    Calls Try.prog 44 #[v, .bool far] w fun e w' => ∃ v, e = .returned v ∧ OwnI w' w.heap.size v (tbl (tabF xs far) xs.length) ∧ Below w.heap.size w w' := by
  have hxl := hg.1
  have HO0 := Lib.hid h
  have HGD := Lib.hid hg
  obtain ⟨A, c, rfl, _⟩ := h.eta
  obtain ⟨R, hR⟩ : ∃ R, tbl (tabF xs far) xs.length = R := ⟨_, rfl⟩
  have HE := Lib.hid hR
  rw [hR]
  clear h hg hR
  go_enter Try.func44, Try.ntmps44
  go_wp2
  go_loopw [5, 9] (fun s i wr => TRel (tabF xs far) xs.length w w.heap.size s i wr) (fun _ i _ => (xs.length - intOf i).toNat)
  case atStart => exact ⟨0, Nat.zero_le _, rfl, OwnI.nil2 _ _, Below.refl _ _⟩
  case round =>
    obtain ⟨k, hk, rfl, ho, hbl⟩ := hrel
    have HO := Lib.hid ho
    have HL := Lib.hid hbl
    have szr := hbl.size
    by_cases hlt : k < xs.length
    · have z0 : (0 : Int) ≤ (k : Int) := by omega
      have z1 : (k : Int) < (xs.length : Int) := by omega
      have HN := Lib.hid (tbl_succ (tabF xs far) k)
      have HTL := Lib.hid (tbl_len (tabF xs far) k)
      have HW := Lib.hid (Try.mdWalks wr B _ xs (k : Int) HGD.out (by omega) (by omega) (HO0.out.below hbl (Nat.le_refl _)))
      have HF := Lib.hid (Try.mdFar wr B _ xs (k : Int) HGD.out (by omega) (by omega) (HO0.out.below hbl (Nat.le_refl _)))
      have ht : tabF xs far k = if far then farI xs (k : Int) else walksI xs (k : Int) := rfl
      clear ho hbl
      cases far
      · rw [if_neg (by simp)] at ht
        rw [ht] at HN
        clear ht
        generalize walksI xs (k : Int) = nr at *
        go_wp2_with (first | (go_at_call 41; refine (HW.out).mono ?_; rintro e w1 ⟨rfl, hbW⟩; have hcW := (bcell hbW.below).1; have hfW := (bcell hbW.below).2; (try have hzW : w.heap.size < w1.heap.size := by have hq := hbW.below.size; (try simp at hq); omega); (try have hyW : w.heap.size + 1 < w1.heap.size := by have hq := hbW.below.size; (try simp at hq); omega); (try have hxW : w.heap.size + 2 < w1.heap.size := by have hq := hbW.below.size; (try simp at hq); omega)) | (at_builtin; refine wpList_app1I rfl _ _ 22 rfl Try.underlying22 Try.infoI2 w.heap.size _ _ rfl (HO.out.gr hbW) nr rfl (by rw [HTL.out]; omega) (by have := hbW.below.size; omega) ?_; intro v' w3 ho3 hb3 _ _))
        have hb4 := HL.out.trans (hbW.below.mono szr)
        have OW := Lib.hid ho3
        have GB := Lib.hid (hb4.trans hb3)
        clear ho3 hb3 hb4 hbW hcW hfW
        go_wp2
        go_roundw
        case rel => exact ⟨k + 1, by omega, by go_num, by rw [HN.out]; exact OW.out, GB.out⟩
        case measure => simp [intOf]; omega
      · rw [if_pos rfl] at ht
        rw [ht] at HN
        clear ht
        generalize farI xs (k : Int) = nr at *
        go_wp2_with (first | (go_at_call 80; refine (HF.out).mono ?_; rintro e w1 ⟨rfl, hbW⟩; have hcW := (bcell hbW.below).1; have hfW := (bcell hbW.below).2; (try have hzW : w.heap.size < w1.heap.size := by have hq := hbW.below.size; (try simp at hq); omega); (try have hyW : w.heap.size + 1 < w1.heap.size := by have hq := hbW.below.size; (try simp at hq); omega); (try have hxW : w.heap.size + 2 < w1.heap.size := by have hq := hbW.below.size; (try simp at hq); omega)) | (at_builtin; refine wpList_app1I rfl _ _ 22 rfl Try.underlying22 Try.infoI2 w.heap.size _ _ rfl (HO.out.gr hbW) nr rfl (by rw [HTL.out]; omega) (by have := hbW.below.size; omega) ?_; intro v' w3 ho3 hb3 _ _))
        have hb4 := HL.out.trans (hbW.below.mono szr)
        have OW := Lib.hid ho3
        have GB := Lib.hid (hb4.trans hb3)
        clear ho3 hb3 hb4 hbW hcW hfW
        go_wp2
        go_roundw
        case rel => exact ⟨k + 1, by omega, by go_num, by rw [HN.out]; exact OW.out, GB.out⟩
        case measure => simp [intOf]; omega
    · obtain rfl : k = xs.length := by omega
      rw [HE.out] at HO
      clear ho hbl
      go_wp2
      go_ret
      exact ⟨_, rfl, HO.out, HL.out⟩
def sumTab (xs : List Int) : List Int := tbl (tabF xs false) xs.length
end Go.Proofs
