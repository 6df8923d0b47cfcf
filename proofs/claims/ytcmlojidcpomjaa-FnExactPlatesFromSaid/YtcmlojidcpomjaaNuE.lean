/-
  Contracts of chapter 1: PlatesFrom, the program's (a part).
-/
import Derived.Test.YtcmlojidcpomjaaNuQ
import Derived.Test.YtcmlojidcpomjaaNuPl
import Derived.Test.YtcmlojidcpomjaaInts
namespace Go.Proofs
open Go.RowKit Nu
set_option linter.unusedVariables false
set_option linter.unusedSimpArgs false
def mnk (xs : List Int) : Nat → Int
  | 0 => xs.getD 0 0
  | k + 1 => if xs.getD (k + 1) 0 < mnk xs k then xs.getD (k + 1) 0 else mnk xs k
def mxk (xs : List Int) : Nat → Int
  | 0 => xs.getD 0 0
  | k + 1 => if mxk xs k < xs.getD (k + 1) 0 then xs.getD (k + 1) 0 else mxk xs k
theorem mnk_ge (xs : List Int) (c : Int) (k : Nat) : c ≤ mnk xs k ↔ ∀ j, j ≤ k → c ≤ xs.getD j 0 := by
  induction k with
  | zero => simp only [mnk]; exact ⟨fun h j hj => by (obtain rfl : j = 0 := by omega); exact h, fun h => h 0 (Nat.le_refl _)⟩
  | succ k ih =>
    simp only [mnk]
    constructor
    · intro h j hj
      rcases Nat.lt_or_eq_of_le hj with e | e
      · exact ih.1 (by split at h <;> omega) j (by omega)
      · rw [e]; split at h <;> omega
    · intro h
      have a := ih.2 (fun j hj => h j (by omega))
      have b := h (k + 1) (Nat.le_refl _)
      split <;> omega
theorem mxk_le (xs : List Int) (c : Int) (k : Nat) : mxk xs k ≤ c ↔ ∀ j, j ≤ k → xs.getD j 0 ≤ c := by
  induction k with
  | zero => simp only [mxk]; exact ⟨fun h j hj => by (obtain rfl : j = 0 := by omega); exact h, fun h => h 0 (Nat.le_refl _)⟩
  | succ k ih =>
    simp only [mxk]
    constructor
    · intro h j hj
      rcases Nat.lt_or_eq_of_le hj with e | e
      · exact ih.1 (by split at h <;> omega) j (by omega)
      · rw [e]; split at h <;> omega
    · intro h
      have a := ih.2 (fun j hj => h j (by omega))
      have b := h (k + 1) (Nat.le_refl _)
      split <;> omega
def FRel (f : List Int → Nat → Int) (xs : List Int) (m i : Value) : Prop := ∃ k : Nat, k + 1 ≤ xs.length ∧ i = .int .i64 ((k : Int) + 1) ∧ m = .int .i64 (f xs k)
set_option maxHeartbeats 400000 in
theorem Try.slMin (w : World) (B : Nat) (v : Value) (xs : List Int) (hpos : 0 < xs.length) (hb : xs.length ≤ 1000000) (h : OwnI w B v xs) :
    Calls Try.prog 81 #[v] w fun e w' => e = .returned (.int .i64 (mnk xs (xs.length - 1))) ∧ w = w' := by
  rcases h.view with ⟨hx, _⟩ | ⟨_, g, c, rfl, g1, g2, hm, hc, _⟩
  · subst hx; simp at hpos
  · have HC := Lib.hid hc
    have e0 := hc 0 hpos
    have z0 : (0 : Int) < (xs.length : Int) := by omega
    have z1 : (1 : Int) ≤ (xs.length : Int) := by omega
    clear h hc
    go_enter Try.func81, Try.ntmps81
    go_wp2
    go_loop [3, 4] (fun m i => FRel mnk xs m i) (fun _ i => (xs.length - intOf i).toNat)
    case atStart => exact ⟨0, by omega, rfl, by simp [mnk, List.getD, hpos]⟩
    case round =>
      obtain ⟨k, hk, rfl, rfl⟩ := hrel
      by_cases hlt : k + 1 < xs.length
      · have e1 := HC.out (k + 1) hlt
        have hs : mnk xs (k + 1) = if xs.getD (k + 1) 0 < mnk xs k then xs.getD (k + 1) 0 else mnk xs k := rfl
        generalize xs.getD (k + 1) 0 = y at e1 hs
        have HS := Lib.hid hs
        have q0 : (0 : Int) ≤ (k : Int) + 1 := by omega
        have q1 : (k : Int) + 1 < (xs.length : Int) := by omega
        have q2 : ((k + 1 : Nat) : Int) = (k : Int) + 1 := by omega
        clear hs e0
        go_wp2
        all_goals
          go_round
          case rel => exact ⟨k + 1, by omega, by go_num, by rw [HS.out]; (try (congr 1; try omega))⟩
          case measure => simp [intOf]; omega
      · have e : xs.length - 1 = k := by omega
        have E := Lib.hid e
        have q3 : ¬ (k : Int) + 1 < (xs.length : Int) := by omega
        clear e e0
        go_wp2
        go_ret
        exact ⟨ri (by rw [E.out]), rfl⟩
set_option maxHeartbeats 400000 in
theorem Try.slMax (w : World) (B : Nat) (v : Value) (xs : List Int) (hpos : 0 < xs.length) (hb : xs.length ≤ 1000000) (h : OwnI w B v xs) :
    Calls Try.prog 82 #[v] w fun e w' => e = .returned (.int .i64 (mxk xs (xs.length - 1))) ∧ w = w' := by
  rcases h.view with ⟨hx, _⟩ | ⟨_, g, c, rfl, g1, g2, hm, hc, _⟩
  · subst hx; simp at hpos
  · have HC := Lib.hid hc
    have e0 := hc 0 hpos
    have z0 : (0 : Int) < (xs.length : Int) := by omega
    have z1 : (1 : Int) ≤ (xs.length : Int) := by omega
    clear h hc
    go_enter Try.func82, Try.ntmps82
    go_wp2
    go_loop [3, 4] (fun m i => FRel mxk xs m i) (fun _ i => (xs.length - intOf i).toNat)
    case atStart => exact ⟨0, by omega, rfl, by simp [mxk, List.getD, hpos]⟩
    case round =>
      obtain ⟨k, hk, rfl, rfl⟩ := hrel
      by_cases hlt : k + 1 < xs.length
      · have e1 := HC.out (k + 1) hlt
        have hs : mxk xs (k + 1) = if mxk xs k < xs.getD (k + 1) 0 then xs.getD (k + 1) 0 else mxk xs k := rfl
        generalize xs.getD (k + 1) 0 = y at e1 hs
        have HS := Lib.hid hs
        have q0 : (0 : Int) ≤ (k : Int) + 1 := by omega
        have q1 : (k : Int) + 1 < (xs.length : Int) := by omega
        have q2 : ((k + 1 : Nat) : Int) = (k : Int) + 1 := by omega
        clear hs e0
        go_wp2
        all_goals
          go_round
          case rel => exact ⟨k + 1, by omega, by go_num, by rw [HS.out]; (try (congr 1; try omega))⟩
          case measure => simp [intOf]; omega
      · have e : xs.length - 1 = k := by omega
        have E := Lib.hid e
        have q3 : ¬ (k : Int) + 1 < (xs.length : Int) := by omega
        clear e e0
        go_wp2
        go_ret
        exact ⟨ri (by rw [E.out]), rfl⟩
def AllDig (ds : List Int) : Prop := ds.length = 10 ∧ ∀ d : Nat, d < 10 → 0 ≤ ds.getD d 0 ∧ ds.getD d 0 ≤ 100000
set_option maxHeartbeats 400000 in
theorem Try.areDigits (w : World) (B : Nat) (v : Value) (ds : List Int) (b : Bool) (hb : b = true ↔ AllDig ds) (hl : ds.length ≤ 1048576) (h : OwnI w B v ds) :
    Calls Try.prog 49 #[v] w fun e w' => e = .returned (.bool b) ∧ w = w' := by
  by_cases h10 : ds.length = 10
  · have hm := fun (w : World) (h : OwnI w B v ds) => Try.slMin w B v ds (by omega) (by omega) h
    have hx := fun (w : World) (h : OwnI w B v ds) => Try.slMax w B v ds (by omega) (by omega) h
    have key : b = (decide (0 ≤ mnk ds (ds.length - 1)) && decide (mxk ds (ds.length - 1) ≤ 100000)) := by
      rw [Bool.eq_iff_iff, hb]
      simp only [Bool.and_eq_true, decide_eq_true_eq]
      rw [mnk_ge, mxk_le]
      constructor
      · rintro ⟨_, q⟩
        exact ⟨fun j hj => (q j (by omega)).1, fun j hj => (q j (by omega)).2⟩
      · rintro ⟨q1, q2⟩
        exact ⟨h10, fun d hd => ⟨q1 d (by omega), q2 d (by omega)⟩⟩
    rw [key]
    clear key hb
    have HM := Lib.hid (hm w h)
    have HX := Lib.hid (hx w h)
    clear hm hx
    rcases h.view with ⟨hz, _⟩ | ⟨_, g, c, rfl, _⟩
    · subst hz; simp at h10
    · have hlen : ((ds.length : Int) != 10) = false := by simp; omega
      generalize mnk ds (ds.length - 1) = m at *
      generalize mxk ds (ds.length - 1) = x at *
      clear h h10
      by_cases c1 : 0 ≤ m
      · go_enter Try.func49, Try.ntmps49
        go_wp2_with (first | (go_at_call 81; refine (HM.out).mono ?_; rintro e w1 ⟨rfl, rfl⟩) | (go_at_call 82; refine (HX.out).mono ?_; rintro e w1 ⟨rfl, rfl⟩))
        go_ret
        exact ⟨by simp [c1], rfl⟩
      · go_enter Try.func49, Try.ntmps49
        go_wp2_with (first | (go_at_call 81; refine (HM.out).mono ?_; rintro e w1 ⟨rfl, rfl⟩))
        go_ret
        exact ⟨by simp [c1]; omega, rfl⟩
  · have e : b = false := by
      cases b
      · rfl
      · exact absurd (hb.1 rfl).1 h10
    subst e
    rcases h.view with ⟨hz, A, c, rfl⟩ | ⟨_, g, c, rfl, _⟩
    · clear h hb
      go_enter Try.func49, Try.ntmps49
      go_wp2
      go_ret
      exact ⟨rfl, rfl⟩
    · have hlen : ((ds.length : Int) != 10) = true := by simp; omega
      clear h hb
      go_enter Try.func49, Try.ntmps49
      go_wp2
      go_ret
      exact ⟨rfl, rfl⟩
def NRelE (ds : List Int) (m : Int) (w : World) (i : Value) (wr : World) : Prop := Gr w wr ∧ ∃ k : Nat, k ≤ 10 ∧ i = .int .i64 k ∧ ∀ d : Nat, d < k → cd m d ≤ ds.getD d 0
set_option maxHeartbeats 800000 in
theorem Try.isEnough (w : World) (B : Nat) (v : Value) (ds : List Int) (m : Int) (b : Bool) (hb : b = true ↔ Enough ds m) (h10 : ds.length = 10) (m0 : 1 ≤ m) (m1 : m ≤ 1000000) (h : OwnI w B v ds) :
    Calls Try.prog 52 #[v, .int .i64 m] w fun e w' => e = .returned (.bool b) ∧ Gr w w' := by
  rcases h.view with ⟨hz, _⟩ | ⟨_, g, c, rfl, _, _, _, hc, _⟩
  · subst hz; simp at h10
  · rw [h10] at hc ⊢
    have HC := Lib.hid hc
    have HB := Lib.hid hb
    clear h hc hb h10
    go_enter Try.func52, Try.ntmps52
    go_wp2
    go_loopw [5, 6, 9] (fun _ _ i wr => NRelE ds m w i wr) (fun _ _ i _ => (10 - intOf i).toNat)
    case atStart => exact ⟨Gr.refl _, 0, by omega, rfl, fun d hd => absurd hd (Nat.not_lt_zero _)⟩
    case round =>
      obtain ⟨gr, k, hk, rfl, hall⟩ := hrel
      have HA := Lib.hid hall
      clear hall
      by_cases hlt : k < 10
      · have e1 := gr.keep2 (HC.out k hlt)
        have z0 : (0 : Int) ≤ (k : Int) := by omega
        have z1 : (k : Int) < 10 := by omega
        have z2 : (k : Int) ≤ 9 := by omega
        by_cases hx : cd m k ≤ ds.getD k 0
        · have HX := Lib.hid hx
          generalize ds.getD k 0 = y at e1 hx
          go_wp2_with (first | (go_at_call 83; refine (Try.digitUpTo _ _ m0 m1 z0 z2 _).mono ?_; rintro e w2 ⟨rfl, g2⟩))
          go_roundw
          case rel =>
            refine ⟨gr.trans g2, k + 1, by omega, by go_num, fun d hd => ?_⟩
            rcases Nat.lt_or_eq_of_le (Nat.le_of_lt_succ hd) with c | c
            · exact HA.out d c
            · rw [c]; exact HX.out
          case measure => simp [intOf]; omega
        · have HF := Lib.hid (show b = false by
            cases hbb : b
            · rfl
            · exact absurd (HB.out.1 hbb k hlt) hx)
          generalize ds.getD k 0 = y at e1 hx
          go_wp2_with (first | (go_at_call 83; refine (Try.digitUpTo _ _ m0 m1 z0 z2 _).mono ?_; rintro e w2 ⟨rfl, g2⟩))
          go_ret
          exact ⟨by rw [HF.out]; rfl, gr.trans g2⟩
      · obtain rfl : k = 10 := by omega
        have HF := Lib.hid (show b = true from HB.out.2 HA.out)
        go_wp2
        go_ret
        exact ⟨by rw [HF.out]; rfl, gr⟩
open Go.Sort in
set_option maxHeartbeats 400000 in
theorem Try.closureP (ds : List Int) (l : Nat) (i : Int) (b B : Nat) (v : Value) (w : World) (h10 : ds.length = 10) (hl : LastP ds l) (i0 : 0 ≤ i) (i1 : i < 1000000) (hc : w.cell? ⟨b, 0, none⟩ = some v) (h : OwnI w B v ds) :
    Calls Try.prog 51 (#[.int .i64 i] ++ #[.pointer (some ⟨b, 0, none⟩)]) w fun e w' => e = .returned (.bool (decide ((l : Int) ≤ i))) ∧ Gr w w' := by
  have key : (!decide ((l : Int) ≤ i)) = true ↔ Enough ds (i + 1) := by
    have := lastp_iff hl i.toNat
    rw [show ((i.toNat : Int)) = i by omega] at this
    rw [Bool.not_eq_true', decide_eq_false_iff_not]
    constructor
    · intro q
      exact Classical.byContradiction fun hn => q (by have := this.2 hn; omega)
    · intro q r
      exact (this.1 (by omega)) q
  have HK := Lib.hid (Try.isEnough w B v ds (i + 1) (!decide ((l : Int) ≤ i)) key h10 (by omega) (by omega) h)
  generalize decide ((l : Int) ≤ i) = r at *
  clear key hl h
  go_enter Try.func51, Try.ntmps51
  go_wp2_with (first | (go_at_call 52; refine (HK.out).mono ?_; rintro e w2 ⟨rfl, g2⟩))
  go_ret
  exact ⟨by simp, g2⟩
theorem Try.iPlatesNoA (w : World) (B : Nat) (A : Option Addr) (n c : Nat) (HD : RowKit.Hid (∀ W : World, Gr (w.alloc (.cells #[.slice A n c] 24)) W → Calls Try.prog 49 #[.slice A n c] W fun e w' => e = .returned (.bool false) ∧ W = w')) :
    Calls Try.prog 19 #[.slice A n c] w fun e w' => e = .returned (.tuple #[.int .i64 0, .bool false]) ∧ Gr w w' := by
  have cv : (w.alloc (.cells #[.slice A n c] 24)).cell? ⟨w.heap.size, 0, none⟩ = some (.slice A n c) := by simp [go_sem]
  go_enter Try.func19, Try.ntmps19
  go_wp2_with (first | (go_at_call 49; refine (HD.out _ (Gr.refl _)).mono ?_; rintro e w1 ⟨rfl, rfl⟩))
  go_ret2
  exact ⟨rfl, by repeat (first | exact Gr.refl _ | refine Gr.alloc ?_ _ | refine Gr.trans ?_ (by assumption) | refine Gr.drew ?_ | refine Gr.drewN ?_ _ | refine Gr.grow ?_ _ | refine Gr.setCell ?_ (by (try simp); (try omega)) _)⟩
theorem OwnI.slice {w : World} {B : Nat} {v : Value} {xs : List Int} (h : OwnI w B v xs) : ∃ A n c, v = .slice A n c := by
  rcases h.view with ⟨_, A, c, rfl⟩ | ⟨_, g, c, rfl, _⟩
  · exact ⟨_, _, _, rfl⟩
  · exact ⟨_, _, _, rfl⟩
theorem Try.iPlatesNo (w : World) (B : Nat) (v : Value) (ds : List Int) (hl : ds.length ≤ 1048576) (hn : ¬ AllDig ds) (h : OwnI w B v ds) :
    Calls Try.prog 19 #[v] w fun e w' => e = .returned (.tuple #[.int .i64 0, .bool false]) ∧ Gr w w' := by
  obtain ⟨A, n, c, rfl⟩ := h.slice
  exact Try.iPlatesNoA w B A n c (Lib.hid fun W g => Try.areDigits W B _ ds false (by simp [hn]) hl (h.gr (Gr.trans (Gr.alloc (Gr.refl _) _) g)))
set_option maxHeartbeats 400000 in
theorem Try.iPlatesA (w : World) (A : Option Addr) (n c : Nat) (l : Nat)
    (HD : RowKit.Hid (∀ W : World, Gr (w.alloc (.cells #[.slice A n c] 24)) W → Calls Try.prog 49 #[.slice A n c] W fun e w' => e = .returned (.bool true) ∧ W = w'))
    (HS : RowKit.Hid (Calls Try.prog 50 #[.int .i64 1000000, .func (.func 51) #[] #[.pointer (some ⟨w.heap.size, 0, none⟩)]] (w.alloc (.cells #[.slice A n c] 24)) fun e w' => e = .returned (.int .i64 l) ∧ Gr (w.alloc (.cells #[.slice A n c] 24)) w')) :
    Calls Try.prog 19 #[.slice A n c] w fun e w' => e = .returned (.tuple #[.int .i64 l, .bool true]) ∧ Gr w w' := by
  have cv : (w.alloc (.cells #[.slice A n c] 24)).cell? ⟨w.heap.size, 0, none⟩ = some (.slice A n c) := by simp [go_sem]
  go_enter Try.func19, Try.ntmps19
  go_wp2_with (first | (go_at_call 49; refine (HD.out _ (Gr.refl _)).mono ?_; rintro e w1 ⟨rfl, rfl⟩) | (go_at_call 50; refine HS.out.mono ?_; rintro e w1 ⟨rfl, g1⟩))
  go_ret2
  exact ⟨rfl, by repeat (first | exact Gr.refl _ | refine Gr.alloc ?_ _ | refine Gr.trans ?_ (by assumption) | refine Gr.drew ?_ | refine Gr.drewN ?_ _ | refine Gr.grow ?_ _ | refine Gr.setCell ?_ (by (try simp); (try omega)) _)⟩
theorem Try.iPlates (w : World) (B : Nat) (v : Value) (ds : List Int) (l : Nat) (ha : AllDig ds) (hl : LastP ds l) (h : OwnI w B v ds) :
    Calls Try.prog 19 #[v] w fun e w' => e = .returned (.tuple #[.int .i64 l, .bool true]) ∧ Gr w w' := by
  obtain ⟨A, n, c, rfl⟩ := h.slice
  have h1 : OwnI (w.alloc (.cells #[.slice A n c] 24)) B (.slice A n c) ds := h.gr (Gr.alloc (Gr.refl _) _)
  have hc : (w.alloc (.cells #[.slice A n c] 24)).cell? ⟨w.heap.size, 0, none⟩ = some (.slice A n c) := by simp [go_sem]
  have eg : ∀ args w, (callFunc 51 args).run Try.prog w = .ok (.enter 51 args) w := enters_of Try.func51 (by kernel_rfl) rfl
  refine Try.iPlatesA w A n c l (Lib.hid fun W g => Try.areDigits W B _ ds true (by simp [ha]) (by rw [ha.1]; omega) (h1.gr g)) (Lib.hid ?_)
  exact Try.search 51 #[.pointer (some ⟨w.heap.size, 0, none⟩)] 1000000 l _ (by omega) (by omega) (by have := hl.1; omega) eg
    (fun W i g i0 i1 => Try.closureP ds l i w.heap.size B _ W ha.1 hl i0 i1 (((bcell g.below).1 _ _ (World.block_lt_of_cell? _ _ hc)).trans hc) (h1.gr g))
end Go.Proofs
