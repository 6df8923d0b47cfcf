/-
  Chapter 5 in a seat of ParsePeople alone: sums, people that are good, both sides (out of NuF, MdMath, MdA, MdB, MdF).
-/
import Derived.Test.YtepbgbfaeofofaaDoorInn
import Derived.Test.YtepbgbfaeofofaaDoorArgs
import Derived.Test.YtepbgbfaeofofaaDoorInts2
import Derived.Test.YtepbgbfaeofofaaDoorShelf
import Derived.Lib.Small
namespace Go.Proofs
open Go.RowKit
set_option linter.unusedVariables false
set_option linter.unusedSimpArgs false
def AllIn (xs : List Int) (lo hi : Int) : Prop := ∀ j, j < xs.length → inn (xs.getD j 0) lo hi = true
def LRelA (xs : List Int) (lo hi : Int) (w : World) (i : Value) (wr : World) : Prop := Gr w wr ∧ ∃ k : Nat, k ≤ xs.length ∧ i = .int .i64 k ∧ ∀ j, j < k → inn (xs.getD j 0) lo hi = true
set_option maxHeartbeats 400000 in
theorem Tryd.l1All (w : World) (B : Nat) (v : Value) (xs : List Int) (lo hi : Int) (b : Bool) (hb : b = true ↔ AllIn xs lo hi) (hl : xs.length ≤ 1048576) (h : OwnI w B v xs) :
    Calls Tryd.prog 23 #[v, .int .i64 lo, .int .i64 hi] w fun e w' => e = .returned (.bool b) ∧ Gr w w' := by
  rcases h.view with ⟨rfl, A, c, rfl⟩ | ⟨hpos, g, c, rfl, _, _, _, hc, _⟩
  · obtain rfl : b = true := hb.2 (fun j hj => by simp at hj)
    clear h hb
    go_enter Tryd.func23, Tryd.ntmps23
    go_wp2
    refine wp_loop_rounds 1 ?_
    rw [rounds_succ]
    go_wp2
    go_ret
    exact ⟨rfl, by repeat (first | exact Gr.refl _ | refine Gr.alloc ?_ _ | refine Gr.trans ?_ (by assumption) | refine Gr.drew ?_ | refine Gr.drewN ?_ _ | refine Gr.grow ?_ _ | refine Gr.setCell ?_ (by (try simp); (try omega)) _)⟩
  · have HC := Lib.hid hc
    have HB := Lib.hid hb
    clear h hc hb
    go_enter Tryd.func23, Tryd.ntmps23
    go_wp2
    go_loopw [11] (fun i wr => LRelA xs lo hi w i wr) (fun i _ => (xs.length - intOf i).toNat)
    case atStart => exact ⟨Gr.refl _, 0, Nat.zero_le _, rfl, fun j hj => absurd hj (Nat.not_lt_zero _)⟩
    case round =>
      obtain ⟨gr, k, hk, rfl, hall⟩ := hrel
      by_cases hlt : k < xs.length
      · have e1 := gr.keep2 (HC.out k hlt)
        have z0 : (0 : Int) ≤ (k : Int) := by omega
        have z1 : (k : Int) < (xs.length : Int) := by omega
        have HA := Lib.hid hall
        have HG := Lib.hid gr
        clear hall gr
        cases hx : inn (xs.getD k 0) lo hi
        · have HF := Lib.hid (show b = false by
            cases hbb : b
            · rfl
            · have := HB.out.1 hbb k hlt; rw [hx] at this; cases this)
          have HX := Lib.hid hx
          clear hx
          generalize xs.getD k 0 = y at e1 HX
          go_wp2_with (first | (go_at_call 22; refine (Tryd.l1In _ _ _ _ HX.out _).mono ?_; rintro e w1 ⟨rfl, rfl⟩))
          go_ret
          exact ⟨by rw [HF.out]; rfl, HG.out⟩
        · have HN := Lib.hid (show ∀ j, j < k + 1 → inn (xs.getD j 0) lo hi = true from fun j hj => by
            rcases Nat.lt_or_eq_of_le (Nat.le_of_lt_succ hj) with c | c
            · exact HA.out j c
            · rw [c]; exact hx)
          have HX := Lib.hid hx
          clear hx
          generalize xs.getD k 0 = y at e1 HX
          go_wp2_with (first | (go_at_call 22; refine (Tryd.l1In _ _ _ _ HX.out _).mono ?_; rintro e w1 ⟨rfl, rfl⟩))
          go_roundw
          case rel => exact ⟨HG.out, k + 1, by omega, by go_num, HN.out⟩
          case measure => simp [intOf]; omega
      · obtain rfl : k = xs.length := by omega
        have HF := Lib.hid (show b = true from HB.out.2 hall)
        have HG := Lib.hid gr
        clear gr hall
        go_wp2
        go_ret
        exact ⟨by rw [HF.out]; rfl, HG.out⟩
/-- the sum of f over 0..n-1 -/
def sumF (f : Nat → Int) : Nat → Int | 0 => 0 | n + 1 => sumF f n + f n
theorem sumF_zero (f : Nat → Int) : sumF f 0 = 0 := rfl
theorem sumF_succ (f : Nat → Int) (n : Nat) : sumF f (n + 1) = sumF f n + f n := rfl
theorem sumF_ext {f g : Nat → Int} {n : Nat} (h : ∀ i, i < n → f i = g i) : sumF f n = sumF g n := by
  induction n with
  | zero => rfl
  | succ n ih => rw [sumF_succ, sumF_succ, ih (fun i hi => h i (by omega)), h n (by omega)]
theorem sumF_bd {f : Nat → Int} {n : Nat} {K : Int} (h : ∀ i, i < n → 0 ≤ f i ∧ f i ≤ K) : 0 ≤ sumF f n ∧ sumF f n ≤ K * n := by
  induction n with
  | zero => simp [sumF]
  | succ n ih =>
    have a := ih (fun i hi => h i (by omega))
    have b := h n (by omega)
    rw [sumF_succ]
    refine ⟨by omega, ?_⟩
    have : K * ((n + 1 : Nat) : Int) = K * n + K := by rw [Int.natCast_succ, Int.mul_add, Int.mul_one]
    omega
theorem sumF_split (f : Nat → Int) (m n : Nat) : sumF f (m + n) = sumF f m + sumF (fun i => f (m + i)) n := by
  induction n with
  | zero => simp [sumF]
  | succ n ih => rw [← Nat.add_assoc, sumF_succ, ih, sumF_succ, Int.add_assoc]
theorem sumF_zeros {f : Nat → Int} {n : Nat} (h : ∀ i, i < n → f i = 0) : sumF f n = 0 := by
  induction n with
  | zero => rfl
  | succ n ih => rw [sumF_succ, ih (fun i hi => h i (by omega)), h n (by omega)]; rfl
/-- a sum of what is not negative is nothing just if all is nothing -/
theorem sumF_pos {f : Nat → Int} {n : Nat} (h : ∀ i, i < n → 0 ≤ f i) : 0 < sumF f n ↔ ∃ i, i < n ∧ 0 < f i := by
  induction n with
  | zero => simp [sumF]
  | succ n ih =>
    have a := ih (fun i hi => h i (by omega))
    have nn : 0 ≤ sumF f n := by
      clear a ih
      induction n with
      | zero => simp [sumF]
      | succ n ih => rw [sumF_succ]; have := ih (fun i hi => h i (by omega)); have := h n (by omega); omega
    rw [sumF_succ]
    constructor
    · intro p
      by_cases c : 0 < f n
      · exact ⟨n, by omega, c⟩
      · have := h n (by omega)
        obtain ⟨i, hi, q⟩ := a.1 (by omega)
        exact ⟨i, by omega, q⟩
    · rintro ⟨i, hi, q⟩
      rcases Nat.lt_or_eq_of_le (Nat.le_of_lt_succ hi) with c | c
      · have := a.2 ⟨i, c, q⟩; have := h n (by omega); omega
      · subst c; omega
def gx (xs : List Int) (i : Nat) : Int := xs.getD i 0
def GoodP (xs : List Int) : Prop := (1 ≤ xs.length ∧ xs.length ≤ 60) ∧ AllIn xs 0 1000 ∧ 0 < sumF (gx xs) xs.length
theorem GoodP.bd {xs : List Int} (h : GoodP xs) (i : Nat) : 0 ≤ gx xs i ∧ gx xs i ≤ 1000 := by
  by_cases c : i < xs.length
  · exact inn_e (h.2.1 i c)
  · simp [gx, List.getD, show xs[i]? = none by simp; omega]
theorem exb (p : Prop) : ∃ b : Bool, b = true ↔ p := ⟨@decide p (Classical.propDecidable p), @decide_eq_true_iff p (Classical.propDecidable p)⟩
def SRelS (xs : List Int) (w : World) (s i : Value) (wr : World) : Prop := Gr w wr ∧ ∃ k : Nat, k ≤ xs.length ∧ i = .int .i64 k ∧ s = .int .i64 (sumF (gx xs) k)
set_option maxRecDepth 100000 in
set_option maxHeartbeats 800000 in
theorem Tryd.mdSum (w : World) (B : Nat) (v : Value) (xs : List Int) (hx : AllIn xs 0 1000) (hl : xs.length ≤ 60) (h : OwnI w B v xs) :
    Calls Tryd.prog 24 #[v] w fun e w' => e = .returned (.int .i64 (sumF (gx xs) xs.length)) ∧ Gr w w' := by
  rcases h.view with ⟨rfl, A, c, rfl⟩ | ⟨hpos, g, c, rfl, _, _, _, hc, _⟩
  · clear h hx
    go_enter Tryd.func24, Tryd.ntmps24
    go_wp2
    refine wp_loop_rounds 1 ?_
    rw [rounds_succ]
    go_wp2
    go_ret
    exact ⟨rfl, by repeat (first | exact Gr.refl _ | refine Gr.alloc ?_ _ | refine Gr.trans ?_ (by assumption) | refine Gr.drew ?_ | refine Gr.drewN ?_ _ | refine Gr.grow ?_ _ | refine Gr.setCell ?_ (by (try simp); (try omega)) _)⟩
  · have HC := Lib.hid hc
    have HX := Lib.hid hx
    clear h hc hx
    go_enter Tryd.func24, Tryd.ntmps24
    go_wp2
    go_loopw [3, 8] (fun s i wr => SRelS xs w s i wr) (fun _ i _ => (xs.length - intOf i).toNat)
    case atStart => exact ⟨Gr.refl _, 0, Nat.zero_le _, rfl, rfl⟩
    case round =>
      obtain ⟨gr, k, hk, rfl, rfl⟩ := hrel
      have HG := Lib.hid gr
      by_cases hlt : k < xs.length
      · have e1 := gr.keep2 (HC.out k hlt)
        have z0 : (0 : Int) ≤ (k : Int) := by omega
        have z1 : (k : Int) < (xs.length : Int) := by omega
        have hb := inn_e (HX.out k hlt)
        have hs := sumF_bd (f := gx xs) (n := k) (K := 1000) (fun i hi => inn_e (HX.out i (by omega)))
        have HN := Lib.hid (sumF_succ (gx xs) k)
        obtain ⟨y, hy⟩ : ∃ y, gx xs k = y := ⟨_, rfl⟩
        rw [show xs.getD k 0 = y from hy] at e1 hb
        rw [hy] at HN
        clear gr hy
        generalize sumF (gx xs) k = s at *
        go_wp2
        go_roundw
        case rel => exact ⟨HG.out, k + 1, by omega, by go_num, by rw [HN.out]⟩
        case measure => simp [intOf]; omega
      · obtain rfl : k = xs.length := by omega
        clear gr
        go_wp2
        go_ret
        exact ⟨rfl, HG.out⟩
set_option maxHeartbeats 800000 in
theorem Tryd.mdGood (w : World) (B : Nat) (v : Value) (xs : List Int) (b : Bool) (hb : b = true ↔ GoodP xs) (hl : xs.length ≤ 1048576) (h : OwnI w B v xs) :
    Calls Tryd.prog 15 #[v] w fun e w' => e = .returned (.bool b) ∧ Gr w w' := by
  have H0 := Lib.hid h
  obtain ⟨A, c, rfl, h⟩ := h.eta
  have HO := Lib.hid h
  have HB := Lib.hid hb
  clear h H0 hb
  cases h1 : inn (xs.length : Int) 1 60
  · have HF := Lib.hid (show b = false by
      cases q : b
      · rfl
      · have := (HB.out.1 q).1; have := of_decide_eq_false h1; omega)
    have H1 := Lib.hid h1
    clear h1
    go_enter Tryd.func15, Tryd.ntmps15
    go_wp2_with (first | (go_at_call 22; refine (Tryd.l1In _ _ _ _ H1.out _).mono ?_; rintro e w1 ⟨rfl, rfl⟩))
    go_ret
    exact ⟨by rw [HF.out]; rfl, by repeat (first | exact Gr.refl _ | refine Gr.alloc ?_ _ | refine Gr.trans ?_ (by assumption) | refine Gr.drew ?_ | refine Gr.drewN ?_ _ | refine Gr.grow ?_ _ | refine Gr.setCell ?_ (by (try simp); (try omega)) _)⟩
  · have hl1 := inn_e h1
    have H1 := Lib.hid h1
    clear h1
    by_cases h2 : AllIn xs 0 1000
    · have hs := sumF_bd (f := gx xs) (n := xs.length) (K := 1000) (fun i hi => inn_e (h2 i (by omega)))
      have HS := Lib.hid (fun (w1 : World) (g : Gr w w1) => Tryd.mdSum w1 B _ xs h2 (by omega) (HO.out.gr g))
      have HA := Lib.hid (Tryd.l1All w B _ xs 0 1000 true ⟨fun _ => h2, fun _ => rfl⟩ hl HO.out)
      have HD := Lib.hid (show b = decide (0 < sumF (gx xs) xs.length) by
        cases q : b
        · have : ¬ 0 < sumF (gx xs) xs.length := fun c => by have := HB.out.2 ⟨by omega, h2, c⟩; rw [q] at this; cases this
          simp [this]
        · have := (HB.out.1 q).2.2
          simp [this])
      clear h2
      generalize sumF (gx xs) xs.length = s at *
      go_enter Tryd.func15, Tryd.ntmps15
      go_wp2_with (first | (go_at_call 22; refine (Tryd.l1In _ _ _ _ H1.out _).mono ?_; rintro e w1 ⟨rfl, rfl⟩) | (go_at_call 23; refine (HA.out).mono ?_; rintro e w1 ⟨rfl, hbW⟩; have hcW := (bcell hbW.below).1; have hfW := (bcell hbW.below).2; (try have hzW : w.heap.size < w1.heap.size := by have hq := hbW.below.size; (try simp at hq); omega); (try have hyW : w.heap.size + 1 < w1.heap.size := by have hq := hbW.below.size; (try simp at hq); omega); (try have hxW : w.heap.size + 2 < w1.heap.size := by have hq := hbW.below.size; (try simp at hq); omega)) | (go_at_call 24; refine (HS.out _ (by assumption)).mono ?_; rintro e w1 ⟨rfl, hbW⟩; have hcW := (bcell hbW.below).1; have hfW := (bcell hbW.below).2; (try have hzW : w.heap.size < w1.heap.size := by have hq := hbW.below.size; (try simp at hq); omega); (try have hyW : w.heap.size + 1 < w1.heap.size := by have hq := hbW.below.size; (try simp at hq); omega); (try have hxW : w.heap.size + 2 < w1.heap.size := by have hq := hbW.below.size; (try simp at hq); omega)))
      go_ret
      exact ⟨by rw [HD.out]; rfl, by repeat (first | exact Gr.refl _ | refine Gr.alloc ?_ _ | refine Gr.trans ?_ (by assumption) | refine Gr.drew ?_ | refine Gr.drewN ?_ _ | refine Gr.grow ?_ _ | refine Gr.setCell ?_ (by (try simp); (try omega)) _)⟩
    · have HA := Lib.hid (Tryd.l1All w B _ xs 0 1000 false ⟨fun q => (by cases q), fun q => absurd q h2⟩ hl HO.out)
      have HF := Lib.hid (show b = false by
        cases q : b
        · rfl
        · exact absurd (HB.out.1 q).2.1 h2)
      clear h2
      go_enter Tryd.func15, Tryd.ntmps15
      go_wp2_with (first | (go_at_call 22; refine (Tryd.l1In _ _ _ _ H1.out _).mono ?_; rintro e w1 ⟨rfl, rfl⟩) | (go_at_call 23; refine (HA.out).mono ?_; rintro e w1 ⟨rfl, hbW⟩; have hcW := (bcell hbW.below).1; have hfW := (bcell hbW.below).2; (try have hzW : w.heap.size < w1.heap.size := by have hq := hbW.below.size; (try simp at hq); omega); (try have hyW : w.heap.size + 1 < w1.heap.size := by have hq := hbW.below.size; (try simp at hq); omega); (try have hxW : w.heap.size + 2 < w1.heap.size := by have hq := hbW.below.size; (try simp at hq); omega)))
      go_ret
      exact ⟨by rw [HF.out]; rfl, by repeat (first | exact Gr.refl _ | refine Gr.alloc ?_ _ | refine Gr.trans ?_ (by assumption) | refine Gr.drew ?_ | refine Gr.drewN ?_ _ | refine Gr.grow ?_ _ | refine Gr.setCell ?_ (by (try simp); (try omega)) _)⟩
theorem minOf_spec (xs : List Int) (k : Nat) (h0 : 0 < k) (hk : k ≤ xs.length) : (∀ j, j < k → Lib.minOf (xs.take k) ≤ gx xs j) ∧ ∃ j, j < k ∧ Lib.minOf (xs.take k) = gx xs j := by
  induction k with
  | zero => omega
  | succ k ih =>
    rcases Nat.eq_zero_or_pos k with e | e
    · subst e
      rw [Lib.minOf_one]
      exact ⟨fun j hj => by rw [show j = 0 by omega]; exact Int.le_refl _, 0, by omega, rfl⟩
    · rw [Lib.minOf_step xs k e (by omega)]
      obtain ⟨a, j, hj, ej⟩ := ih e (by omega)
      have g : xs.getD k 0 = gx xs k := rfl
      rw [g]
      refine ⟨fun i hi => ?_, ?_⟩
      · rcases Nat.lt_or_eq_of_le (Nat.le_of_lt_succ hi) with c | c
        · have := a i c; omega
        · subst c; omega
      · rcases Int.le_total (Lib.minOf (xs.take k)) (gx xs k) with c | c
        · exact ⟨j, by omega, by rw [← ej]; omega⟩
        · exact ⟨k, by omega, by omega⟩
theorem maxOf_spec (xs : List Int) (k : Nat) (h0 : 0 < k) (hk : k ≤ xs.length) : (∀ j, j < k → gx xs j ≤ Lib.maxOf (xs.take k)) ∧ ∃ j, j < k ∧ Lib.maxOf (xs.take k) = gx xs j := by
  induction k with
  | zero => omega
  | succ k ih =>
    rcases Nat.eq_zero_or_pos k with e | e
    · subst e
      rw [Lib.maxOf_one]
      exact ⟨fun j hj => by rw [show j = 0 by omega]; exact Int.le_refl _, 0, by omega, rfl⟩
    · rw [Lib.maxOf_step xs k e (by omega)]
      obtain ⟨a, j, hj, ej⟩ := ih e (by omega)
      have g : xs.getD k 0 = gx xs k := rfl
      rw [g]
      refine ⟨fun i hi => ?_, ?_⟩
      · rcases Nat.lt_or_eq_of_le (Nat.le_of_lt_succ hi) with c | c
        · have := a i c; omega
        · subst c; omega
      · rcases Int.le_total (gx xs k) (Lib.maxOf (xs.take k)) with c | c
        · exact ⟨j, by omega, by rw [← ej]; omega⟩
        · exact ⟨k, by omega, by omega⟩
theorem good_minmax {xs : List Int} (h0 : 1 ≤ xs.length) (h1 : xs.length ≤ 60) : GoodP xs ↔ 0 ≤ Lib.minOf (xs.take xs.length) ∧ 1 ≤ Lib.maxOf (xs.take xs.length) ∧ Lib.maxOf (xs.take xs.length) ≤ 1000 := by
  obtain ⟨a, i, hi, ei⟩ := minOf_spec xs xs.length h0 (Nat.le_refl _)
  obtain ⟨b, j, hj, ej⟩ := maxOf_spec xs xs.length h0 (Nat.le_refl _)
  constructor
  · intro g
    obtain ⟨l, hl, pl⟩ := (sumF_pos (f := gx xs) (fun i _ => (g.bd i).1)).1 g.2.2
    have := g.bd i
    have := g.bd j
    have := b l hl
    omega
  · rintro ⟨c, d, e⟩
    have all : ∀ l, l < xs.length → 0 ≤ gx xs l ∧ gx xs l ≤ 1000 := fun l hl => by have := a l hl; have := b l hl; omega
    exact ⟨⟨h0, h1⟩, fun l hl => inn_t (all l hl).1 (all l hl).2, (sumF_pos (fun l hl => (all l hl).1)).2 ⟨j, hj, by omega⟩⟩
set_option maxHeartbeats 800000 in
theorem Tryd.iArePeople (w : World) (B : Nat) (v : Value) (xs : List Int) (b : Bool) (hb : b = true ↔ GoodP xs) (hl : xs.length ≤ 1048576) (h : OwnI w B v xs) :
    Calls Tryd.prog 19 #[v] w fun e w' => e = .returned (.bool b) ∧ Gr w w' := by
  have HB := Lib.hid hb
  cases h1 : inn (xs.length : Int) 1 60
  · have HF := Lib.hid (show b = false by
      cases q : b
      · rfl
      · have := (HB.out.1 q).1; have := of_decide_eq_false h1; omega)
    have H1 := Lib.hid h1
    obtain ⟨A, c, rfl, h⟩ := h.eta
    clear h1 hb
    go_enter Tryd.func19, Tryd.ntmps19
    go_wp2_with (first | (go_at_call 33; refine (Tryd.within _ _ _ _ H1.out _).mono ?_; rintro e w1 ⟨rfl, rfl⟩))
    go_ret
    exact ⟨by rw [HF.out]; rfl, by repeat (first | exact Gr.refl _ | refine Gr.alloc ?_ _ | refine Gr.trans ?_ (by assumption) | refine Gr.drew ?_ | refine Gr.drewN ?_ _ | refine Gr.grow ?_ _ | refine Gr.setCell ?_ (by (try simp); (try omega)) _)⟩
  · have hl1 := inn_e h1
    have H1 := Lib.hid h1
    rcases h.view with ⟨rfl, _⟩ | ⟨hpos, g, c, rfl, _, _, _, hc, _⟩
    · simp at hl1
    · have gm := good_minmax (xs := xs) (by omega) (by omega)
      have HMI := Lib.hid (fun W (g' : Gr w W) => Tryd.slices_Min_int g 0 xs.length c xs W hpos (Nat.le_refl _) (by omega) (fun j hj => by rw [Nat.zero_add]; exact g'.keep2 (hc j hj)))
      have HMA := Lib.hid (fun W (g' : Gr w W) => Tryd.slices_Max_int g 0 xs.length c xs W hpos (Nat.le_refl _) (by omega) (fun j hj => by rw [Nat.zero_add]; exact g'.keep2 (hc j hj)))
      generalize Lib.minOf (xs.take xs.length) = mi at *
      generalize Lib.maxOf (xs.take xs.length) = ma at *
      clear h1 hb hc h
      by_cases hm : 0 ≤ mi
      · have HV := Lib.hid (show inn ma 1 1000 = b by
          cases q : b
          · refine inn_f ?_
            have : ¬ (1 ≤ ma ∧ ma ≤ 1000) := fun c => by have := HB.out.2 (gm.2 ⟨hm, c.1, c.2⟩); rw [q] at this; cases this
            omega
          · have := gm.1 (HB.out.1 q)
            exact inn_t this.2.1 this.2.2)
        clear gm
        go_enter Tryd.func19, Tryd.ntmps19
        go_wp2_with (first | (go_at_call_of 33 (Value.int .i64 (xs.length : Int)); refine (Tryd.within _ _ _ _ H1.out _).mono ?_; rintro e w1 ⟨rfl, rfl⟩) | (go_at_call_of 33 (Value.int .i64 ma); refine (Tryd.within _ _ _ _ HV.out _).mono ?_; rintro e w1 ⟨rfl, rfl⟩) | (go_at_call 34; refine (HMI.out _ (by repeat (first | exact Gr.refl _ | refine Gr.alloc ?_ _ | refine Gr.trans ?_ (by assumption) | refine Gr.drew ?_ | refine Gr.drewN ?_ _ | refine Gr.grow ?_ _ | refine Gr.setCell ?_ (by (try simp); (try omega)) _))).mono ?_; rintro e w1 ⟨rfl, rfl⟩) | (go_at_call 35; refine (HMA.out _ (by repeat (first | exact Gr.refl _ | refine Gr.alloc ?_ _ | refine Gr.trans ?_ (by assumption) | refine Gr.drew ?_ | refine Gr.drewN ?_ _ | refine Gr.grow ?_ _ | refine Gr.setCell ?_ (by (try simp); (try omega)) _))).mono ?_; rintro e w1 ⟨rfl, rfl⟩))
        go_ret
        exact ⟨rfl, by repeat (first | exact Gr.refl _ | refine Gr.alloc ?_ _ | refine Gr.trans ?_ (by assumption) | refine Gr.drew ?_ | refine Gr.drewN ?_ _ | refine Gr.grow ?_ _ | refine Gr.setCell ?_ (by (try simp); (try omega)) _)⟩
      · have HF := Lib.hid (show b = false by
          cases q : b
          · rfl
          · exact absurd (gm.1 (HB.out.1 q)).1 hm)
        clear gm
        go_enter Tryd.func19, Tryd.ntmps19
        go_wp2_with (first | (go_at_call 33; refine (Tryd.within _ _ _ _ H1.out _).mono ?_; rintro e w1 ⟨rfl, rfl⟩) | (go_at_call 34; refine (HMI.out _ (by repeat (first | exact Gr.refl _ | refine Gr.alloc ?_ _ | refine Gr.trans ?_ (by assumption) | refine Gr.drew ?_ | refine Gr.drewN ?_ _ | refine Gr.grow ?_ _ | refine Gr.setCell ?_ (by (try simp); (try omega)) _))).mono ?_; rintro e w1 ⟨rfl, rfl⟩))
        go_ret
        exact ⟨by rw [HF.out]; rfl, by repeat (first | exact Gr.refl _ | refine Gr.alloc ?_ _ | refine Gr.trans ?_ (by assumption) | refine Gr.drew ?_ | refine Gr.drewN ?_ _ | refine Gr.grow ?_ _ | refine Gr.setCell ?_ (by (try simp); (try omega)) _)⟩
end Go.Proofs
