/-
  Contracts of chapter 3: the deliveries for numbers, both sides.
-/
import Derived.Test.YtcmlojidcpomjacPoB
import Derived.Test.YtcmlojidcpomjacNuC
import Derived.WalkSpells
namespace Go.Proofs
open Go.RowKit
set_option linter.unusedVariables false
set_option linter.unusedSimpArgs false
/-- what there is at a plot: 1 for the left side, 2 for the right one -/
def ldL (xs : List Int) (k p pl : Int) : Int := if num k p 0 pl ∈ xs then 1 else 0
def ldR (xs : List Int) (k p pl : Int) : Int := if 0 < k ∧ num k p 1 pl ∈ xs then 2 else 0
def ld (xs : List Int) (k p pl : Int) : Int := ldL xs k p pl + ldR xs k p pl
theorem ld_bd (xs : List Int) (k p pl : Int) : 0 ≤ ld xs k p pl ∧ ld xs k p pl ≤ 3 := by unfold ld ldL ldR; split <;> split <;> omega
def sgn (l : Int) : UInt8 := if l = 0 then 45 else if l = 1 then 108 else if l = 2 then 114 else 98
def dl (xs : List Int) (k p : Int) (i : Nat) : List UInt8 := (List.range i).map fun (j : Nat) => sgn (ld xs k p j)
def dls (xs : List Int) (k p : Int) (i : Nat) : ByteArray := ⟨(dl xs k p i).toArray⟩
theorem dls_size (xs : List Int) (k p : Int) (i : Nat) : (dls xs k p i).size = i := by simp [dls, dl, ByteArray.size]
theorem dls_succ (xs : List Int) (k p : Int) (i : Nat) : dls xs k p (i + 1) = dls xs k p i ++ ⟨#[sgn (ld xs k p i)]⟩ := by
  apply ByteArray.ext
  simp [dls, dl, List.range_succ]
theorem dls_zero (xs : List Int) (k p : Int) : dls xs k p 0 = ⟨#[]⟩ := rfl
instance (xs : List Int) (lo hi : Int) (j : Nat) : Decidable (stepR xs lo hi j) := by unfold stepR; infer_instance
instance (xs : List Int) (lo hi : Int) : Decidable (RisI xs lo hi) := by unfold RisI; infer_instance
def risB (xs : List Int) (lo hi : Int) : Bool := decide (RisI xs lo hi)
theorem risB_iff (xs : List Int) (lo hi : Int) (b : Bool) (h : risB xs lo hi = b) : b = true ↔ RisI xs lo hi := by rw [← h]; exact decide_eq_true_iff
def doB (k p : Int) (xs : List Int) : Bool := gd k p && decide (p ≤ 60) && risB xs 1 (hs k p)
def doV (k p : Int) (xs : List Int) : ByteArray := if doB k p xs then dls xs k p p.toNat else ⟨#[]⟩
def SRel (xs : List Int) (k p : Int) (W : World) (s i : Value) (wr : World) : Prop := Gr W wr ∧ ∃ m : Nat, (m : Int) ≤ p ∧ i = .int .i64 m ∧ s = .string (dls xs k p m)
set_option maxRecDepth 100000 in
set_option maxHeartbeats 3200000 in
theorem Try.sDeliveriesOf (w : World) (B : Nat) (v : Value) (xs : List Int) (k p : Int) (hl : xs.length ≤ 1048576) (h : OwnI w B v xs) :
    Calls Try.prog 21 #[.agg #[.int .i64 k, .int .i64 p], v] w fun e w' => e = .returned (.tuple #[.string (doV k p xs), .bool (doB k p xs)]) ∧ Below w.heap.size w w' := by
  have mixed : Try.prog.follows .mixedOrders = true := by kernel_rfl
  have HBX := Lib.hid (fun (W : World) (g : Gr (w.alloc (.cells #[.int .i64 k, .int .i64 p] 35)) W) => boxG (w := w) g)
  cases hg : gd k p
  · have hB : doB k p xs = false := by simp [doB, hg]
    rw [show doV k p xs = ⟨#[]⟩ by simp [doV, hB], hB]
    have HG := Lib.hid hg
    obtain ⟨A, c, rfl, h⟩ := h.eta
    clear h hg hB
    go_enter Try.func21, Try.ntmps21
    go_wp2_with (first | (go_at_call 43; refine (Try.nuGood _ _ _ HG.out _).mono ?_; rintro e w1 ⟨rfl, hbW⟩; have hcW := (bcell hbW.below).1; have hfW := (bcell hbW.below).2; (try have hzW : w.heap.size < w1.heap.size := by have hq := hbW.below.size; (try simp at hq); omega); (try have hyW : w.heap.size + 1 < w1.heap.size := by have hq := hbW.below.size; (try simp at hq); omega); (try have hxW : w.heap.size + 2 < w1.heap.size := by have hq := hbW.below.size; (try simp at hq); omega)))
    go_ret2
    exact ⟨rfl, Gr.below (by repeat (first | exact Gr.refl _ | refine Gr.alloc ?_ _ | refine Gr.trans ?_ (by assumption) | refine Gr.drew ?_ | refine Gr.drewN ?_ _ | refine Gr.grow ?_ _ | refine Gr.setCell ?_ (by (try simp); (try omega)) _))⟩
  · have HG := Lib.hid hg
    obtain ⟨a1, a2, a3, a4⟩ := gd_t hg
    by_cases h60 : p ≤ 60
    · have d60 : decide (60 < p) = false := by simp; omega
      cases hr : risB xs 1 (hs k p)
      · have hB : doB k p xs = false := by simp [doB, hr]
        rw [show doV k p xs = ⟨#[]⟩ by simp [doV, hB], hB]
        have HR := Lib.hid (fun (W : World) (g : Gr w W) => Try.l1Rising W B v xs 1 (hs k p) false (risB_iff xs 1 (hs k p) false hr) hl (h.gr g))
        obtain ⟨A, c, rfl, h⟩ := h.eta
        clear h hg hB hr
        go_enter Try.func21, Try.ntmps21
        go_wp2_with (first | (go_at_call 43; refine (Try.nuGood _ _ _ HG.out _).mono ?_; rintro e w1 ⟨rfl, hbW⟩; have hcW := (bcell hbW.below).1; have hfW := (bcell hbW.below).2; (try have hzW : w.heap.size < w1.heap.size := by have hq := hbW.below.size; (try simp at hq); omega); (try have hyW : w.heap.size + 1 < w1.heap.size := by have hq := hbW.below.size; (try simp at hq); omega); (try have hxW : w.heap.size + 2 < w1.heap.size := by have hq := hbW.below.size; (try simp at hq); omega)) | (go_at_call 45; refine (Try.nuHouses _ _ _ a1 a2 a3 a4).mono ?_; rintro e w1 ⟨rfl, hbW⟩; have hcW := (bcell hbW.below).1; have hfW := (bcell hbW.below).2; (try have hzW : w.heap.size < w1.heap.size := by have hq := hbW.below.size; (try simp at hq); omega); (try have hyW : w.heap.size + 1 < w1.heap.size := by have hq := hbW.below.size; (try simp at hq); omega); (try have hxW : w.heap.size + 2 < w1.heap.size := by have hq := hbW.below.size; (try simp at hq); omega)) | (go_at_call 44; refine (HR.out _ (by repeat (first | exact Gr.refl _ | refine Gr.alloc ?_ _ | refine Gr.trans ?_ (by assumption) | refine Gr.drew ?_ | refine Gr.drewN ?_ _ | refine Gr.grow ?_ _ | refine Gr.setCell ?_ (by (try simp); (try omega)) _))).mono ?_; rintro e w4 ⟨rfl, g4⟩))
        go_ret2
        exact ⟨rfl, Gr.below (by repeat (first | exact Gr.refl _ | refine Gr.alloc ?_ _ | refine Gr.trans ?_ (by assumption) | refine Gr.drew ?_ | refine Gr.drewN ?_ _ | refine Gr.grow ?_ _ | refine Gr.setCell ?_ (by (try simp); (try omega)) _))⟩
      · have hB : doB k p xs = true := by simp [doB, hr, hg, h60]
        rw [show doV k p xs = dls xs k p p.toNat by simp [doV, hB], hB]
        have HR := Lib.hid (fun (W : World) (g : Gr w W) => Try.l1Rising W B v xs 1 (hs k p) true (risB_iff xs 1 (hs k p) true hr) hl (h.gr g))
        have HH := Lib.hid (fun (W : World) (g : Gr w W) (n : Int) => Try.l1Has W B v xs n hl (h.gr g))
        obtain ⟨A, c, rfl, h⟩ := h.eta
        clear h hg hB hr
        have ga : Gr w (w.alloc (.cells #[.int .i64 k, .int .i64 p] 35)) := Gr.alloc (Gr.refl _) _
        have ca : (w.alloc (.cells #[.int .i64 k, .int .i64 p] 35)).cell? ⟨w.heap.size, 0, none⟩ = some (.int .i64 k) := by simp [go_sem]
        have cb : (w.alloc (.cells #[.int .i64 k, .int .i64 p] 35)).cell? ⟨w.heap.size, 1, none⟩ = some (.int .i64 p) := by simp [go_sem]
        go_enter Try.func21, Try.ntmps21
        go_wp2_with (first | (go_at_call 43; refine (Try.nuGood _ _ _ HG.out _).mono ?_; rintro e w1 ⟨rfl, g1⟩; have ca1 := g1.keep0 ca; have cb1 := g1.keep0 cb) | (go_at_call 45; refine (Try.nuHouses _ _ _ a1 a2 a3 a4).mono ?_; rintro e w2 ⟨rfl, g2⟩; have ca2 := g2.keep0 ca1; have cb2 := g2.keep0 cb1) | (go_at_call 44; refine (HR.out _ (ga.trans (g1.trans g2))).mono ?_; rintro e w4 ⟨rfl, g4⟩))
        have G4 := Lib.hid (ga.trans (g1.trans (g2.trans g4)))
        have GX := Lib.hid (g1.trans (g2.trans g4))
        clear ga g1 g2 g4 ca cb ca1 cb1 ca2 cb2
        go_loopw [6, 7, 8, 9] (fun s i _ _ wr => SRel xs k p w4 s i wr) (fun _ i _ _ _ => (p - intOf i).toNat)
        case atStart => exact ⟨Gr.refl _, 0, by omega, rfl, rfl⟩
        case round =>
          obtain ⟨gr, m, hm, rfl, rfl⟩ := hrel
          obtain ⟨b0, b1⟩ := HBX.out wr (GX.out.trans gr)
          have c0 := b0 0 #[]
          have c1 := b1 0 #[]
          rw [show Go.Sort.grow (wr.drewN 0) #[] = wr by rw [Go.Sort.grow_empty]; rfl] at c0 c1
          have hS := dls_size xs k p m
          have HD := Lib.hid (dls_succ xs k p m)
          have GR := Lib.hid gr
          have zwr : w.heap.size < wr.heap.size := World.block_lt_of_cell? _ _ c0
          clear gr b0 b1
          by_cases hlt : (m : Int) < p
          · have hHB := fun (b : Bool) (W : World) (g : Gr wr W) (n : Int) (hb : hasI xs n = b) => (show Calls Try.prog 46 #[.slice A xs.length c, .int .i64 n] W fun e w' => e = .returned (.bool b) ∧ Gr W w' from hb ▸ HH.out W (G4.out.trans (GR.out.trans g)) n)
            have HHB := Lib.hid hHB
            have e0 : ldL xs k p m = if hasI xs (num k p 0 m) = true then 1 else 0 := by unfold ldL hasI; simp
            have e1 : ldR xs k p m = if 0 < k ∧ hasI xs (num k p 1 m) = true then 2 else 0 := by unfold ldR hasI; simp
            have eld : ld xs k p m = ldL xs k p m + ldR xs k p m := rfl
            have hmz : (m : Int) + 1 ≤ p := by omega
            generalize dls xs k p m = S at *
            have hz : ∀ c : UInt8, (⟨#[c]⟩ : ByteArray).size = 1 := fun _ => rfl
            have hadd := fun c W => run_string_add (P := Try.prog) (w := W) S ⟨#[c]⟩ (by omega) (by rw [hz]; decide)
            have HE := Lib.hid (show ld xs k p m = (if hasI xs (num k p 0 m) = true then 1 else 0) + (if 0 < k ∧ hasI xs (num k p 1 m) = true then 2 else 0) by rw [eld, e0, e1])
            clear hHB e0 e1 eld hz
            by_cases hk : 0 < k
            · have dk : decide (0 < k) = true := by simpa using hk
              cases h0 : hasI xs (num k p 0 m) <;> cases h1 : hasI xs (num k p 1 m)
              all_goals
                rw [h0, h1] at HE
                go_wp2_with (first | (go_at_call 47; refine (Try.nuNumber k p _ m _ a1 a2 a3 a4 (by omega) (by omega) (by omega) (by omega)).mono ?_; rintro e w5 ⟨rfl, g5⟩; have c0 := g5.keep0 c0; have c1 := g5.keep0 c1) | (go_at_call 46; refine (HHB.out _ _ (by repeat (first | exact Gr.refl _ | refine Gr.alloc ?_ _ | refine Gr.trans ?_ (by assumption) | refine Gr.drew ?_ | refine Gr.drewN ?_ _ | refine Gr.grow ?_ _ | refine Gr.setCell ?_ (by (try simp); (try omega)) _)) _ (by assumption)).mono ?_; rintro e w7 ⟨rfl, g7⟩; have c0 := g7.keep0 c0; have c1 := g7.keep0 c1))
                go_roundw
                case rel => exact ⟨GR.out.trans (by repeat (first | exact Gr.refl _ | refine Gr.alloc ?_ _ | refine Gr.trans ?_ (by assumption) | refine Gr.drew ?_ | refine Gr.drewN ?_ _ | refine Gr.grow ?_ _ | refine Gr.setCell ?_ (by (try simp); (try omega)) _)), m + 1, by omega, by go_num, by rw [HD.out, HE.out]; simp [sgn, hk]⟩
                case measure => simp [intOf]; omega
            · have dk : decide (0 < k) = false := by simpa using hk
              cases h0 : hasI xs (num k p 0 m)
              all_goals
                rw [h0] at HE
                go_wp2_with (first | (go_at_call 47; refine (Try.nuNumber k p _ m _ a1 a2 a3 a4 (by omega) (by omega) (by omega) (by omega)).mono ?_; rintro e w5 ⟨rfl, g5⟩; have c0 := g5.keep0 c0; have c1 := g5.keep0 c1) | (go_at_call 46; refine (HHB.out _ _ (by repeat (first | exact Gr.refl _ | refine Gr.alloc ?_ _ | refine Gr.trans ?_ (by assumption) | refine Gr.drew ?_ | refine Gr.drewN ?_ _ | refine Gr.grow ?_ _ | refine Gr.setCell ?_ (by (try simp); (try omega)) _)) _ (by assumption)).mono ?_; rintro e w7 ⟨rfl, g7⟩; have c0 := g7.keep0 c0; have c1 := g7.keep0 c1))
                go_roundw
                case rel => exact ⟨GR.out.trans (by repeat (first | exact Gr.refl _ | refine Gr.alloc ?_ _ | refine Gr.trans ?_ (by assumption) | refine Gr.drew ?_ | refine Gr.drewN ?_ _ | refine Gr.grow ?_ _ | refine Gr.setCell ?_ (by (try simp); (try omega)) _)), m + 1, by omega, by go_num, by rw [HD.out, HE.out]; simp [sgn, show ¬ (0 < k) by omega]⟩
                case measure => simp [intOf]; omega
          · obtain rfl : p = (m : Int) := by omega
            go_wp2
            go_ret2
            exact ⟨by simp, (G4.out.trans GR.out).below⟩
    · have d60 : decide (60 < p) = true := by simp; omega
      have hB : doB k p xs = false := by simp [doB, h60]
      rw [show doV k p xs = ⟨#[]⟩ by simp [doV, hB], hB]
      obtain ⟨A, c, rfl, h⟩ := h.eta
      clear h hg hB
      go_enter Try.func21, Try.ntmps21
      go_wp2_with (first | (go_at_call 43; refine (Try.nuGood _ _ _ HG.out _).mono ?_; rintro e w1 ⟨rfl, hbW⟩; have hcW := (bcell hbW.below).1; have hfW := (bcell hbW.below).2; (try have hzW : w.heap.size < w1.heap.size := by have hq := hbW.below.size; (try simp at hq); omega); (try have hyW : w.heap.size + 1 < w1.heap.size := by have hq := hbW.below.size; (try simp at hq); omega); (try have hxW : w.heap.size + 2 < w1.heap.size := by have hq := hbW.below.size; (try simp at hq); omega)))
      go_ret2
      exact ⟨rfl, Gr.below (by repeat (first | exact Gr.refl _ | refine Gr.alloc ?_ _ | refine Gr.trans ?_ (by assumption) | refine Gr.drew ?_ | refine Gr.drewN ?_ _ | refine Gr.grow ?_ _ | refine Gr.setCell ?_ (by (try simp); (try omega)) _))⟩
/-! ## The program's -/
theorem num_of (k p n : Int) (h : Asked k p n) : num k p (sdo k p n) (plo k p n) = n := by
  obtain ⟨⟨a, b, c, d⟩, e, f⟩ := h
  unfold hs at f
  unfold num sdo plo
  split
  · omega
  · split
    · simp; omega
    · simp
theorem num_inj {k p a b c d : Int} (hp : 1 ≤ p) (ha : a = 0 ∨ a = 1) (hc : c = 0 ∨ c = 1) (hb : 0 ≤ b ∧ b ≤ p - 1) (hd : 0 ≤ d ∧ d ≤ p - 1) (h : num k p a b = num k p c d) : a = c ∧ b = d := by
  unfold num at h
  rcases ha with rfl | rfl <;> rcases hc with rfl | rfl <;> simp at h <;> split at h <;> omega
def rowF (f : Nat → Int) (n : Nat) : List Int := (List.range n).map f
theorem rowF_len (f : Nat → Int) (n : Nat) : (rowF f n).length = n := by simp [rowF]
theorem rowF_get (f : Nat → Int) (n d : Nat) (h : d < n) : (rowF f n).getD d 0 = f d := by simp [rowF, List.getD, h]
theorem rowF_set (f g : Nat → Int) (n d : Nat) (x : Int) (h : d < n) (hd : g d = x) (ho : ∀ j, j < n → j ≠ d → g j = f j) : (rowF f n).set d x = rowF g n := by
  apply List.ext_getElem (by simp [rowF])
  intro i h1 h2
  simp only [rowF, List.getElem_set, List.getElem_map, List.getElem_range]
  by_cases c : d = i
  · subst c; simp [hd]
  · rw [if_neg c]; exact (ho i (by simpa [rowF] using h2) (fun e => c e.symm)).symm
theorem rowF_zero (n : Nat) : rowF (fun _ => 0) n = List.replicate n 0 := by
  apply List.ext_getElem (by simp [rowF])
  intro i h1 h2
  simp [rowF]
def ldR_ (xs : List Int) (k p : Int) (i : Nat) : List Int := rowF (fun j => ld (xs.take i) k p j) p.toNat
theorem ldR_zero (xs : List Int) (k p : Int) : ldR_ xs k p 0 = List.replicate p.toNat 0 := by
  rw [← rowF_zero]
  unfold ldR_
  congr 1
  funext j
  simp [ld, ldL, ldR]
theorem ris_lt {xs : List Int} {lo hi : Int} (h : RisI xs lo hi) {i j : Nat} (hij : i < j) (hj : j < xs.length) : xs.getD i 0 < xs.getD j 0 := by
  induction j with
  | zero => omega
  | succ j ih =>
    have s := (h (j + 1) hj).2 (by omega)
    simp only [Nat.add_sub_cancel] at s
    rcases Nat.lt_or_eq_of_le (Nat.le_of_lt_succ hij) with c | c
    · have := ih c (by omega); omega
    · subst c; exact s
theorem ris_new {xs : List Int} {lo hi : Int} (h : RisI xs lo hi) {i : Nat} (hi' : i < xs.length) : xs.getD i 0 ∉ xs.take i := by
  intro hm
  obtain ⟨j, hj, e⟩ := List.getElem_of_mem hm
  simp only [List.length_take] at hj
  have := ris_lt h (i := j) (j := i) (by omega) hi'
  rw [List.getElem_take] at e
  have e2 : xs.getD j 0 = xs[j]'(by omega) := by simp [List.getD, show j < xs.length by omega]
  omega
theorem take_mem {xs : List Int} {i : Nat} (h : i < xs.length) (y : Int) : y ∈ xs.take (i + 1) ↔ y ∈ xs.take i ∨ y = xs.getD i 0 := by
  rw [List.take_succ_eq_append_getElem h, List.mem_append, List.mem_singleton]
  simp [List.getD, h]
/-- one number more -/
theorem ld_step {xs : List Int} {k p : Int} (hg : Gd k p) (h : RisI xs 1 (hs k p)) {i : Nat} (hi : i < xs.length) {pl : Nat} (hpl : (pl : Int) < p) :
    ld (xs.take (i + 1)) k p pl = ld (xs.take i) k p pl + (if (pl : Int) = plo k p (xs.getD i 0) then (if sdo k p (xs.getD i 0) = 0 then 1 else 2) else 0) := by
  have hst := (h i hi).1
  have hA : Asked k p (xs.getD i 0) := ⟨hg, hst.1, hst.2⟩
  have hn := num_of k p _ hA
  have hnew := ris_new h hi
  have hsb := sdo_bd k p (xs.getD i 0) hst.1
  have hpb := plo_bd k p (xs.getD i 0) hg.2.2.1 hst.1 hst.2
  have hsk : sdo k p (xs.getD i 0) = 1 → 0 < k := by
    intro e
    rcases Int.lt_or_le 0 k with c | c
    · exact c
    · have k0 : k = 0 := by have := hg.1; omega
      have h2 := hst.2
      unfold sdo at e
      unfold hs at h2
      rw [if_neg (by omega)] at e
      rw [if_pos k0] at h2
      split at e <;> omega
  have htm := take_mem hi
  generalize xs.getD i 0 = n at *
  have hpz : (0 : Int) ≤ pl ∧ (pl : Int) ≤ p - 1 := by omega
  have key : ∀ a : Int, a = 0 ∨ a = 1 → (num k p a pl ∈ xs.take (i + 1) ↔ num k p a pl ∈ xs.take i ∨ (sdo k p n = a ∧ (pl : Int) = plo k p n)) := by
    intro a ha
    rw [htm]
    constructor
    · rintro (q | q)
      · exact .inl q
      · rw [← hn] at q
        have := num_inj hg.2.2.1 ha (by omega) hpz hpb q
        exact .inr ⟨this.1.symm, this.2⟩
    · rintro (q | ⟨q1, q2⟩)
      · exact .inl q
      · right; rw [← q1, q2]; exact hn
  have m0 := key 0 (.inl rfl)
  have m1 := key 1 (.inr rfl)
  unfold ld ldL ldR
  by_cases hp : (pl : Int) = plo k p n
  · rw [if_pos hp]
    by_cases h0 : sdo k p n = 0
    · have n0 : num k p 0 pl ∉ xs.take i := by rw [← h0, hp, hn]; exact hnew
      have n1 : num k p 1 pl ∈ xs.take (i + 1) ↔ num k p 1 pl ∈ xs.take i := by rw [m1]; simp [h0]
      rw [if_pos (m0.2 (.inr ⟨h0, hp⟩)), if_neg n0, if_pos h0]
      by_cases q : 0 < k ∧ num k p 1 pl ∈ xs.take i
      · rw [if_pos ⟨q.1, n1.2 q.2⟩, if_pos q]; omega
      · rw [if_neg (fun z => q ⟨z.1, n1.1 z.2⟩), if_neg q]; omega
    · have h1 : sdo k p n = 1 := by omega
      have n1 : num k p 1 pl ∉ xs.take i := by rw [← h1, hp, hn]; exact hnew
      have n0 : num k p 0 pl ∈ xs.take (i + 1) ↔ num k p 0 pl ∈ xs.take i := by rw [m0]; simp [h1]
      have hA1 : 0 < k ∧ num k p 1 pl ∈ xs.take (i + 1) := ⟨hsk h1, m1.2 (.inr ⟨h1, hp⟩)⟩
      have hA2 : ¬ (0 < k ∧ num k p 1 pl ∈ xs.take i) := fun z => n1 z.2
      rw [if_neg h0, if_pos hA1, if_neg hA2]
      by_cases q : num k p 0 pl ∈ xs.take i
      · rw [if_pos (n0.2 q), if_pos q]; omega
      · rw [if_neg (fun z => q (n0.1 z)), if_neg q]; omega
  · rw [if_neg hp]
    have n0 : num k p 0 pl ∈ xs.take (i + 1) ↔ num k p 0 pl ∈ xs.take i := by rw [m0]; simp [hp]
    have n1 : num k p 1 pl ∈ xs.take (i + 1) ↔ num k p 1 pl ∈ xs.take i := by rw [m1]; simp [hp]
    by_cases q : num k p 0 pl ∈ xs.take i <;> by_cases r : 0 < k ∧ num k p 1 pl ∈ xs.take i
    · rw [if_pos (n0.2 q), if_pos q, if_pos ⟨r.1, n1.2 r.2⟩, if_pos r]; omega
    · rw [if_pos (n0.2 q), if_pos q, if_neg (fun z => r ⟨z.1, n1.1 z.2⟩), if_neg r]; omega
    · rw [if_neg (fun z => q (n0.1 z)), if_neg q, if_pos ⟨r.1, n1.2 r.2⟩, if_pos r]; omega
    · rw [if_neg (fun z => q (n0.1 z)), if_neg q, if_neg (fun z => r ⟨z.1, n1.1 z.2⟩), if_neg r]; omega
theorem ldR_step {xs : List Int} {k p : Int} (hg : Gd k p) (h : RisI xs 1 (hs k p)) {i : Nat} (hi : i < xs.length) :
    (ldR_ xs k p i).set (plo k p (xs.getD i 0)).toNat ((ldR_ xs k p i).getD (plo k p (xs.getD i 0)).toNat 0 + (if sdo k p (xs.getD i 0) = 0 then 1 else 2)) = ldR_ xs k p (i + 1) := by
  have hst := (h i hi).1
  have hpb := plo_bd k p (xs.getD i 0) hg.2.2.1 hst.1 hst.2
  have hlt : (plo k p (xs.getD i 0)).toNat < p.toNat := by omega
  unfold ldR_
  rw [rowF_get _ _ _ hlt]
  apply rowF_set _ _ _ _ _ hlt
  · have := ld_step hg h hi (pl := (plo k p (xs.getD i 0)).toNat) (by omega)
    rw [this, if_pos (by omega)]
  · intro j hj hne
    have := ld_step hg h hi (pl := j) (by omega)
    rw [this, if_neg (by omega)]; omega
theorem ldR_all (xs : List Int) (k p : Int) (j : Nat) (hj : j < p.toNat) : (ldR_ xs k p xs.length).getD j 0 = ld xs k p j := by
  unfold ldR_
  rw [rowF_get _ _ _ hj, List.take_length]
theorem ldR_len (xs : List Int) (k p : Int) (i : Nat) : (ldR_ xs k p i).length = p.toNat := rowF_len _ _
theorem ldR_bd (xs : List Int) (k p : Int) (i j : Nat) (hj : j < p.toNat) : 0 ≤ (ldR_ xs k p i).getD j 0 ∧ (ldR_ xs k p i).getD j 0 ≤ 3 := by
  unfold ldR_
  rw [rowF_get _ _ _ hj]
  exact ld_bd _ _ _ _
end Go.Proofs
