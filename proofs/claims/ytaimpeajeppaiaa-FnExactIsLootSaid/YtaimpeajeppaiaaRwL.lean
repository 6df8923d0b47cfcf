/-
  Chapter 7: houses that are a loot, both sides (IsLoot).
-/
import Derived.Test.YtaimpeajeppaiaaRwA
import Derived.Test.YtaimpeajeppaiaaRwN
namespace Go.Proofs
open Go.RowKit
set_option linter.unusedVariables false
set_option linter.unusedSimpArgs false
def LootP (ts : List Int) (n : Int) (ring : Bool) : Prop := ∀ j, j < ts.length → ∀ i, i < j → neiB n (ts.getD i 0) (ts.getD j 0) ring = false
theorem OwnI.capR {w : World} {B n c : Nat} {A : Option Addr} {xs : List Int} (h : OwnI w B (.slice A n c) xs) : n ≤ c := by
  rcases h.2 with ⟨e, hn⟩ | ⟨g, cap, cur, e, hb, hg, hc, _⟩
  · cases e; omega
  · cases e; omega
def LtRelO (ts : List Int) (n : Int) (ring : Bool) (w : World) (i : Value) (wr : World) : Prop := Gr w wr ∧ ∃ k : Nat, k ≤ ts.length ∧ i = .int .i64 k ∧ ∀ j, j < k → ∀ i, i < j → neiB n (ts.getD i 0) (ts.getD j 0) ring = false
def LtRelI (ts : List Int) (n : Int) (ring : Bool) (k : Nat) (w : World) (i : Value) (wr : World) : Prop := Gr w wr ∧ ∃ m : Nat, m ≤ k ∧ i = .int .i64 m ∧ ∀ i, i < m → neiB n (ts.getD i 0) (ts.getD k 0) ring = false
set_option maxRecDepth 100000 in
set_option maxHeartbeats 1600000 in
theorem Try.sIsLoot (w : World) (B B2 : Nat) (v v2 : Value) (xs ts : List Int) (ring : Bool) (r1 r2 p : Bool) (h1 : r1 = true ↔ UpP xs 20 1000) (h2 : r2 = true ↔ RisI ts 0 ((xs.length : Int) - 1)) (hp : p = true ↔ LootP ts xs.length ring)
    (hl : xs.length ≤ 1048576) (hl2 : ts.length ≤ 1048576) (h : OwnI w B v xs) (g2 : OwnI w B2 v2 ts) :
    Calls Try.prog 37 #[v, v2, .bool ring] w fun e w' => e = .returned (.tuple #[.bool (r1 && r2 && p), .bool (r1 && r2)]) ∧ Gr w w' := by
  have HV := Lib.hid (Try.rwValues w B v xs r1 h1 hl h)
  have HH := Lib.hid (fun w1 (g : Gr w w1) => Try.l1Rising w1 B2 _ ts 0 ((xs.length : Int) - 1) r2 h2 hl2 (g2.gr g))
  obtain ⟨A, c, rfl, _⟩ := h.eta
  cases r1
  · obtain ⟨A2, c2, rfl, _⟩ := g2.eta
    clear h g2 hp h1 h2
    go_enter Try.func37, Try.ntmps37
    go_wp2_with (first | (go_at_call 53; refine (HV.out).mono ?_; rintro e w1 ⟨rfl, hbW⟩; have hcW := (bcell hbW.below).1; have hfW := (bcell hbW.below).2; (try have hzW : w.heap.size < w1.heap.size := by have hq := hbW.below.size; (try simp at hq); omega); (try have hyW : w.heap.size + 1 < w1.heap.size := by have hq := hbW.below.size; (try simp at hq); omega); (try have hxW : w.heap.size + 2 < w1.heap.size := by have hq := hbW.below.size; (try simp at hq); omega)))
    go_ret2
    exact ⟨rfl, by repeat (first | exact Gr.refl _ | refine Gr.alloc ?_ _ | refine Gr.trans ?_ (by assumption) | refine Gr.drew ?_ | refine Gr.drewN ?_ _ | refine Gr.grow ?_ _ | refine Gr.setCell ?_ (by (try simp); (try omega)) _)⟩
  · have hlen := (h1.1 rfl).1
    have wn : IntKind.i64.wrap ((xs.length : Int) - 1) = (xs.length : Int) - 1 := IntWalk.i64_in _ (by omega)
    have HN1 := Lib.hid hlen
    cases r2
    · obtain ⟨A2, c2, rfl, _⟩ := g2.eta
      clear h g2 hp h1 h2
      go_enter Try.func37, Try.ntmps37
      go_wp2_with (first | (go_at_call 53; refine (HV.out).mono ?_; rintro e w1 ⟨rfl, hbW⟩; have hcW := (bcell hbW.below).1; have hfW := (bcell hbW.below).2; (try have hzW : w.heap.size < w1.heap.size := by have hq := hbW.below.size; (try simp at hq); omega); (try have hyW : w.heap.size + 1 < w1.heap.size := by have hq := hbW.below.size; (try simp at hq); omega); (try have hxW : w.heap.size + 2 < w1.heap.size := by have hq := hbW.below.size; (try simp at hq); omega)) | (go_at_call 56; refine (HH.out _ (by assumption)).mono ?_; rintro e w2 ⟨rfl, hbX⟩))
      go_ret2
      exact ⟨rfl, by repeat (first | exact Gr.refl _ | refine Gr.alloc ?_ _ | refine Gr.trans ?_ (by assumption) | refine Gr.drew ?_ | refine Gr.drewN ?_ _ | refine Gr.grow ?_ _ | refine Gr.setCell ?_ (by (try simp); (try omega)) _)⟩
    · have HR := Lib.hid (h2.1 rfl)
      rw [Bool.true_and, Bool.true_and]
      have HP := Lib.hid hp
      rcases g2.view with ⟨rfl, A2, c2, rfl⟩ | ⟨hpos, gb, c2, rfl, _, gl, _, hc, _⟩
      · have HF := Lib.hid (show p = true from hp.2 (fun j hj => by simp at hj))
        clear h g2 hp h1 h2
        go_enter Try.func37, Try.ntmps37
        go_wp2_with (first | (go_at_call 53; refine (HV.out).mono ?_; rintro e w1 ⟨rfl, hbW⟩; have hcW := (bcell hbW.below).1; have hfW := (bcell hbW.below).2; (try have hzW : w.heap.size < w1.heap.size := by have hq := hbW.below.size; (try simp at hq); omega); (try have hyW : w.heap.size + 1 < w1.heap.size := by have hq := hbW.below.size; (try simp at hq); omega); (try have hxW : w.heap.size + 2 < w1.heap.size := by have hq := hbW.below.size; (try simp at hq); omega)) | (go_at_call 56; refine (HH.out _ (by assumption)).mono ?_; rintro e w2 ⟨rfl, hbX⟩))
        refine wp_loop_rounds 1 ?_
        rw [rounds_succ]
        go_wp2
        go_ret2
        exact ⟨by rw [HF.out]; rfl, by repeat (first | exact Gr.refl _ | refine Gr.alloc ?_ _ | refine Gr.trans ?_ (by assumption) | refine Gr.drew ?_ | refine Gr.drewN ?_ _ | refine Gr.grow ?_ _ | refine Gr.setCell ?_ (by (try simp); (try omega)) _)⟩
      · have HC := Lib.hid hc
        have hcap := g2.capR
        clear h g2 hp h1 h2 hc
        go_enter Try.func37, Try.ntmps37
        go_wp2_with (first | (go_at_call 53; refine (HV.out).mono ?_; rintro e w1 ⟨rfl, hbW⟩; have hcW := (bcell hbW.below).1; have hfW := (bcell hbW.below).2; (try have hzW : w.heap.size < w1.heap.size := by have hq := hbW.below.size; (try simp at hq); omega); (try have hyW : w.heap.size + 1 < w1.heap.size := by have hq := hbW.below.size; (try simp at hq); omega); (try have hxW : w.heap.size + 2 < w1.heap.size := by have hq := hbW.below.size; (try simp at hq); omega)) | (go_at_call 56; refine (HH.out _ (by assumption)).mono ?_; rintro e w2 ⟨rfl, hbX⟩))
        go_loopw [25] (fun i wr => LtRelO ts xs.length ring w i wr) (fun i _ => (ts.length - intOf i).toNat)
        case atStart => exact ⟨by repeat (first | exact Gr.refl _ | refine Gr.alloc ?_ _ | refine Gr.trans ?_ (by assumption) | refine Gr.drew ?_ | refine Gr.drewN ?_ _ | refine Gr.grow ?_ _ | refine Gr.setCell ?_ (by (try simp); (try omega)) _), 0, Nat.zero_le _, rfl, fun j hj => by omega⟩
        case round =>
          obtain ⟨gr, k, hk, rfl, hall⟩ := hrel
          have HG := Lib.hid gr
          have HA := Lib.hid hall
          by_cases hlt : k < ts.length
          · have e1 := gr.keep2 (HC.out k hlt)
            have bk := (HR.out k hlt).1
            obtain ⟨yk, hyk⟩ : ∃ y, ts.getD k 0 = y := ⟨_, rfl⟩
            rw [hyk] at e1 bk
            have HYK := Lib.hid hyk
            have z0 : (0 : Int) ≤ (k : Int) := by omega
            have z1 : (k : Int) < (ts.length : Int) := by omega
            have z2 : (k : Int) ≤ (c2 : Int) := by omega
            clear gr hall hyk
            rename World => W1
            go_wp2
            go_loopw [34] (fun i wr => LtRelI ts xs.length ring k W1 i wr) (fun i _ => (k - intOf i).toNat)
            case atStart => exact ⟨Gr.refl _, 0, Nat.zero_le _, rfl, fun j hj => by omega⟩
            case round =>
              obtain ⟨gr, m, hm, rfl, hall⟩ := hrel
              have HG2 := Lib.hid gr
              have HA2 := Lib.hid hall
              by_cases hmk : m < k
              · have e2 := (HG.out.trans gr).keep2 (HC.out m (by omega))
                have bm := (HR.out m (by omega)).1
                have y0 : (0 : Int) ≤ (m : Int) := by omega
                have y1 : (m : Int) < (ts.length : Int) := by omega
                have y2 : (m : Int) < (k : Int) := by omega
                obtain ⟨ym, hym⟩ : ∃ y, ts.getD m 0 = y := ⟨_, rfl⟩
                rw [hym] at e2 bm
                have HYM := Lib.hid hym
                obtain ⟨r, hr⟩ : ∃ r, neiB (xs.length : Int) ym yk ring = r := ⟨_, rfl⟩
                have HN := Lib.hid (fun W => Try.rwNext (xs.length : Int) yk ym ring W (by have := HN1.out; omega) (by have := HN1.out; omega) (by have := HN1.out; omega) r (by rw [neiB_symm]; exact hr))
                have HRR := Lib.hid hr
                clear gr hall hr hym
                cases r
                · have HS := Lib.hid (show ∀ i, i < m + 1 → neiB xs.length (ts.getD i 0) (ts.getD k 0) ring = false from fun i hi => by
                    rcases Nat.lt_or_eq_of_le (Nat.le_of_lt_succ hi) with c | c
                    · exact HA2.out i c
                    · subst c; rw [HYM.out, HYK.out]; exact HRR.out)
                  go_wp2_with (first | (go_at_call 57; refine (HN.out _).mono ?_; rintro e w1 ⟨rfl, rfl⟩))
                  go_roundw
                  case rel => exact ⟨HG2.out.trans (by repeat (first | exact Gr.refl _ | refine Gr.alloc ?_ _ | refine Gr.trans ?_ (by assumption) | refine Gr.drew ?_ | refine Gr.drewN ?_ _ | refine Gr.grow ?_ _ | refine Gr.setCell ?_ (by (try simp); (try omega)) _)), m + 1, by omega, by go_num, HS.out⟩
                  case measure => simp [intOf]; omega
                · have HF := Lib.hid (not_trueR HP.out (fun q => by have := q k hlt m hmk; rw [HYM.out, HYK.out, HRR.out] at this; cases this))
                  go_wp2_with (first | (go_at_call 57; refine (HN.out _).mono ?_; rintro e w1 ⟨rfl, rfl⟩))
                  go_ret2
                  exact ⟨by rw [HF.out]; rfl, HG.out.trans (HG2.out.trans (by repeat (first | exact Gr.refl _ | refine Gr.alloc ?_ _ | refine Gr.trans ?_ (by assumption) | refine Gr.drew ?_ | refine Gr.drewN ?_ _ | refine Gr.grow ?_ _ | refine Gr.setCell ?_ (by (try simp); (try omega)) _)))⟩
              · obtain rfl : m = k := by omega
                have HS := Lib.hid (show ∀ j, j < m + 1 → ∀ i, i < j → neiB xs.length (ts.getD i 0) (ts.getD j 0) ring = false from fun j hj => by
                  rcases Nat.lt_or_eq_of_le (Nat.le_of_lt_succ hj) with c | c
                  · exact HA.out j c
                  · subst c; exact HA2.out)
                clear gr hall
                go_wp2
                go_roundw
                case rel => exact ⟨HG.out.trans (HG2.out.trans (by repeat (first | exact Gr.refl _ | refine Gr.alloc ?_ _ | refine Gr.trans ?_ (by assumption) | refine Gr.drew ?_ | refine Gr.drewN ?_ _ | refine Gr.grow ?_ _ | refine Gr.setCell ?_ (by (try simp); (try omega)) _))), m + 1, by omega, by go_num, HS.out⟩
                case measure => simp [intOf]; omega
          · obtain rfl : k = ts.length := by omega
            have HF := Lib.hid (show p = true from HP.out.2 HA.out)
            clear gr hall
            go_wp2
            go_ret2
            exact ⟨by rw [HF.out]; rfl, HG.out⟩
set_option maxRecDepth 100000 in
set_option maxHeartbeats 1600000 in
theorem Try.iIsLoot (w : World) (B B2 : Nat) (v v2 : Value) (xs ts : List Int) (ring : Bool) (r1 r2 p : Bool) (h1 : r1 = true ↔ UpP xs 20 1000) (h2 : r2 = true ↔ RisI ts 0 ((xs.length : Int) - 1)) (hp : p = true ↔ LootP ts xs.length ring)
    (hl : xs.length ≤ 1048576) (hl2 : ts.length ≤ 1048576) (h : OwnI w B v xs) (g2 : OwnI w B2 v2 ts) :
    Calls Try.prog 38 #[v, v2, .bool ring] w fun e w' => e = .returned (.tuple #[.bool (r1 && r2 && p), .bool (r1 && r2)]) ∧ Gr w w' := by
  have HV := Lib.hid (Try.areValues w B v xs r1 h1 hl h)
  have HH := Lib.hid (fun w1 (g : Gr w w1) => Try.areHousesOf w1 B2 _ ts (xs.length : Int) r2 h2 (by omega) (by omega) hl2 (g2.gr g))
  obtain ⟨A, c, rfl, _⟩ := h.eta
  cases r1
  · obtain ⟨A2, c2, rfl, _⟩ := g2.eta
    clear h g2 hp h1 h2
    go_enter Try.func38, Try.ntmps38
    go_wp2_with (first | (go_at_call 58; refine (HV.out).mono ?_; rintro e w1 ⟨rfl, hbW⟩; have hcW := (bcell hbW.below).1; have hfW := (bcell hbW.below).2; (try have hzW : w.heap.size < w1.heap.size := by have hq := hbW.below.size; (try simp at hq); omega); (try have hyW : w.heap.size + 1 < w1.heap.size := by have hq := hbW.below.size; (try simp at hq); omega); (try have hxW : w.heap.size + 2 < w1.heap.size := by have hq := hbW.below.size; (try simp at hq); omega)))
    go_ret2
    exact ⟨rfl, by repeat (first | exact Gr.refl _ | refine Gr.alloc ?_ _ | refine Gr.trans ?_ (by assumption) | refine Gr.drew ?_ | refine Gr.drewN ?_ _ | refine Gr.grow ?_ _ | refine Gr.setCell ?_ (by (try simp); (try omega)) _)⟩
  · have hlen := (h1.1 rfl).1
    have wn : IntKind.i64.wrap ((xs.length : Int) - 1) = (xs.length : Int) - 1 := IntWalk.i64_in _ (by omega)
    have HN1 := Lib.hid hlen
    cases r2
    · obtain ⟨A2, c2, rfl, _⟩ := g2.eta
      clear h g2 hp h1 h2
      go_enter Try.func38, Try.ntmps38
      go_wp2_with (first | (go_at_call 58; refine (HV.out).mono ?_; rintro e w1 ⟨rfl, hbW⟩; have hcW := (bcell hbW.below).1; have hfW := (bcell hbW.below).2; (try have hzW : w.heap.size < w1.heap.size := by have hq := hbW.below.size; (try simp at hq); omega); (try have hyW : w.heap.size + 1 < w1.heap.size := by have hq := hbW.below.size; (try simp at hq); omega); (try have hxW : w.heap.size + 2 < w1.heap.size := by have hq := hbW.below.size; (try simp at hq); omega)) | (go_at_call 59; refine (HH.out _ (by assumption)).mono ?_; rintro e w2 ⟨rfl, hbX⟩))
      go_ret2
      exact ⟨rfl, by repeat (first | exact Gr.refl _ | refine Gr.alloc ?_ _ | refine Gr.trans ?_ (by assumption) | refine Gr.drew ?_ | refine Gr.drewN ?_ _ | refine Gr.grow ?_ _ | refine Gr.setCell ?_ (by (try simp); (try omega)) _)⟩
    · have HR := Lib.hid (h2.1 rfl)
      rw [Bool.true_and, Bool.true_and]
      have HP := Lib.hid hp
      rcases g2.view with ⟨rfl, A2, c2, rfl⟩ | ⟨hpos, gb, c2, rfl, _, gl, _, hc, _⟩
      · have HF := Lib.hid (show p = true from hp.2 (fun j hj => by simp at hj))
        clear h g2 hp h1 h2
        go_enter Try.func38, Try.ntmps38
        go_wp2_with (first | (go_at_call 58; refine (HV.out).mono ?_; rintro e w1 ⟨rfl, hbW⟩; have hcW := (bcell hbW.below).1; have hfW := (bcell hbW.below).2; (try have hzW : w.heap.size < w1.heap.size := by have hq := hbW.below.size; (try simp at hq); omega); (try have hyW : w.heap.size + 1 < w1.heap.size := by have hq := hbW.below.size; (try simp at hq); omega); (try have hxW : w.heap.size + 2 < w1.heap.size := by have hq := hbW.below.size; (try simp at hq); omega)) | (go_at_call 59; refine (HH.out _ (by assumption)).mono ?_; rintro e w2 ⟨rfl, hbX⟩))
        refine wp_loop_rounds 1 ?_
        rw [rounds_succ]
        go_wp2
        go_ret2
        exact ⟨by rw [HF.out]; rfl, by repeat (first | exact Gr.refl _ | refine Gr.alloc ?_ _ | refine Gr.trans ?_ (by assumption) | refine Gr.drew ?_ | refine Gr.drewN ?_ _ | refine Gr.grow ?_ _ | refine Gr.setCell ?_ (by (try simp); (try omega)) _)⟩
      · have HC := Lib.hid hc
        have hcap := g2.capR
        clear h g2 hp h1 h2 hc
        go_enter Try.func38, Try.ntmps38
        go_wp2_with (first | (go_at_call 58; refine (HV.out).mono ?_; rintro e w1 ⟨rfl, hbW⟩; have hcW := (bcell hbW.below).1; have hfW := (bcell hbW.below).2; (try have hzW : w.heap.size < w1.heap.size := by have hq := hbW.below.size; (try simp at hq); omega); (try have hyW : w.heap.size + 1 < w1.heap.size := by have hq := hbW.below.size; (try simp at hq); omega); (try have hxW : w.heap.size + 2 < w1.heap.size := by have hq := hbW.below.size; (try simp at hq); omega)) | (go_at_call 59; refine (HH.out _ (by assumption)).mono ?_; rintro e w2 ⟨rfl, hbX⟩))
        go_loopw [24] (fun i wr => LtRelO ts xs.length ring w i wr) (fun i _ => (ts.length - intOf i).toNat)
        case atStart => exact ⟨by repeat (first | exact Gr.refl _ | refine Gr.alloc ?_ _ | refine Gr.trans ?_ (by assumption) | refine Gr.drew ?_ | refine Gr.drewN ?_ _ | refine Gr.grow ?_ _ | refine Gr.setCell ?_ (by (try simp); (try omega)) _), 0, Nat.zero_le _, rfl, fun j hj => by omega⟩
        case round =>
          obtain ⟨gr, k, hk, rfl, hall⟩ := hrel
          have HG := Lib.hid gr
          have HA := Lib.hid hall
          by_cases hlt : k < ts.length
          · have e1 := gr.keep2 (HC.out k hlt)
            have bk := (HR.out k hlt).1
            obtain ⟨yk, hyk⟩ : ∃ y, ts.getD k 0 = y := ⟨_, rfl⟩
            rw [hyk] at e1 bk
            have HYK := Lib.hid hyk
            have z0 : (0 : Int) ≤ (k : Int) := by omega
            have z1 : (k : Int) < (ts.length : Int) := by omega
            have z2 : (k : Int) ≤ (c2 : Int) := by omega
            clear gr hall hyk
            rename World => W1
            go_wp2
            go_loopw [33] (fun i wr => LtRelI ts xs.length ring k W1 i wr) (fun i _ => (k - intOf i).toNat)
            case atStart => exact ⟨Gr.refl _, 0, Nat.zero_le _, rfl, fun j hj => by omega⟩
            case round =>
              obtain ⟨gr, m, hm, rfl, hall⟩ := hrel
              have HG2 := Lib.hid gr
              have HA2 := Lib.hid hall
              by_cases hmk : m < k
              · have e2 := (HG.out.trans gr).keep2 (HC.out m (by omega))
                have bm := (HR.out m (by omega)).1
                have y0 : (0 : Int) ≤ (m : Int) := by omega
                have y1 : (m : Int) < (ts.length : Int) := by omega
                have y2 : (m : Int) < (k : Int) := by omega
                obtain ⟨ym, hym⟩ : ∃ y, ts.getD m 0 = y := ⟨_, rfl⟩
                rw [hym] at e2 bm
                have HYM := Lib.hid hym
                obtain ⟨r, hr⟩ : ∃ r, neiB (xs.length : Int) ym yk ring = r := ⟨_, rfl⟩
                have HN := Lib.hid (fun W => Try.areNeighbours (xs.length : Int) ym yk ring W (by have := HN1.out; omega) (by have := HN1.out; omega) (by have := HN1.out; omega) r hr)
                have HRR := Lib.hid hr
                clear gr hall hr hym
                cases r
                · have HS := Lib.hid (show ∀ i, i < m + 1 → neiB xs.length (ts.getD i 0) (ts.getD k 0) ring = false from fun i hi => by
                    rcases Nat.lt_or_eq_of_le (Nat.le_of_lt_succ hi) with c | c
                    · exact HA2.out i c
                    · subst c; rw [HYM.out, HYK.out]; exact HRR.out)
                  go_wp2_with (first | (go_at_call 50; refine (HN.out _).mono ?_; rintro e w1 ⟨rfl, rfl⟩))
                  go_roundw
                  case rel => exact ⟨HG2.out.trans (by repeat (first | exact Gr.refl _ | refine Gr.alloc ?_ _ | refine Gr.trans ?_ (by assumption) | refine Gr.drew ?_ | refine Gr.drewN ?_ _ | refine Gr.grow ?_ _ | refine Gr.setCell ?_ (by (try simp); (try omega)) _)), m + 1, by omega, by go_num, HS.out⟩
                  case measure => simp [intOf]; omega
                · have HF := Lib.hid (not_trueR HP.out (fun q => by have := q k hlt m hmk; rw [HYM.out, HYK.out, HRR.out] at this; cases this))
                  go_wp2_with (first | (go_at_call 50; refine (HN.out _).mono ?_; rintro e w1 ⟨rfl, rfl⟩))
                  go_ret2
                  exact ⟨by rw [HF.out]; rfl, HG.out.trans (HG2.out.trans (by repeat (first | exact Gr.refl _ | refine Gr.alloc ?_ _ | refine Gr.trans ?_ (by assumption) | refine Gr.drew ?_ | refine Gr.drewN ?_ _ | refine Gr.grow ?_ _ | refine Gr.setCell ?_ (by (try simp); (try omega)) _)))⟩
              · obtain rfl : m = k := by omega
                have HS := Lib.hid (show ∀ j, j < m + 1 → ∀ i, i < j → neiB xs.length (ts.getD i 0) (ts.getD j 0) ring = false from fun j hj => by
                  rcases Nat.lt_or_eq_of_le (Nat.le_of_lt_succ hj) with c | c
                  · exact HA.out j c
                  · subst c; exact HA2.out)
                clear gr hall
                go_wp2
                go_roundw
                case rel => exact ⟨HG.out.trans (HG2.out.trans (by repeat (first | exact Gr.refl _ | refine Gr.alloc ?_ _ | refine Gr.trans ?_ (by assumption) | refine Gr.drew ?_ | refine Gr.drewN ?_ _ | refine Gr.grow ?_ _ | refine Gr.setCell ?_ (by (try simp); (try omega)) _))), m + 1, by omega, by go_num, HS.out⟩
                case measure => simp [intOf]; omega
          · obtain rfl : k = ts.length := by omega
            have HF := Lib.hid (show p = true from HP.out.2 HA.out)
            clear gr hall
            go_wp2
            go_ret2
            exact ⟨by rw [HF.out]; rfl, HG.out⟩
end Go.Proofs
