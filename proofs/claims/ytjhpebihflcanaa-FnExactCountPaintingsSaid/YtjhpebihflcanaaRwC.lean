/-
  Chapter 7: what costs are, both sides (spec.rwGood, AreCosts; impl.AreCosts).
-/
import Derived.Test.YtjhpebihflcanaaRwA
import Derived.Test.YtjhpebihflcanaaRlA
namespace Go.Proofs
open Go.RowKit
set_option linter.unusedVariables false
set_option linter.unusedSimpArgs false
def costR (zss : List (List Int)) (k : Nat) : Prop := (rowOf zss k).length = (rowOf zss 0).length ∧ AllIn (rowOf zss k) 0 1000
def CostsP (zss : List (List Int)) : Prop := (1 ≤ zss.length ∧ zss.length ≤ 20) ∧ (1 ≤ (rowOf zss 0).length ∧ (rowOf zss 0).length ≤ 5) ∧ ∀ k, k < zss.length → costR zss k
def GRelC (zss : List (List Int)) (w : World) (i : Value) (wr : World) : Prop := Gr w wr ∧ ∃ k : Nat, k ≤ zss.length ∧ i = .int .i64 k ∧ ∀ j, j < k → costR zss j
theorem costR_snoc {zss : List (List Int)} {k : Nat} (h : ∀ j, j < k → costR zss j) (s : costR zss k) : ∀ j, j < k + 1 → costR zss j := fun j hj => by
  rcases Nat.lt_or_eq_of_le (Nat.le_of_lt_succ hj) with c | c
  · exact h j c
  · rw [c]; exact s
set_option maxRecDepth 100000 in
set_option maxHeartbeats 1600000 in
theorem Try.rwGood (w : World) (B : Nat) (v : Value) (zss : List (List Int)) (b : Bool) (hb : b = true ↔ CostsP zss) (hl : SmallZ zss) (h : OwnZ w B v zss) :
    Calls Try.prog 33 #[v] w fun e w' => e = .returned (.bool b) ∧ Gr w w' := by
  have HB := Lib.hid hb
  have HL := Lib.hid hl
  cases h1 : inn (zss.length : Int) 1 20
  · have HF := Lib.hid (not_trueR hb (fun q => by have := q.1; have := of_decide_eq_false h1; omega))
    have H1 := Lib.hid h1
    obtain ⟨A, c, rfl, _⟩ := OwnLL.slice h
    clear h hb hl h1
    go_enter Try.func33, Try.ntmps33
    go_wp2_with (first | (go_at_call 36; refine (Try.rwHouses _ _ H1.out _).mono ?_; rintro e w1 ⟨rfl, rfl⟩))
    go_ret
    exact ⟨by rw [HF.out]; rfl, by repeat (first | exact Gr.refl _ | refine Gr.alloc ?_ _ | refine Gr.trans ?_ (by assumption) | refine Gr.drew ?_ | refine Gr.drewN ?_ _ | refine Gr.grow ?_ _ | refine Gr.setCell ?_ (by (try simp); (try omega)) _)⟩
  · have hl1 := inn_e h1
    have H1 := Lib.hid h1
    obtain ⟨g, c, rfl, hrows⟩ := OwnLL.form h (by omega)
    obtain ⟨u0, hu0, ou0⟩ := hrows 0 (by omega)
    obtain ⟨A0, c0, rfl, _⟩ := ou0.eta
    have HR := Lib.hid hrows
    obtain ⟨m, hm⟩ : ∃ m, (rowOf zss 0).length = m := ⟨_, rfl⟩
    have HM := Lib.hid hm
    rw [hm] at hu0
    cases h2 : inn (m : Int) 1 5
    · have HF := Lib.hid (not_trueR hb (fun q => by have := q.2.1; have := of_decide_eq_false h2; omega))
      have H2 := Lib.hid h2
      clear h hb hl h1 hrows ou0 hm h2
      go_enter Try.func33, Try.ntmps33
      go_wp2_with (first | (go_at_call 36; refine (Try.rwHouses _ _ H1.out _).mono ?_; rintro e w1 ⟨rfl, rfl⟩) | (go_at_call 37; refine (Try.l1In _ _ _ _ H2.out _).mono ?_; rintro e w1 ⟨rfl, rfl⟩))
      go_ret
      exact ⟨by rw [HF.out]; rfl, by repeat (first | exact Gr.refl _ | refine Gr.alloc ?_ _ | refine Gr.trans ?_ (by assumption) | refine Gr.drew ?_ | refine Gr.drewN ?_ _ | refine Gr.grow ?_ _ | refine Gr.setCell ?_ (by (try simp); (try omega)) _)⟩
    · have hm2 := inn_e h2
      have H2 := Lib.hid h2
      have HU0 := Lib.hid hu0
      clear h hb hl h1 hrows ou0 hm h2
      go_enter Try.func33, Try.ntmps33
      go_wp2_with (first | (go_at_call 36; refine (Try.rwHouses _ _ H1.out _).mono ?_; rintro e w1 ⟨rfl, rfl⟩) | (go_at_call 37; refine (Try.l1In _ _ _ _ H2.out _).mono ?_; rintro e w1 ⟨rfl, rfl⟩))
      go_loopw [19] (fun i wr => GRelC zss w i wr) (fun i _ => (zss.length - intOf i).toNat)
      case atStart => exact ⟨by repeat (first | exact Gr.refl _ | refine Gr.alloc ?_ _ | refine Gr.trans ?_ (by assumption) | refine Gr.drew ?_ | refine Gr.drewN ?_ _ | refine Gr.grow ?_ _ | refine Gr.setCell ?_ (by (try simp); (try omega)) _), 0, Nat.zero_le _, rfl, fun j hj => absurd hj (Nat.not_lt_zero _)⟩
      case round =>
        obtain ⟨gr, k, hk, rfl, hall⟩ := hrel
        have HG := Lib.hid gr
        have HA := Lib.hid hall
        by_cases hlt : k < zss.length
        · obtain ⟨u, hu, ou⟩ := HR.out k hlt
          obtain ⟨A, cc, rfl, ou⟩ := ou.eta
          obtain ⟨n, hn⟩ : ∃ n, (rowOf zss k).length = n := ⟨_, rfl⟩
          have HN := Lib.hid hn
          rw [hn] at hu
          have e0 := gr.keep2 HU0.out
          have e1 := gr.keep2 hu
          have z0 : (0 : Int) ≤ (k : Int) := by omega
          have z1 : (k : Int) < (zss.length : Int) := by omega
          by_cases hnm : n = m
          · have e2 : ((n : Int) == (m : Int)) = true := by simp; omega
            obtain ⟨r, hr⟩ := exbR (AllIn (rowOf zss k) 0 1000)
            have HAL := Lib.hid (Try.l1All wr B _ (rowOf zss k) 0 1000 r hr (HL.out.2 k) (ou.gr gr))
            rw [hn] at HAL
            have HRR := Lib.hid hr
            cases r
            · have HF := Lib.hid (not_trueR HB.out (fun q => by have := HRR.out.2 (q.2.2 k hlt).2; cases this))
              clear gr hall hu ou hn hr
              subst hnm
              go_wp2_with (first | (go_at_call 45; refine (HAL.out).mono ?_; rintro e w1 ⟨rfl, hbW⟩; have hcW := (bcell hbW.below).1; have hfW := (bcell hbW.below).2; (try have hzW : w.heap.size < w1.heap.size := by have hq := hbW.below.size; (try simp at hq); omega); (try have hyW : w.heap.size + 1 < w1.heap.size := by have hq := hbW.below.size; (try simp at hq); omega); (try have hxW : w.heap.size + 2 < w1.heap.size := by have hq := hbW.below.size; (try simp at hq); omega)))
              go_ret
              exact ⟨by rw [HF.out]; rfl, HG.out.trans (by repeat (first | exact Gr.refl _ | refine Gr.alloc ?_ _ | refine Gr.trans ?_ (by assumption) | refine Gr.drew ?_ | refine Gr.drewN ?_ _ | refine Gr.grow ?_ _ | refine Gr.setCell ?_ (by (try simp); (try omega)) _))⟩
            · have HS := Lib.hid (costR_snoc HA.out (show costR zss k from ⟨by rw [HN.out, HM.out]; exact hnm, HRR.out.1 rfl⟩))
              clear gr hall hu ou hn hr
              subst hnm
              go_wp2_with (first | (go_at_call 45; refine (HAL.out).mono ?_; rintro e w1 ⟨rfl, hbW⟩; have hcW := (bcell hbW.below).1; have hfW := (bcell hbW.below).2; (try have hzW : w.heap.size < w1.heap.size := by have hq := hbW.below.size; (try simp at hq); omega); (try have hyW : w.heap.size + 1 < w1.heap.size := by have hq := hbW.below.size; (try simp at hq); omega); (try have hxW : w.heap.size + 2 < w1.heap.size := by have hq := hbW.below.size; (try simp at hq); omega)))
              go_roundw
              case rel => exact ⟨HG.out.trans (by repeat (first | exact Gr.refl _ | refine Gr.alloc ?_ _ | refine Gr.trans ?_ (by assumption) | refine Gr.drew ?_ | refine Gr.drewN ?_ _ | refine Gr.grow ?_ _ | refine Gr.setCell ?_ (by (try simp); (try omega)) _)), k + 1, by omega, by go_num, HS.out⟩
              case measure => simp [intOf]; omega
          · have e2 : ((n : Int) == (m : Int)) = false := by simp; omega
            have e3 : ((n : Int) != (m : Int)) = true := by simp; omega
            have HF := Lib.hid (not_trueR HB.out (fun q => by have := (q.2.2 k hlt).1; rw [HN.out, HM.out] at this; exact hnm this))
            clear gr hall hu ou hn
            go_wp2_with fail
            go_ret
            exact ⟨by rw [HF.out]; rfl, HG.out.trans (by repeat (first | exact Gr.refl _ | refine Gr.alloc ?_ _ | refine Gr.trans ?_ (by assumption) | refine Gr.drew ?_ | refine Gr.drewN ?_ _ | refine Gr.grow ?_ _ | refine Gr.setCell ?_ (by (try simp); (try omega)) _))⟩
        · obtain rfl : k = zss.length := by omega
          have HF := Lib.hid (show b = true from HB.out.2 ⟨by omega, by rw [HM.out]; omega, HA.out⟩)
          clear gr hall
          go_wp2
          go_ret
          exact ⟨by rw [HF.out]; rfl, HG.out⟩
set_option maxRecDepth 100000 in
set_option maxHeartbeats 1600000 in
theorem Try.iAreCosts (w : World) (B : Nat) (v : Value) (zss : List (List Int)) (b : Bool) (hb : b = true ↔ CostsP zss) (hl : SmallZ zss) (h : OwnZ w B v zss) :
    Calls Try.prog 47 #[v] w fun e w' => e = .returned (.bool b) ∧ Gr w w' := by
  have HB := Lib.hid hb
  have HL := Lib.hid hl
  cases h1 : inn (zss.length : Int) 1 20
  · have HF := Lib.hid (not_trueR hb (fun q => by have := q.1; have := of_decide_eq_false h1; omega))
    have H1 := Lib.hid h1
    obtain ⟨A, c, rfl, _⟩ := OwnLL.slice h
    clear h hb hl h1
    go_enter Try.func47, Try.ntmps47
    go_wp2_with (first | (go_at_call 39; refine (Try.within _ _ _ _ H1.out _).mono ?_; rintro e w1 ⟨rfl, rfl⟩))
    go_ret
    exact ⟨by rw [HF.out]; rfl, by repeat (first | exact Gr.refl _ | refine Gr.alloc ?_ _ | refine Gr.trans ?_ (by assumption) | refine Gr.drew ?_ | refine Gr.drewN ?_ _ | refine Gr.grow ?_ _ | refine Gr.setCell ?_ (by (try simp); (try omega)) _)⟩
  · have hl1 := inn_e h1
    have H1 := Lib.hid h1
    obtain ⟨g, c, rfl, hrows⟩ := OwnLL.form h (by omega)
    obtain ⟨u0, hu0, ou0⟩ := hrows 0 (by omega)
    obtain ⟨A0, c0, rfl, _⟩ := ou0.eta
    have HR := Lib.hid hrows
    obtain ⟨m, hm⟩ : ∃ m, (rowOf zss 0).length = m := ⟨_, rfl⟩
    have HM := Lib.hid hm
    rw [hm] at hu0
    have HU0 := Lib.hid hu0
    clear h hb hl h1 hrows ou0 hm
    go_enter Try.func47, Try.ntmps47
    go_wp2_with (first | (go_at_call 39; refine (Try.within _ _ _ _ H1.out _).mono ?_; rintro e w1 ⟨rfl, rfl⟩))
    go_loopw [11] (fun i wr => GRelC zss w i wr ∧ (i ≠ .int .i64 0 → 1 ≤ m ∧ m ≤ 5)) (fun i _ => (zss.length - intOf i).toNat)
    case atStart => exact ⟨⟨by repeat (first | exact Gr.refl _ | refine Gr.alloc ?_ _ | refine Gr.trans ?_ (by assumption) | refine Gr.drew ?_ | refine Gr.drewN ?_ _ | refine Gr.grow ?_ _ | refine Gr.setCell ?_ (by (try simp); (try omega)) _), 0, Nat.zero_le _, rfl, fun j hj => absurd hj (Nat.not_lt_zero _)⟩, fun q => absurd rfl q⟩
    case round =>
      obtain ⟨⟨gr, k, hk, rfl, hall⟩, hm5⟩ := hrel
      have HG := Lib.hid gr
      have HA := Lib.hid hall
      have HM5 := Lib.hid hm5
      by_cases hlt : k < zss.length
      · obtain ⟨u, hu, ou⟩ := HR.out k hlt
        obtain ⟨A, cc, rfl, ou⟩ := ou.eta
        obtain ⟨n, hn⟩ : ∃ n, (rowOf zss k).length = n := ⟨_, rfl⟩
        have HN := Lib.hid hn
        rw [hn] at hu
        have e0 := gr.keep2 HU0.out
        have e1 := gr.keep2 hu
        have z0 : (0 : Int) ≤ (k : Int) := by omega
        have z1 : (k : Int) < (zss.length : Int) := by omega
        by_cases hnm : n = m
        · have e2 : ((n : Int) == (m : Int)) = true := by simp; omega
          obtain ⟨r, hr⟩ := exbR (UpP (rowOf zss k) 5 1000)
          have HAL := Lib.hid (Try.areUpTo wr B _ (rowOf zss k) 5 1000 r hr (HL.out.2 k) (ou.gr gr))
          rw [hn] at HAL
          have HRR := Lib.hid hr
          cases r
          · have HF := Lib.hid (not_trueR HB.out (fun q => by
              have h3 := q.2.1
              rw [HM.out, ← hnm] at h3
              have := HRR.out.2 ⟨by rw [HN.out]; omega, (q.2.2 k hlt).2⟩; cases this))
            clear gr hall hu ou hn hr hm5
            subst hnm
            go_wp2_with (first | (go_at_call 55; refine (HAL.out).mono ?_; rintro e w1 ⟨rfl, hbW⟩; have hcW := (bcell hbW.below).1; have hfW := (bcell hbW.below).2; (try have hzW : w.heap.size < w1.heap.size := by have hq := hbW.below.size; (try simp at hq); omega); (try have hyW : w.heap.size + 1 < w1.heap.size := by have hq := hbW.below.size; (try simp at hq); omega); (try have hxW : w.heap.size + 2 < w1.heap.size := by have hq := hbW.below.size; (try simp at hq); omega)))
            go_ret
            exact ⟨by rw [HF.out]; rfl, HG.out.trans (by repeat (first | exact Gr.refl _ | refine Gr.alloc ?_ _ | refine Gr.trans ?_ (by assumption) | refine Gr.drew ?_ | refine Gr.drewN ?_ _ | refine Gr.grow ?_ _ | refine Gr.setCell ?_ (by (try simp); (try omega)) _))⟩
          · have HS := Lib.hid (costR_snoc HA.out (show costR zss k from ⟨by rw [HN.out, HM.out]; exact hnm, (HRR.out.1 rfl).2⟩))
            have HM6 := Lib.hid (show 1 ≤ m ∧ m ≤ 5 from by have := (HRR.out.1 rfl).1; rw [HN.out] at this; omega)
            clear gr hall hu ou hn hr hm5
            subst hnm
            go_wp2_with (first | (go_at_call 55; refine (HAL.out).mono ?_; rintro e w1 ⟨rfl, hbW⟩; have hcW := (bcell hbW.below).1; have hfW := (bcell hbW.below).2; (try have hzW : w.heap.size < w1.heap.size := by have hq := hbW.below.size; (try simp at hq); omega); (try have hyW : w.heap.size + 1 < w1.heap.size := by have hq := hbW.below.size; (try simp at hq); omega); (try have hxW : w.heap.size + 2 < w1.heap.size := by have hq := hbW.below.size; (try simp at hq); omega)))
            go_roundw
            case rel => exact ⟨⟨HG.out.trans (by repeat (first | exact Gr.refl _ | refine Gr.alloc ?_ _ | refine Gr.trans ?_ (by assumption) | refine Gr.drew ?_ | refine Gr.drewN ?_ _ | refine Gr.grow ?_ _ | refine Gr.setCell ?_ (by (try simp); (try omega)) _)), k + 1, by omega, by go_num, HS.out⟩, fun _ => HM6.out⟩
            case measure => simp [intOf]; omega
        · have e2 : ((n : Int) == (m : Int)) = false := by simp; omega
          have e3 : ((n : Int) != (m : Int)) = true := by simp; omega
          have HF := Lib.hid (not_trueR HB.out (fun q => by have := (q.2.2 k hlt).1; rw [HN.out, HM.out] at this; exact hnm this))
          clear gr hall hu ou hn hm5
          go_wp2_with fail
          go_ret
          exact ⟨by rw [HF.out]; rfl, HG.out.trans (by repeat (first | exact Gr.refl _ | refine Gr.alloc ?_ _ | refine Gr.trans ?_ (by assumption) | refine Gr.drew ?_ | refine Gr.drewN ?_ _ | refine Gr.grow ?_ _ | refine Gr.setCell ?_ (by (try simp); (try omega)) _))⟩
      · obtain rfl : k = zss.length := by omega
        have HF := Lib.hid (show b = true from HB.out.2 ⟨by omega, by rw [HM.out]; exact HM5.out (fun q => by injection q with _ q2; omega), HA.out⟩)
        clear gr hall hm5
        go_wp2
        go_ret
        exact ⟨by rw [HF.out]; rfl, HG.out⟩
end Go.Proofs
