/-
  Contracts of chapter 3: numbers of houses (the program's test).
-/
import Derived.Test.YtcmlojidcpomjacPoA
namespace Go.Proofs
open Go.RowKit
set_option linter.unusedVariables false
set_option linter.unusedSimpArgs false
def lastI (xs : List Int) (j : Nat) : Int := if j = 0 then 0 else xs.getD (j - 1) 0
theorem lastI_succ (xs : List Int) (j : Nat) : lastI xs (j + 1) = xs.getD j 0 := by simp [lastI]
theorem step_iff (xs : List Int) (hi : Int) (j : Nat) (h : ∀ i, i < j → stepR xs 1 hi i) : stepR xs 1 hi j ↔ lastI xs j < xs.getD j 0 ∧ 1 ≤ xs.getD j 0 ∧ xs.getD j 0 ≤ hi := by
  unfold stepR lastI
  rcases Nat.eq_zero_or_pos j with e | e
  · subst e; simp; omega
  · rw [if_neg (by omega)]
    constructor
    · rintro ⟨⟨a, b⟩, c⟩; exact ⟨c e, a, b⟩
    · rintro ⟨c, a, b⟩; exact ⟨⟨a, b⟩, fun _ => c⟩
def ARelH (xs : List Int) (hi : Int) (W : World) (l i : Value) (wr : World) : Prop := Gr W wr ∧ ∃ k : Nat, k ≤ xs.length ∧ i = .int .i64 k ∧ l = .int .i64 (lastI xs k) ∧ ∀ j, j < k → stepR xs 1 hi j
set_option maxRecDepth 100000 in
set_option maxHeartbeats 1600000 in
theorem Try.areHouses (w : World) (B : Nat) (v : Value) (xs : List Int) (k p : Int) (b : Bool) (hg : gd k p = true) (hb : b = true ↔ RisI xs 1 (hs k p)) (hl : xs.length ≤ 1048576) (h : OwnI w B v xs) :
    Calls Try.prog 49 #[.agg #[.int .i64 k, .int .i64 p], v] w fun e w' => e = .returned (.bool b) ∧ Gr w w' := by
  have mixed : Try.prog.follows .mixedOrders = true := by kernel_rfl
  have GD := Lib.hid (show Gd k p from of_decide_eq_true hg)
  rcases h.view with ⟨rfl, A, c, rfl⟩ | ⟨hpos, g, c, rfl, _, _, _, hc, _⟩
  · obtain rfl : b = true := hb.2 (fun j hj => by simp at hj)
    clear h hb hg
    go_enter Try.func49, Try.ntmps49
    go_wp2
    refine wp_loop_rounds 1 ?_
    rw [rounds_succ]
    go_wp2
    go_ret
    exact ⟨rfl, by repeat (first | exact Gr.refl _ | refine Gr.alloc ?_ _ | refine Gr.trans ?_ (by assumption) | refine Gr.drew ?_ | refine Gr.drewN ?_ _ | refine Gr.grow ?_ _ | refine Gr.setCell ?_ (by (try simp); (try omega)) _)⟩
  · have HC := Lib.hid hc
    have HB := Lib.hid hb
    have HBX := Lib.hid (fun (W : World) (g : Gr (w.alloc (.cells #[.int .i64 k, .int .i64 p] 35)) W) => boxG (w := w) g)
    clear h hc hb hg
    go_enter Try.func49, Try.ntmps49
    go_wp2
    generalize hW : w.alloc (.cells #[.int .i64 k, .int .i64 p] 35) = W at *
    have gW : Gr w W := by rw [← hW]; exact Gr.alloc (Gr.refl _) _
    have HGW := Lib.hid gW
    clear hW gW
    go_loopw [5, 7, 10] (fun l _ i wr => ARelH xs (hs k p) W l i wr) (fun _ _ i _ => (xs.length - intOf i).toNat)
    case atStart => exact ⟨Gr.refl _, 0, Nat.zero_le _, rfl, rfl, fun j hj => absurd hj (Nat.not_lt_zero _)⟩
    case round =>
      obtain ⟨gr, m, hk, rfl, rfl, hall⟩ := hrel
      by_cases hlt : m < xs.length
      · have e1 := (HGW.out.trans gr).keep2 (HC.out m hlt)
        obtain ⟨y, hy⟩ : ∃ y, xs.getD m 0 = y := ⟨_, rfl⟩
        obtain ⟨q, hq⟩ : ∃ q, lastI xs m = q := ⟨_, rfl⟩
        have hst := step_iff xs (hs k p) m hall
        rw [hy, hq] at hst
        rw [hy] at e1
        rw [hq]
        obtain ⟨b0, b1⟩ := HBX.out wr gr
        have c0 := b0 0 #[]
        have c1 := b1 0 #[]
        rw [show Go.Sort.grow (wr.drewN 0) #[] = wr by rw [Go.Sort.grow_empty]; rfl] at c0 c1
        have z0 : (0 : Int) ≤ (m : Int) := by omega
        have z1 : (m : Int) < (xs.length : Int) := by omega
        have HA := Lib.hid hall
        have HG := Lib.hid gr
        have HY := Lib.hid hy
        have HST := Lib.hid hst
        have HL := Lib.hid (show lastI xs (m + 1) = y by rw [lastI_succ, hy])
        clear hall gr hy hst hq b0 b1
        by_cases hyq : y ≤ q
        · have HF := Lib.hid (ris_false HB.out hlt (fun s => by have := (HST.out.1 s).1; omega))
          have d1 : decide (y ≤ q) = true := by simpa using hyq
          clear hyq
          go_wp2
          go_ret
          exact ⟨by rw [HF.out]; rfl, HGW.out.trans (HG.out.trans (by repeat (first | exact Gr.refl _ | refine Gr.alloc ?_ _ | refine Gr.trans ?_ (by assumption) | refine Gr.drew ?_ | refine Gr.drewN ?_ _ | refine Gr.grow ?_ _ | refine Gr.setCell ?_ (by (try simp); (try omega)) _)))⟩
        · have d1 : decide (y ≤ q) = false := by simpa using hyq
          cases ha : decide (Asked k p y)
          · have HH := Lib.hid ha
            have HF := Lib.hid (ris_false HB.out hlt (fun s => by have := HST.out.1 s; exact absurd (⟨GD.out, this.2.1, this.2.2⟩ : Asked k p y) (of_decide_eq_false ha)))
            clear hyq ha
            go_wp2_with (first | (go_at_call 73; refine (Try.hasHouse _ _ _ _ HH.out _).mono ?_; rintro e w4 ⟨rfl, g4⟩))
            go_ret
            exact ⟨by rw [HF.out]; rfl, HGW.out.trans (HG.out.trans (by repeat (first | exact Gr.refl _ | refine Gr.alloc ?_ _ | refine Gr.trans ?_ (by assumption) | refine Gr.drew ?_ | refine Gr.drewN ?_ _ | refine Gr.grow ?_ _ | refine Gr.setCell ?_ (by (try simp); (try omega)) _)))⟩
          · have HH := Lib.hid ha
            have hA : Asked k p y := of_decide_eq_true ha
            have HN := Lib.hid (ris_snoc HA.out (HST.out.2 ⟨by omega, hA.2.1, hA.2.2⟩))
            clear hyq ha hA
            go_wp2_with (first | (go_at_call 73; refine (Try.hasHouse _ _ _ _ HH.out _).mono ?_; rintro e w4 ⟨rfl, g4⟩))
            go_roundw
            case rel => exact ⟨HG.out.trans (by repeat (first | exact Gr.refl _ | refine Gr.alloc ?_ _ | refine Gr.trans ?_ (by assumption) | refine Gr.drew ?_ | refine Gr.drewN ?_ _ | refine Gr.grow ?_ _ | refine Gr.setCell ?_ (by (try simp); (try omega)) _)), m + 1, by omega, by go_num, by rw [HL.out], HN.out⟩
            case measure => simp [intOf]; omega
      · obtain rfl : m = xs.length := by omega
        have HF := Lib.hid (show b = true from HB.out.2 hall)
        have HG := Lib.hid gr
        clear gr hall
        go_wp2
        go_ret
        exact ⟨by rw [HF.out]; rfl, HGW.out.trans HG.out⟩
end Go.Proofs
