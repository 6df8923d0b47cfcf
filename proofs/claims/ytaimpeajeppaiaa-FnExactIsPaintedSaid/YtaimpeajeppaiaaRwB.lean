/-
  Chapter 7: houses that are painted well, both sides (IsPainted).
-/
import Derived.Test.YtaimpeajeppaiaaRwA
import Derived.Test.YtaimpeajeppaiaaRwN
namespace Go.Proofs
open Go.RowKit
set_option linter.unusedVariables false
set_option linter.unusedSimpArgs false
def PntP (xs : List Int) (ring : Bool) : Prop := (∀ i, i + 1 < xs.length → xs.getD i 0 ≠ xs.getD (i + 1) 0) ∧ (rgB xs.length ring = true → xs.getD 0 0 ≠ xs.getD (xs.length - 1) 0)
def BadP (xs : List Int) (ring : Bool) (i j : Nat) : Prop := xs.getD i 0 = xs.getD j 0 ∧ neiB xs.length i j ring = true
theorem rgB_iff {n : Int} {ring : Bool} : rgB n ring = true ↔ ring = true ∧ 3 ≤ n := by unfold rgB; simp
theorem pnt_iff (xs : List Int) (ring : Bool) : PntP xs ring ↔ ∀ j, j < xs.length → ∀ i, i < j → ¬ BadP xs ring i j := by
  constructor
  · rintro ⟨h1, h2⟩ j hj i hi ⟨e, n⟩
    rcases (neiB_iff _ _ _ _).1 n with c | ⟨c, c2⟩
    · obtain rfl : j = i + 1 := by unfold avR at c; split at c <;> omega
      exact h1 i hj e
    · have hc := rgB_iff.2 c
      have c3 : i = 0 ∧ j = xs.length - 1 := by unfold avR at c2; split at c2 <;> omega
      rw [c3.1, c3.2] at e
      exact h2 hc e
  · intro h
    refine ⟨fun i hi e => h (i + 1) hi i (by omega) ⟨e, (neiB_iff _ _ _ _).2 (.inl (by unfold avR; split <;> omega))⟩, fun hr e => ?_⟩
    have hr' := rgB_iff.1 hr
    exact h (xs.length - 1) (by omega) 0 (by omega) ⟨e, (neiB_iff _ _ _ _).2 (.inr ⟨hr', by unfold avR; split <;> omega⟩)⟩
def PRelS (xs : List Int) (w : World) (i : Value) (wr : World) : Prop := Gr w wr ∧ ∃ k : Nat, 1 ≤ k ∧ k ≤ xs.length ∧ i = .int .i64 k ∧ ∀ j, j + 1 < k → xs.getD j 0 ≠ xs.getD (j + 1) 0
set_option maxRecDepth 100000 in
set_option maxHeartbeats 1600000 in
theorem Try.sIsPainted (w : World) (B : Nat) (v : Value) (xs : List Int) (ring : Bool) (b p : Bool) (hb : b = true ↔ UpP xs 20 4) (hp : p = true ↔ PntP xs ring) (hl : xs.length ≤ 1048576) (h : OwnI w B v xs) :
    Calls Try.prog 28 #[v, .bool ring] w fun e w' => e = .returned (.tuple #[.bool (b && p), .bool b]) ∧ Gr w w' := by
  have mixed : Try.prog.follows .mixedOrders = true := by kernel_rfl
  have h0 := h
  rcases upP_model hb with ⟨h1, rfl⟩ | ⟨h1, h2⟩
  · obtain ⟨A, c, rfl, h⟩ := h.eta
    have H1 := Lib.hid h1
    clear h hb h1 h0
    go_enter Try.func28, Try.ntmps28
    go_wp2_with (first | (go_at_call 47; refine (Try.rwHouses _ _ H1.out _).mono ?_; rintro e w1 ⟨rfl, rfl⟩))
    go_ret2
    exact ⟨rfl, by repeat (first | exact Gr.refl _ | refine Gr.alloc ?_ _ | refine Gr.trans ?_ (by assumption) | refine Gr.drew ?_ | refine Gr.drewN ?_ _ | refine Gr.grow ?_ _ | refine Gr.setCell ?_ (by (try simp); (try omega)) _)⟩
  · have H1 := Lib.hid h1
    have hlen := inn_e h1
    have HG := Lib.hid (Try.l1All w B v xs 0 4 b h2 hl h)
    rcases h.view with ⟨rfl, _⟩ | ⟨hpos, g, c, rfl, _, _, _, hc, _⟩
    · simp at hlen
    · have HC := Lib.hid hc
      have HP := Lib.hid hp
      have HR := Lib.hid (fun W => Try.rwRing xs.length ring W)
      clear h hb h1 h2 h0 hc hp
      cases b
      · go_enter Try.func28, Try.ntmps28
        go_wp2_with (first | (go_at_call 47; refine (Try.rwHouses _ _ H1.out _).mono ?_; rintro e w1 ⟨rfl, rfl⟩) | (go_at_call 48; refine (HG.out).mono ?_; rintro e w1 ⟨rfl, hbW⟩; have hcW := (bcell hbW.below).1; have hfW := (bcell hbW.below).2; (try have hzW : w.heap.size < w1.heap.size := by have hq := hbW.below.size; (try simp at hq); omega); (try have hyW : w.heap.size + 1 < w1.heap.size := by have hq := hbW.below.size; (try simp at hq); omega); (try have hxW : w.heap.size + 2 < w1.heap.size := by have hq := hbW.below.size; (try simp at hq); omega)))
        go_ret2
        exact ⟨rfl, by repeat (first | exact Gr.refl _ | refine Gr.alloc ?_ _ | refine Gr.trans ?_ (by assumption) | refine Gr.drew ?_ | refine Gr.drewN ?_ _ | refine Gr.grow ?_ _ | refine Gr.setCell ?_ (by (try simp); (try omega)) _)⟩
      · rw [Bool.true_and]
        go_enter Try.func28, Try.ntmps28
        go_wp2_with (first | (go_at_call 47; refine (Try.rwHouses _ _ H1.out _).mono ?_; rintro e w1 ⟨rfl, rfl⟩) | (go_at_call 48; refine (HG.out).mono ?_; rintro e w1 ⟨rfl, hbW⟩; have hcW := (bcell hbW.below).1; have hfW := (bcell hbW.below).2; (try have hzW : w.heap.size < w1.heap.size := by have hq := hbW.below.size; (try simp at hq); omega); (try have hyW : w.heap.size + 1 < w1.heap.size := by have hq := hbW.below.size; (try simp at hq); omega); (try have hxW : w.heap.size + 2 < w1.heap.size := by have hq := hbW.below.size; (try simp at hq); omega)))
        go_loopw [7] (fun i wr => PRelS xs w i wr) (fun i _ => (xs.length - intOf i).toNat)
        case atStart => exact ⟨by repeat (first | exact Gr.refl _ | refine Gr.alloc ?_ _ | refine Gr.trans ?_ (by assumption) | refine Gr.drew ?_ | refine Gr.drewN ?_ _ | refine Gr.grow ?_ _ | refine Gr.setCell ?_ (by (try simp); (try omega)) _), 1, Nat.le_refl _, hpos, rfl, fun j hj => by omega⟩
        case round =>
          obtain ⟨gr, k, hk1, hk, rfl, hall⟩ := hrel
          have HG := Lib.hid gr
          have HA := Lib.hid hall
          by_cases hlt : k < xs.length
          · obtain ⟨m, hm⟩ : ∃ m, k = m + 1 := ⟨k - 1, by omega⟩
            have HM := Lib.hid hm
            have e1 := gr_all gr (HC.out k hlt)
            have e2 := gr_all gr (HC.out m (by omega))
            have z0 : (0 : Int) ≤ (k : Int) := by omega
            have z1 : (k : Int) < (xs.length : Int) := by omega
            have z2 : (0 : Int) ≤ (m : Int) := by omega
            have z3 : (m : Int) < (xs.length : Int) := by omega
            have wi : IntKind.i64.wrap ((k : Int) - 1) = (m : Int) := by rw [show (k : Int) - 1 = (m : Int) by omega]; exact IntWalk.i64_in _ (by omega)
            by_cases hq : xs.getD m 0 = xs.getD k 0
            · have HF := Lib.hid (not_trueR HP.out (fun q => q.1 m (by omega) (by rw [← hm]; exact hq)))
              have d : ((xs.getD m 0 : Int) == xs.getD k 0) = true := beq_iff_eq.2 hq
              clear gr hall hm hq
              generalize xs.getD m 0 = y0 at *
              generalize xs.getD k 0 = y1 at *
              go_wp2_with fail
              (refine wp_region_quiet_grown mixed (by kernel_rfl) ?_; (repeat (first | go_big_quiet_step ((fail)) | quiet_step ((fail)))); refine wpQuiet_nil ?_; intro _ hw'; obtain ⟨⟨nq, osq⟩, hw''⟩ := hw'; subst hw'')
              clear e1 e2
              go_wp2
              go_ret2
              exact ⟨by rw [HF.out]; rfl, HG.out.trans (by repeat (first | exact Gr.refl _ | refine Gr.alloc ?_ _ | refine Gr.trans ?_ (by assumption) | refine Gr.drew ?_ | refine Gr.drewN ?_ _ | refine Gr.grow ?_ _ | refine Gr.setCell ?_ (by (try simp); (try omega)) _))⟩
            · have HS := Lib.hid (show ∀ j, j + 1 < k + 1 → xs.getD j 0 ≠ xs.getD (j + 1) 0 from fun j hj => by
                rcases Nat.lt_or_eq_of_le (Nat.le_of_lt_succ hj) with c | c
                · exact HA.out j c
                · obtain rfl : j = m := by omega
                  rw [← hm]; exact hq)
              have d : ((xs.getD m 0 : Int) == xs.getD k 0) = false := beq_eq_false_iff_ne.2 hq
              clear gr hall hm hq
              generalize xs.getD m 0 = y0 at e2 d
              generalize xs.getD k 0 = y1 at e1 d
              go_wp2_with fail
              (refine wp_region_quiet_grown mixed (by kernel_rfl) ?_; (repeat (first | go_big_quiet_step ((fail)) | quiet_step ((fail)))); refine wpQuiet_nil ?_; intro _ hw'; obtain ⟨⟨nq, osq⟩, hw''⟩ := hw'; subst hw'')
              clear e1 e2
              go_wp2
              go_roundw
              case rel => exact ⟨HG.out.trans (by repeat (first | exact Gr.refl _ | refine Gr.alloc ?_ _ | refine Gr.trans ?_ (by assumption) | refine Gr.drew ?_ | refine Gr.drewN ?_ _ | refine Gr.grow ?_ _ | refine Gr.setCell ?_ (by (try simp); (try omega)) _)), k + 1, by omega, by omega, by go_num, HS.out⟩
              case measure => simp [intOf]; omega
          · obtain rfl : k = xs.length := by omega
            have e1 := gr_all gr (HC.out 0 hpos)
            have e2 := gr_all gr (HC.out (xs.length - 1) (by omega))
            obtain ⟨m, hm⟩ : ∃ m, xs.length - 1 = m := ⟨_, rfl⟩
            have HM := Lib.hid hm
            rw [hm] at e2
            have z2 : (0 : Int) ≤ (m : Int) := by omega
            have z3 : (m : Int) < (xs.length : Int) := by omega
            have z4 : (0 : Int) < (xs.length : Int) := by omega
            have wi : IntKind.i64.wrap ((xs.length : Int) - 1) = (m : Int) := by rw [show (xs.length : Int) - 1 = (m : Int) by omega]; exact IntWalk.i64_in _ (by omega)
            have HFn := Lib.hid (show p = true ↔ (rgB xs.length ring = true → xs.getD 0 0 ≠ xs.getD m 0) from HP.out.trans ⟨fun q => by rw [← hm]; exact q.2, fun q => ⟨HA.out, by rw [hm]; exact q⟩⟩)
            clear gr hall hm
            generalize xs.getD 0 0 = y0 at *
            generalize xs.getD m 0 = y1 at *
            generalize rgB xs.length ring = rg at *
            cases rg
            · have HF := Lib.hid (show p = true from HFn.out.2 (fun q => by cases q))
              go_wp2_with fail
              (refine wp_region_quiet_grown mixed (by kernel_rfl) ?_; (repeat (first | go_big_quiet_step ((go_at_call 49; exact Calls.grown_of (same_gr (HR.out _)))) | quiet_step ((go_at_call 49; exact Calls.grown_of (same_gr (HR.out _)))))); refine wpQuiet_nil ?_; intro _ hw'; obtain ⟨⟨nq, osq⟩, hw''⟩ := hw'; subst hw'')
              clear e1 e2
              go_wp2
              go_ret2
              exact ⟨by rw [HF.out]; rfl, HG.out.trans (by repeat (first | exact Gr.refl _ | refine Gr.alloc ?_ _ | refine Gr.trans ?_ (by assumption) | refine Gr.drew ?_ | refine Gr.drewN ?_ _ | refine Gr.grow ?_ _ | refine Gr.setCell ?_ (by (try simp); (try omega)) _))⟩
            · have HF := Lib.hid (show p = decide (y0 ≠ y1) by
                cases q : p
                · exact (decide_eq_false (fun c => by have := HFn.out.2 (fun _ => c); rw [q] at this; cases this)).symm
                · exact (decide_eq_true (HFn.out.1 q rfl)).symm)
              go_wp2_with fail
              (refine wp_region_quiet_grown mixed (by kernel_rfl) ?_; (repeat (first | go_big_quiet_step ((go_at_call 49; exact Calls.grown_of (same_gr (HR.out _)))) | quiet_step ((go_at_call 49; exact Calls.grown_of (same_gr (HR.out _)))))); refine wpQuiet_nil ?_; intro _ hw'; obtain ⟨⟨nq, osq⟩, hw''⟩ := hw'; subst hw'')
              clear e1 e2
              go_wp2
              go_ret2
              exact ⟨by rw [HF.out]; first | rfl | (congr 3; simp [bne, BEq.beq]), HG.out.trans (by repeat (first | exact Gr.refl _ | refine Gr.alloc ?_ _ | refine Gr.trans ?_ (by assumption) | refine Gr.drew ?_ | refine Gr.drewN ?_ _ | refine Gr.grow ?_ _ | refine Gr.setCell ?_ (by (try simp); (try omega)) _))⟩
def QRelO (xs : List Int) (ring : Bool) (w : World) (i : Value) (wr : World) : Prop := Gr w wr ∧ ∃ k : Nat, k ≤ xs.length ∧ i = .int .i64 k ∧ ∀ j, j < k → ∀ i, i < j → ¬ BadP xs ring i j
def QRelI (xs : List Int) (ring : Bool) (k : Nat) (w : World) (i : Value) (wr : World) : Prop := Gr w wr ∧ ∃ m : Nat, m ≤ k ∧ i = .int .i64 m ∧ ∀ i, i < m → ¬ BadP xs ring i k
set_option maxRecDepth 100000 in
set_option maxHeartbeats 1600000 in
theorem Try.iIsPainted (w : World) (B : Nat) (v : Value) (xs : List Int) (ring : Bool) (b p : Bool) (hb : b = true ↔ UpP xs 20 4) (hp : p = true ↔ PntP xs ring) (hl : xs.length ≤ 1048576) (h : OwnI w B v xs) :
    Calls Try.prog 30 #[v, .bool ring] w fun e w' => e = .returned (.tuple #[.bool (b && p), .bool b]) ∧ Gr w w' := by
  have mixed : Try.prog.follows .mixedOrders = true := by kernel_rfl
  have HG := Lib.hid (Try.areUpTo w B v xs 20 4 b hb hl h)
  cases b
  · obtain ⟨A, c, rfl, h⟩ := h.eta
    clear h hb hp
    go_enter Try.func30, Try.ntmps30
    go_wp2_with (first | (go_at_call 44; refine (HG.out).mono ?_; rintro e w1 ⟨rfl, hbW⟩; have hcW := (bcell hbW.below).1; have hfW := (bcell hbW.below).2; (try have hzW : w.heap.size < w1.heap.size := by have hq := hbW.below.size; (try simp at hq); omega); (try have hyW : w.heap.size + 1 < w1.heap.size := by have hq := hbW.below.size; (try simp at hq); omega); (try have hxW : w.heap.size + 2 < w1.heap.size := by have hq := hbW.below.size; (try simp at hq); omega)))
    go_ret2
    exact ⟨rfl, by repeat (first | exact Gr.refl _ | refine Gr.alloc ?_ _ | refine Gr.trans ?_ (by assumption) | refine Gr.drew ?_ | refine Gr.drewN ?_ _ | refine Gr.grow ?_ _ | refine Gr.setCell ?_ (by (try simp); (try omega)) _)⟩
  · have hlen := (hb.1 rfl).1
    rcases h.view with ⟨rfl, _⟩ | ⟨hpos, g, c, rfl, _, _, _, hc, _⟩
    · simp at hlen
    · have HC := Lib.hid hc
      have HP := Lib.hid (hp.trans (pnt_iff xs ring))
      clear h hb hc hp
      rw [Bool.true_and]
      go_enter Try.func30, Try.ntmps30
      go_wp2_with (first | (go_at_call 44; refine (HG.out).mono ?_; rintro e w1 ⟨rfl, hbW⟩; have hcW := (bcell hbW.below).1; have hfW := (bcell hbW.below).2; (try have hzW : w.heap.size < w1.heap.size := by have hq := hbW.below.size; (try simp at hq); omega); (try have hyW : w.heap.size + 1 < w1.heap.size := by have hq := hbW.below.size; (try simp at hq); omega); (try have hxW : w.heap.size + 2 < w1.heap.size := by have hq := hbW.below.size; (try simp at hq); omega)))
      go_loopw [14] (fun i wr => QRelO xs ring w i wr) (fun i _ => (xs.length - intOf i).toNat)
      case atStart => exact ⟨by repeat (first | exact Gr.refl _ | refine Gr.alloc ?_ _ | refine Gr.trans ?_ (by assumption) | refine Gr.drew ?_ | refine Gr.drewN ?_ _ | refine Gr.grow ?_ _ | refine Gr.setCell ?_ (by (try simp); (try omega)) _), 0, Nat.zero_le _, rfl, fun j hj => by omega⟩
      case round =>
        obtain ⟨gr, k, hk, rfl, hall⟩ := hrel
        have HG := Lib.hid gr
        have HA := Lib.hid hall
        by_cases hlt : k < xs.length
        · have e1 := gr.keep2 (HC.out k hlt)
          obtain ⟨yk, hyk⟩ : ∃ y, xs.getD k 0 = y := ⟨_, rfl⟩
          rw [hyk] at e1
          have HYK := Lib.hid hyk
          clear hyk
          have z0 : (0 : Int) ≤ (k : Int) := by omega
          have z1 : (k : Int) < (xs.length : Int) := by omega
          clear gr hall
          rename World => W1
          go_wp2
          go_loopw [20] (fun i wr => QRelI xs ring k W1 i wr) (fun i _ => (k - intOf i).toNat)
          case atStart => exact ⟨Gr.refl _, 0, Nat.zero_le _, rfl, fun j hj => by omega⟩
          case round =>
            obtain ⟨gr, m, hm, rfl, hall⟩ := hrel
            have HG2 := Lib.hid gr
            have HA2 := Lib.hid hall
            by_cases hmk : m < k
            · have e2 := (HG.out.trans gr).keep2 (HC.out m (by omega))
              have y0 : (0 : Int) ≤ (m : Int) := by omega
              have y1 : (m : Int) < (xs.length : Int) := by omega
              have y2 : (m : Int) < (k : Int) := by omega
              obtain ⟨r, hr⟩ : ∃ r, neiB (xs.length : Int) m k ring = r := ⟨_, rfl⟩
              have HN := Lib.hid (fun W => Try.areNeighbours (xs.length : Int) m k ring W (by omega) (by omega) (by omega) r hr)
              by_cases hq : xs.getD m 0 = yk
              · have d : ((xs.getD m 0 : Int) == yk) = true := beq_iff_eq.2 hq
                cases r
                · have HS := Lib.hid (show ∀ i, i < m + 1 → ¬ BadP xs ring i k from fun i hi => by
                    rcases Nat.lt_or_eq_of_le (Nat.le_of_lt_succ hi) with c | c
                    · exact HA2.out i c
                    · subst c; intro q; have := q.2; rw [hr] at this; cases this)
                  clear gr hall hq hr
                  generalize xs.getD m 0 = ym at e2 d
                  go_wp2_with (first | (go_at_call 50; refine (HN.out _).mono ?_; rintro e w1 ⟨rfl, rfl⟩))
                  go_roundw
                  case rel => exact ⟨HG2.out.trans (by repeat (first | exact Gr.refl _ | refine Gr.alloc ?_ _ | refine Gr.trans ?_ (by assumption) | refine Gr.drew ?_ | refine Gr.drewN ?_ _ | refine Gr.grow ?_ _ | refine Gr.setCell ?_ (by (try simp); (try omega)) _)), m + 1, by omega, by go_num, HS.out⟩
                  case measure => simp [intOf]; omega
                · have HF := Lib.hid (not_trueR HP.out (fun q => q k hlt m hmk ⟨hq.trans HYK.out.symm, hr⟩))
                  clear gr hall hq hr
                  generalize xs.getD m 0 = ym at e2 d
                  go_wp2_with (first | (go_at_call 50; refine (HN.out _).mono ?_; rintro e w1 ⟨rfl, rfl⟩))
                  go_ret2
                  exact ⟨by rw [HF.out]; rfl, HG.out.trans (HG2.out.trans (by repeat (first | exact Gr.refl _ | refine Gr.alloc ?_ _ | refine Gr.trans ?_ (by assumption) | refine Gr.drew ?_ | refine Gr.drewN ?_ _ | refine Gr.grow ?_ _ | refine Gr.setCell ?_ (by (try simp); (try omega)) _)))⟩
              · have d : ((xs.getD m 0 : Int) == yk) = false := beq_eq_false_iff_ne.2 hq
                have HS := Lib.hid (show ∀ i, i < m + 1 → ¬ BadP xs ring i k from fun i hi => by
                  rcases Nat.lt_or_eq_of_le (Nat.le_of_lt_succ hi) with c | c
                  · exact HA2.out i c
                  · subst c; exact fun q => hq (q.1.trans HYK.out))
                clear gr hall hq
                generalize xs.getD m 0 = ym at e2 d
                go_wp2_with (first | (go_at_call 50; refine (HN.out _).mono ?_; rintro e w1 ⟨rfl, rfl⟩))
                go_roundw
                case rel => exact ⟨HG2.out.trans (by repeat (first | exact Gr.refl _ | refine Gr.alloc ?_ _ | refine Gr.trans ?_ (by assumption) | refine Gr.drew ?_ | refine Gr.drewN ?_ _ | refine Gr.grow ?_ _ | refine Gr.setCell ?_ (by (try simp); (try omega)) _)), m + 1, by omega, by go_num, HS.out⟩
                case measure => simp [intOf]; omega
            · obtain rfl : m = k := by omega
              have HS := Lib.hid (show ∀ j, j < m + 1 → ∀ i, i < j → ¬ BadP xs ring i j from fun j hj => by
                rcases Nat.lt_or_eq_of_le (Nat.le_of_lt_succ hj) with c | c
                · exact HA.out j c
                · subst c; exact HA2.out)
              clear gr hall
              go_wp2
              go_roundw
              case rel => exact ⟨HG.out.trans (HG2.out.trans (by repeat (first | exact Gr.refl _ | refine Gr.alloc ?_ _ | refine Gr.trans ?_ (by assumption) | refine Gr.drew ?_ | refine Gr.drewN ?_ _ | refine Gr.grow ?_ _ | refine Gr.setCell ?_ (by (try simp); (try omega)) _))), m + 1, by omega, by go_num, HS.out⟩
              case measure => simp [intOf]; omega
        · obtain rfl : k = xs.length := by omega
          have HF := Lib.hid (show p = true from HP.out.2 HA.out)
          clear gr hall
          go_wp2
          go_ret2
          exact ⟨by rw [HF.out]; rfl, HG.out⟩
end Go.Proofs
