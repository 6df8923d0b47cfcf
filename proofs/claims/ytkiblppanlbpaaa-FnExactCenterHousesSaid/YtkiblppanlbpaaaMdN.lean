/-
  Contracts of chapter 5: the mean of the houses (both sides).
-/
import Derived.Test.YtkiblppanlbpaaaMdM
namespace Go.Proofs
open Go.RowKit
set_option linter.unusedVariables false
set_option linter.unusedSimpArgs false
def GcRel (G : Nat) (w : World) (a b : Value) (wr : World) : Prop := Gr w wr ∧ ∃ p q : Nat, p ≤ 10000000 ∧ q ≤ 10000000 ∧ Nat.gcd p q = G ∧ a = .int .i64 (p : Int) ∧ b = .int .i64 (q : Int)
theorem gcd_step (p q G : Nat) (h : Nat.gcd p q = G) : Nat.gcd q (p % q) = G := by
  rw [← h, Nat.gcd_comm q, ← Nat.gcd_rec, Nat.gcd_comm]
set_option maxHeartbeats 800000 in
theorem Try.greatestDivisor (w : World) (p q : Nat) (hp : p ≤ 10000000) (hq : q ≤ 10000000) :
    Calls Try.prog 76 #[.int .i64 (p : Int), .int .i64 (q : Int)] w fun e w' => e = .returned (.int .i64 ((Nat.gcd p q : Nat) : Int)) ∧ Gr w w' := by
  have mixed : Try.prog.follows .mixedOrders = true := by kernel_rfl
  obtain ⟨G, hG⟩ : ∃ G, Nat.gcd p q = G := ⟨_, rfl⟩
  have HG0 := Lib.hid hG
  rw [hG]
  clear hG
  go_enter Try.func76, Try.ntmps76
  go_wp2
  go_loopw [0, 1] (fun a b wr => GcRel G w a b wr) (fun _ b _ => (intOf b).toNat)
  case atStart => exact ⟨Gr.refl _, p, q, hp, hq, HG0.out, rfl, rfl⟩
  case round =>
    obtain ⟨gr, a, b, ha, hb, hg, rfl, rfl⟩ := hrel
    have HG := Lib.hid gr
    have HQ := Lib.hid hg
    clear gr hg HG0
    by_cases h0 : 0 < b
    · have z1 : (0 : Int) < (b : Int) := by omega
      have z2 : ¬ (b : Int) = 0 := by omega
      have z3 : ((b : Int) == 0) = false := by simp; omega
      go_wp2
      (refine wp_region_quiet_grown mixed (by kernel_rfl) ?_; (repeat (first | go_big_quiet_step ((fail)) | quiet_step ((fail)))); refine wpQuiet_nil ?_; intro _ hw'; obtain ⟨⟨nq, osq⟩, hw''⟩ := hw'; subst hw'')
      go_wp2
      go_roundw
      case rel => exact ⟨HG.out.trans (by repeat (first | exact Gr.refl _ | refine Gr.alloc ?_ _ | refine Gr.trans ?_ (by assumption) | refine Gr.drew ?_ | refine Gr.drewN ?_ _ | refine Gr.grow ?_ _ | refine Gr.setCell ?_ (by (try simp); (try omega)) _)), b, a % b, by omega, Nat.le_trans (Nat.mod_le _ _) ha, gcd_step a b G HQ.out, rfl, by first | rfl | go_num | simp [Int.natCast_emod] | trace_state⟩
      case measure => simp [intOf]; first | omega | exact Nat.mod_lt _ h0 | trace_state
    · obtain rfl : b = 0 := by omega
      have e : a = G := by have := HQ.out; rwa [Nat.gcd_zero_right] at this
      subst e
      go_wp2
      go_ret
      exact ⟨rfl, HG.out⟩
theorem wrap_div (p a : Nat) (h : p ≤ 10000000) : wrap64 ((p : Int) / (a : Int)) = ((p / a : Nat) : Int) := by
  rw [← Int.natCast_ediv]
  have : p / a ≤ p := Nat.div_le_self _ _
  generalize p / a = d at *
  unfold wrap64
  omega
def mnP (xs : List Int) : Nat := (walksI xs 0).toNat
def mnQ (xs : List Int) : Nat := (heads xs).toNat
def mnG (xs : List Int) : Nat := Nat.gcd (mnP xs) (mnQ xs)
theorem mn_bd {xs : List Int} (hg : GoodP xs) : walksI xs 0 = (mnP xs : Int) ∧ heads xs = (mnQ xs : Int) ∧ mnP xs ≤ 10000000 ∧ 0 < mnQ xs ∧ mnQ xs ≤ 10000000 ∧ 0 < mnG xs := by
  have a := sumF_bd (f := wkf xs 0) (n := xs.length) (K := 60000) (fun i hi => wkf_bd hg (by omega) (by omega) i hi)
  have b := sumF_bd (f := gx xs) (n := xs.length) (K := 1000) (fun i hi => hg.bd i)
  have c := hg.2.2
  have d := hg.1.2
  have e1 : walksI xs 0 = sumF (wkf xs 0) xs.length := rfl
  have e2 : heads xs = sumF (gx xs) xs.length := rfl
  have q0 : 0 < mnQ xs := by unfold mnQ; omega
  refine ⟨by unfold mnP; omega, by unfold mnQ; omega, by unfold mnP; omega, q0, by unfold mnQ; omega, Nat.gcd_pos_of_pos_right _ q0⟩
def mnV (xs : List Int) (b : Bool) : Int := if b then ((mnP xs / mnG xs : Nat) : Int) else 0
def mnW (xs : List Int) (b : Bool) : Int := if b then ((mnQ xs / mnG xs : Nat) : Int) else 0
set_option maxRecDepth 100000 in
set_option maxHeartbeats 1600000 in
theorem Try.sMeanHouse (w : World) (B : Nat) (v : Value) (xs : List Int) (b : Bool) (hb : b = true ↔ GoodP xs) (hl : xs.length ≤ 1048576) (h : OwnI w B v xs) :
    Calls Try.prog 41 #[v] w fun e w' => e = .returned (.tuple #[.int .i64 (mnV xs b), .int .i64 (mnW xs b), .bool b]) ∧ Gr w w' := by
  have mixed : Try.prog.follows .mixedOrders = true := by kernel_rfl
  have HH := Lib.hid (Try.mdGood w B v xs b hb hl h)
  have HO := Lib.hid h
  obtain ⟨A, c, rfl, _⟩ := h.eta
  cases q : b
  · rw [q] at HH
    clear h hb q
    go_enter Try.func41, Try.ntmps41
    go_wp2_with (first | (go_at_call 49; refine (HH.out).mono ?_; rintro e w1 ⟨rfl, hbW⟩; have hcW := (bcell hbW.below).1; have hfW := (bcell hbW.below).2; (try have hzW : w.heap.size < w1.heap.size := by have hq := hbW.below.size; (try simp at hq); omega); (try have hyW : w.heap.size + 1 < w1.heap.size := by have hq := hbW.below.size; (try simp at hq); omega); (try have hxW : w.heap.size + 2 < w1.heap.size := by have hq := hbW.below.size; (try simp at hq); omega)))
    go_ret3
    exact ⟨rfl, by repeat (first | exact Gr.refl _ | refine Gr.alloc ?_ _ | refine Gr.trans ?_ (by assumption) | refine Gr.drew ?_ | refine Gr.drewN ?_ _ | refine Gr.grow ?_ _ | refine Gr.setCell ?_ (by (try simp); (try omega)) _)⟩
  · rw [q] at HH
    have hg := hb.1 q
    obtain ⟨e1, e2, p1, q0, q1, g0⟩ := mn_bd hg
    have HW := Lib.hid (fun w1 (g : Gr w w1) => Try.mdWalks w1 B _ xs 0 hg (by omega) (by omega) (HO.out.gr g))
    have HS := Lib.hid (fun w1 (g : Gr w w1) => Try.mdSum w1 B _ xs hg.2.1 hg.1.2 (HO.out.gr g))
    rw [e1] at HW
    rw [show sumF (gx xs) xs.length = ((mnQ xs : Nat) : Int) from e2] at HS
    have v1 : mnV xs true = ((mnP xs / mnG xs : Nat) : Int) := rfl
    have v2 : mnW xs true = ((mnQ xs / mnG xs : Nat) : Int) := rfl
    rw [v1, v2]
    have HG0 := Lib.hid (show Nat.gcd (mnP xs) (mnQ xs) = mnG xs from rfl)
    generalize mnP xs = p at *
    generalize mnQ xs = r at *
    generalize mnG xs = G at *
    clear h hb q hg e1 e2 v1 v2
    go_enter Try.func41, Try.ntmps41
    go_wp2_with (first | (go_at_call 49; refine (HH.out).mono ?_; rintro e w1 ⟨rfl, hbW⟩; have hcW := (bcell hbW.below).1; have hfW := (bcell hbW.below).2; (try have hzW : w.heap.size < w1.heap.size := by have hq := hbW.below.size; (try simp at hq); omega); (try have hyW : w.heap.size + 1 < w1.heap.size := by have hq := hbW.below.size; (try simp at hq); omega); (try have hxW : w.heap.size + 2 < w1.heap.size := by have hq := hbW.below.size; (try simp at hq); omega)) | (go_at_call 54; refine (HW.out _ (by assumption)).mono ?_; rintro e w2 ⟨rfl, g2⟩; have gw2 := hbW.trans g2) | (go_at_call 75; refine (HS.out _ (by assumption)).mono ?_; rintro e w3 ⟨rfl, g3⟩; have gw3 := gw2.trans g3))
    have GW := Lib.hid gw3
    clear hbW hcW hfW g2 g3 gw2 gw3
    go_loopw [7, 8] (fun a b wr => GcRel G w a b wr) (fun _ b _ => (intOf b).toNat)
    case atStart => exact ⟨GW.out, p, r, p1, q1, HG0.out, rfl, rfl⟩
    case round =>
      obtain ⟨gr, a, b, ha, hb, hg, rfl, rfl⟩ := hrel
      have HG := Lib.hid gr
      have HQ := Lib.hid hg
      clear gr hg HG0
      by_cases h0 : 0 < b
      · have z1 : (0 : Int) < (b : Int) := by omega
        have z2 : ¬ (b : Int) = 0 := by omega
        have z3 : ((b : Int) == 0) = false := by simp; omega
        go_wp2
        (refine wp_region_quiet_grown mixed (by kernel_rfl) ?_; (repeat (first | go_big_quiet_step ((fail)) | quiet_step ((fail)))); refine wpQuiet_nil ?_; intro _ hw'; obtain ⟨⟨nq, osq⟩, hw''⟩ := hw'; subst hw'')
        go_wp2
        go_roundw
        case rel => exact ⟨HG.out.trans (by repeat (first | exact Gr.refl _ | refine Gr.alloc ?_ _ | refine Gr.trans ?_ (by assumption) | refine Gr.drew ?_ | refine Gr.drewN ?_ _ | refine Gr.grow ?_ _ | refine Gr.setCell ?_ (by (try simp); (try omega)) _)), b, a % b, by omega, Nat.le_trans (Nat.mod_le _ _) ha, gcd_step a b G HQ.out, rfl, by first | rfl | go_num⟩
        case measure => simp [intOf]; first | omega | exact Nat.mod_lt _ h0
      · obtain rfl : b = 0 := by omega
        have e : a = G := by have := HQ.out; rwa [Nat.gcd_zero_right] at this
        subst e
        have z1 : (0 : Int) < (a : Int) := by omega
        have z2 : ¬ (a : Int) = 0 := by omega
        have z3 : ((a : Int) == 0) = false := by simp; omega
        have d1 : p / a ≤ p := Nat.div_le_self _ _
        have d2 : r / a ≤ r := Nat.div_le_self _ _
        have f1 := wrap_div p a (by omega)
        have f2 := wrap_div r a (by omega)
        go_wp2
        (refine wp_region_quiet_grown mixed (by kernel_rfl) ?_; (repeat (first | go_big_quiet_step ((fail)) | quiet_step ((fail)))); refine wpQuiet_nil ?_; intro _ hw'; obtain ⟨⟨nq, osq⟩, hw''⟩ := hw'; subst hw'')
        go_wp2
        go_ret3
        exact ⟨by rw [← f1, ← f2]; rfl, HG.out.trans (by repeat (first | exact Gr.refl _ | refine Gr.alloc ?_ _ | refine Gr.trans ?_ (by assumption) | refine Gr.drew ?_ | refine Gr.drewN ?_ _ | refine Gr.grow ?_ _ | refine Gr.setCell ?_ (by (try simp); (try omega)) _))⟩
set_option maxRecDepth 100000 in
set_option maxHeartbeats 1600000 in
theorem Try.iMeanHouse (w : World) (B : Nat) (v : Value) (xs : List Int) (b : Bool) (hb : b = true ↔ GoodP xs) (hl : xs.length ≤ 1048576) (h : OwnI w B v xs) :
    Calls Try.prog 42 #[v] w fun e w' => e = .returned (.tuple #[.int .i64 (mnV xs b), .int .i64 (mnW xs b), .bool b]) ∧ Gr w w' := by
  have mixed : Try.prog.follows .mixedOrders = true := by kernel_rfl
  have HH := Lib.hid (Try.iArePeople w B v xs b hb hl h)
  have hO := h
  obtain ⟨A, c, rfl, _⟩ := h.eta
  cases q : b
  · rw [q] at HH
    clear h hO hb q
    go_enter Try.func42, Try.ntmps42
    go_wp2_with (first | (go_at_call 19; refine (HH.out).mono ?_; rintro e w1 ⟨rfl, hbW⟩; have hcW := (bcell hbW.below).1; have hfW := (bcell hbW.below).2; (try have hzW : w.heap.size < w1.heap.size := by have hq := hbW.below.size; (try simp at hq); omega); (try have hyW : w.heap.size + 1 < w1.heap.size := by have hq := hbW.below.size; (try simp at hq); omega); (try have hxW : w.heap.size + 2 < w1.heap.size := by have hq := hbW.below.size; (try simp at hq); omega)))
    go_ret3
    exact ⟨rfl, by repeat (first | exact Gr.refl _ | refine Gr.alloc ?_ _ | refine Gr.trans ?_ (by assumption) | refine Gr.drew ?_ | refine Gr.drewN ?_ _ | refine Gr.grow ?_ _ | refine Gr.setCell ?_ (by (try simp); (try omega)) _)⟩
  · rw [q] at HH
    have hg := hb.1 q
    obtain ⟨e1, e2, p1, q0, q1, g0⟩ := mn_bd hg
    have hpp := hO.ppl hg.1.1
    have HS := Lib.hid (fun W (g : Gr w W) => Try.sumsOfAll (W.alloc (.cells #[.int .i64 0] 3)) _ (.slice (some ⟨W.heap.size, 0, none⟩) 1 1) xs [0] hg (hpp.gr (Gr.alloc g _)) ((own_one W 0 _ (Nat.le_refl _)).boxes (by simp) (by simp) (fun j hj => by
          obtain rfl : j = 0 := by simp at hj; exact hj
          simp [gx])))
    rw [walks_one, e1, e2] at HS
    have v1 : mnV xs true = ((mnP xs / mnG xs : Nat) : Int) := rfl
    have v2 : mnW xs true = ((mnQ xs / mnG xs : Nat) : Int) := rfl
    rw [v1, v2]
    have HD := Lib.hid (fun W => Try.greatestDivisor W (mnP xs) (mnQ xs) p1 q1)
    rw [show Nat.gcd (mnP xs) (mnQ xs) = mnG xs from rfl] at HD
    have f1 := wrap_div (mnP xs) (mnG xs) p1
    have f2 := wrap_div (mnQ xs) (mnG xs) q1
    generalize mnP xs = p at *
    generalize mnQ xs = r at *
    generalize mnG xs = G at *
    have z1 : (0 : Int) < (G : Int) := by omega
    have z2 : ¬ (G : Int) = 0 := by omega
    have z3 : ((G : Int) == 0) = false := by simp; omega
    clear h hO hb q hg e1 e2 v1 v2 hpp
    go_enter Try.func42, Try.ntmps42
    go_wp2_with (first | (go_at_call 19; refine (HH.out).mono ?_; rintro e w1 ⟨rfl, hbW⟩; have hcW := (bcell hbW.below).1; have hfW := (bcell hbW.below).2; (try have hzW : w.heap.size < w1.heap.size := by have hq := hbW.below.size; (try simp at hq); omega); (try have hyW : w.heap.size + 1 < w1.heap.size := by have hq := hbW.below.size; (try simp at hq); omega); (try have hxW : w.heap.size + 2 < w1.heap.size := by have hq := hbW.below.size; (try simp at hq); omega)) | (go_at_call 60; refine (HS.out _ (by assumption)).mono ?_; rintro e w2 ⟨rfl, g2⟩; have gw2 : Gr w w2 := (Gr.alloc hbW _).trans g2) | (go_at_call 76; refine (HD.out _).mono ?_; rintro e w3 ⟨rfl, g3⟩))
    obtain ⟨q1', q2'⟩ := boxG g3
    have GW := Lib.hid ((Gr.alloc gw2 _).trans g3)
    clear g3 g2 gw2 hbW hcW hfW
    (refine wp_region_quiet_grown mixed (by kernel_rfl) ?_; (repeat (first | go_big_quiet_step ((fail)) | quiet_step ((fail)))); refine wpQuiet_nil ?_; intro _ hw'; obtain ⟨⟨nq, osq⟩, hw''⟩ := hw'; subst hw'')
    go_wp2
    go_ret3
    exact ⟨by rw [← f1, ← f2]; rfl, GW.out.trans (by repeat (first | exact Gr.refl _ | refine Gr.alloc ?_ _ | refine Gr.trans ?_ (by assumption) | refine Gr.drew ?_ | refine Gr.drewN ?_ _ | refine Gr.grow ?_ _ | refine Gr.setCell ?_ (by (try simp); (try omega)) _))⟩
end Go.Proofs
