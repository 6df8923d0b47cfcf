/-
  Chapter 8: the bound of trips, both sides (impl.sumOf over parcels, TripsBound; spec.bgSum, TripsBound).
-/
import Derived.Test.YtjocipddffillaaBgJ
import Derived.Test.YtjocipddffillaaBgI
namespace Go.Proofs
open Go.RowKit Bg
set_option linter.unusedVariables false
set_option linter.unusedSimpArgs false
set_option maxRecDepth 100000 in
set_option maxHeartbeats 800000 in
theorem Try.sumPars (g : Nat) (cb : Array Value) (ps : List Pi2) (F : Nat → Int) (w : World) (v : Value) (h : ParRow w v ps)
    (hF : ∀ k, k ≤ ps.length → -1000000000000 ≤ smF F k ∧ smF F k ≤ 1000000000000)
    (eg : ∀ args w, (callFunc g args).run Try.prog w = .ok (.enter g args) w)
    (hf : ∀ (W : World) (k : Nat), Gr w W → k < ps.length → Calls Try.prog g (#[.agg #[.int .i64 (ps.getD k (0, 0)).1, .int .i64 (ps.getD k (0, 0)).2]] ++ cb) W fun e w' => e = .returned (.int .i64 (F k)) ∧ Gr W w') :
    Calls Try.prog 76 #[v, .func (.func g) #[] cb] w fun e w' => e = .returned (.int .i64 (smF F ps.length)) ∧ Gr w w' := by
  obtain ⟨gb, c, rfl, hlen, hc⟩ := h
  have HC := Lib.hid hc
  have HF := Lib.hid hf
  have HB := Lib.hid hF
  clear hc hf hF
  go_enter Try.func76, Try.ntmps76
  go_wp2
  go_loopw [5, 7, 10] (fun s _ i wr => SmfRel F ps.length w s i wr) (fun _ _ i _ => (ps.length - intOf i).toNat)
  case atStart => exact ⟨by repeat (first | exact Gr.refl _ | refine Gr.alloc ?_ _ | refine Gr.trans ?_ (by assumption) | refine Gr.drew ?_ | refine Gr.drewN ?_ _ | refine Gr.grow ?_ _ | refine Gr.setCell ?_ (by (try simp); (try omega)) _), 0, Nat.zero_le _, rfl, rfl⟩
  case round =>
    obtain ⟨gr, k, hk, rfl, rfl⟩ := hrel
    by_cases hlt : k < ps.length
    · have e0 := gr.keep0 (HC.out k hlt).1
      have e1 := gr.keep0 (HC.out k hlt).2
      have z0 : (0 : Int) ≤ (k : Int) := by omega
      have z1 : (k : Int) < (ps.length : Int) := by omega
      have GR := Lib.hid gr
      have b1 := HB.out (k + 1) (by omega)
      have hs : smF F (k + 1) = smF F k + F k := rfl
      rw [hs] at b1
      have HS := Lib.hid hs
      have HK := Lib.hid (fun W (g' : Gr wr W) => HF.out W k (gr.trans g') hlt)
      clear gr hs
      generalize (ps.getD k (0, 0)).1 = p0 at *
      generalize (ps.getD k (0, 0)).2 = p1 at *
      generalize smF F k = s at *
      generalize F k = y at *
      have ws : IntKind.i64.wrap (s + y) = s + y := IntWalk.i64_in _ (by omega)
      go_wp2_with (go_at_fn g; refine (HK.out _ (by repeat (first | exact Gr.refl _ | refine Gr.alloc ?_ _ | refine Gr.trans ?_ (by assumption) | refine Gr.drew ?_ | refine Gr.drewN ?_ _ | refine Gr.grow ?_ _ | refine Gr.setCell ?_ (by (try simp); (try omega)) _))).mono ?_; rintro e w2 ⟨rfl, g2⟩)
      go_roundw
      case rel => exact ⟨GR.out.trans (by repeat (first | exact Gr.refl _ | refine Gr.alloc ?_ _ | refine Gr.trans ?_ (by assumption) | refine Gr.drew ?_ | refine Gr.drewN ?_ _ | refine Gr.grow ?_ _ | refine Gr.setCell ?_ (by (try simp); (try omega)) _)), k + 1, by omega, by go_num, by rw [HS.out]⟩
      case measure => simp [intOf]; omega
    · obtain rfl : k = ps.length := by omega
      have GR := Lib.hid gr
      clear gr
      go_wp2
      go_ret
      exact ⟨rfl, GR.out⟩
set_option maxHeartbeats 400000 in
theorem Try.weightOf (p0 p1 : Int) (w : World) : Calls Try.prog 77 (#[.agg #[.int .i64 p0, .int .i64 p1]] ++ #[]) w fun e w' => e = .returned (.int .i64 p1) ∧ Gr w w' := by
  go_enter Try.func77, Try.ntmps77
  go_wp2
  go_ret
  exact ⟨rfl, by repeat (first | exact Gr.refl _ | refine Gr.alloc ?_ _ | refine Gr.trans ?_ (by assumption) | refine Gr.drew ?_ | refine Gr.drewN ?_ _ | refine Gr.grow ?_ _ | refine Gr.setCell ?_ (by (try simp); (try omega)) _)⟩
def sumB (ps : List Pi2) : Int := smF (weiF ps) ps.length
theorem sumB_in {ps : List Pi2} (hg : GoodB ps) : ∀ k, k ≤ ps.length → 0 ≤ smF (weiF ps) k ∧ smF (weiF ps) k ≤ 8000 := fun k hk => by
  have := smF_in (F := weiF ps) (M := 1000) (n := ps.length) (fun j _ => good_wei hg j) k hk
  have := hg.1
  omega
set_option maxHeartbeats 400000 in
theorem Try.sumWeights (w : World) (B : Nat) (v : Value) (ps : List Pi2) (hg : GoodB ps) (h : OwnP 55 w B v ps) :
    Calls Try.prog 76 #[v, .func (.func 77) #[] #[]] w fun e w' => e = .returned (.int .i64 (sumB ps)) ∧ Gr w w' := by
  have eg : ∀ args w, (callFunc 77 args).run Try.prog w = .ok (.enter 77 args) w := enters_of Try.func77 (by kernel_rfl) rfl
  have hl := hg.1
  exact Try.sumPars 77 #[] ps (weiF ps) w v (h.parRow (by omega) (by omega)) (fun k hk => by have := sumB_in hg k hk; omega) eg (fun W k _ _ => Try.weightOf _ _ W)
set_option maxRecDepth 100000 in
set_option maxHeartbeats 800000 in
theorem Try.bgSum (w : World) (B : Nat) (v : Value) (ps : List Pi2) (hg : GoodB ps) (h : OwnP 55 w B v ps) :
    Calls Try.prog 75 #[v] w fun e w' => e = .returned (.int .i64 (sumB ps)) ∧ Gr w w' := by
  have hl := hg.1
  obtain ⟨gb, c, rfl, hlen, hc⟩ := h.parRow (by omega) (by omega)
  have HC := Lib.hid hc
  have HB := Lib.hid (sumB_in hg)
  have HG := Lib.hid hg
  clear hc h hg
  go_enter Try.func75, Try.ntmps75
  go_wp2
  go_loopw [3, 5, 8] (fun s _ i wr => SmfRel (weiF ps) ps.length w s i wr) (fun _ _ i _ => (ps.length - intOf i).toNat)
  case atStart => exact ⟨by repeat (first | exact Gr.refl _ | refine Gr.alloc ?_ _ | refine Gr.trans ?_ (by assumption) | refine Gr.drew ?_ | refine Gr.drewN ?_ _ | refine Gr.grow ?_ _ | refine Gr.setCell ?_ (by (try simp); (try omega)) _), 0, Nat.zero_le _, rfl, rfl⟩
  case round =>
    obtain ⟨gr, k, hk, rfl, rfl⟩ := hrel
    by_cases hlt : k < ps.length
    · have e0 := gr.keep0 (HC.out k hlt).1
      have e1 := gr.keep0 (HC.out k hlt).2
      have z0 : (0 : Int) ≤ (k : Int) := by omega
      have z1 : (k : Int) < (ps.length : Int) := by omega
      have GR := Lib.hid gr
      have b1 := HB.out (k + 1) (by omega)
      have hs : smF (weiF ps) (k + 1) = smF (weiF ps) k + (ps.getD k (0, 0)).2 := rfl
      rw [hs] at b1
      have HS := Lib.hid hs
      clear gr hs
      generalize (ps.getD k (0, 0)).1 = p0 at *
      generalize (ps.getD k (0, 0)).2 = p1 at *
      generalize smF (weiF ps) k = s at *
      have ws : IntKind.i64.wrap (s + p1) = s + p1 := IntWalk.i64_in _ (by omega)
      go_wp2
      go_roundw
      case rel => exact ⟨GR.out.trans (by repeat (first | exact Gr.refl _ | refine Gr.alloc ?_ _ | refine Gr.trans ?_ (by assumption) | refine Gr.drew ?_ | refine Gr.drewN ?_ _ | refine Gr.grow ?_ _ | refine Gr.setCell ?_ (by (try simp); (try omega)) _)), k + 1, by omega, by go_num, by rw [HS.out]⟩
      case measure => simp [intOf]; omega
    · obtain rfl : k = ps.length := by omega
      have GR := Lib.hid gr
      clear gr
      go_wp2
      go_ret
      exact ⟨rfl, GR.out⟩
def bndB (ps : List Pi2) (bag : Int) : Int := (sumB ps + bag - 1).tdiv bag
set_option maxHeartbeats 800000 in
theorem Try.sTripsBound (w : World) (B : Nat) (v : Value) (ps : List Pi2) (bag : Int) (b : Bool) (hb : b = true ↔ AskB ps bag) (hl : ps.length ≤ 1048576) (h : OwnP 55 w B v ps) :
    Calls Try.prog 42 #[v, .int .i64 bag] w fun e w' => e = .returned (.tuple #[.int .i64 (if b = true then bndB ps bag else 0), .bool b]) ∧ Gr w w' := by
  have HA := Lib.hid (Try.bgAsked w B v ps bag b hb hl h)
  cases b
  · obtain ⟨A, c, rfl⟩ := h.sl
    clear h hb
    go_enter Try.func42, Try.ntmps42
    go_wp2_with (first | (go_at_call 56; refine HA.out.mono ?_; rintro e w1 ⟨rfl, g1⟩))
    go_ret2
    exact ⟨rfl, by repeat (first | exact Gr.refl _ | refine Gr.alloc ?_ _ | refine Gr.trans ?_ (by assumption) | refine Gr.drew ?_ | refine Gr.drewN ?_ _ | refine Gr.grow ?_ _ | refine Gr.setCell ?_ (by (try simp); (try omega)) _)⟩
  · have hask := hb.1 rfl
    have HS := Lib.hid (fun W (g : Gr w W) => Try.bgSum W B v ps hask.1 (h.below g.below (Nat.le_refl _)))
    have hs := sumB_in hask.1 ps.length (Nat.le_refl _)
    change 0 ≤ sumB ps ∧ sumB ps ≤ 8000 at hs
    have hbag := hask.2.1
    rw [if_pos rfl]
    unfold bndB
    generalize sumB ps = s at *
    have w1' : IntKind.i64.wrap (s + bag) = s + bag := IntWalk.i64_in _ (by omega)
    have w2' : IntKind.i64.wrap (s + bag - 1) = s + bag - 1 := IntWalk.i64_in _ (by omega)
    have hb0 : ¬ bag = 0 := by omega
    have hq : 0 ≤ (s + bag - 1).tdiv bag ∧ (s + bag - 1).tdiv bag ≤ 20000 := by
      constructor
      · exact Int.tdiv_nonneg (by omega) (by omega)
      · exact Int.le_trans (Int.tdiv_le_self _ (by omega)) (by omega)
    have w3' : IntKind.i64.wrap ((s + bag - 1).tdiv bag) = (s + bag - 1).tdiv bag := IntWalk.i64_in _ (by omega)
    obtain ⟨A, c, rfl⟩ := h.sl
    clear h hb hask hq
    go_enter Try.func42, Try.ntmps42
    go_wp2_with (first | (go_at_call 56; refine HA.out.mono ?_; rintro e w1 ⟨rfl, g1⟩) | (go_at_call 75; refine (HS.out _ g1).mono ?_; rintro e w2 ⟨rfl, g2⟩))
    go_ret2
    exact ⟨rfl, g1.trans g2⟩
set_option maxHeartbeats 800000 in
theorem Try.iTripsBound (w : World) (B : Nat) (v : Value) (ps : List Pi2) (bag : Int) (b : Bool) (hb : b = true ↔ AskB ps bag) (hl : ps.length ≤ 1048576) (h : OwnP 55 w B v ps) :
    Calls Try.prog 43 #[v, .int .i64 bag] w fun e w' => e = .returned (.tuple #[.int .i64 (if b = true then bndB ps bag else 0), .bool b]) ∧ Gr w w' := by
  have HA := Lib.hid (Try.canCarry w B v ps bag b hb hl h)
  cases b
  · obtain ⟨A, c, rfl⟩ := h.sl
    clear h hb
    go_enter Try.func43, Try.ntmps43
    go_wp2_with (first | (go_at_call 59; refine HA.out.mono ?_; rintro e w1 ⟨rfl, g1⟩))
    go_ret2
    exact ⟨rfl, by repeat (first | exact Gr.refl _ | refine Gr.alloc ?_ _ | refine Gr.trans ?_ (by assumption) | refine Gr.drew ?_ | refine Gr.drewN ?_ _ | refine Gr.grow ?_ _ | refine Gr.setCell ?_ (by (try simp); (try omega)) _)⟩
  · have hask := hb.1 rfl
    have HS := Lib.hid (fun W (g : Gr w W) => Try.sumWeights W B v ps hask.1 (h.below g.below (Nat.le_refl _)))
    have hs := sumB_in hask.1 ps.length (Nat.le_refl _)
    change 0 ≤ sumB ps ∧ sumB ps ≤ 8000 at hs
    have hbag := hask.2.1
    rw [if_pos rfl]
    unfold bndB
    generalize sumB ps = s at *
    have w1' : IntKind.i64.wrap (s + bag) = s + bag := IntWalk.i64_in _ (by omega)
    have w2' : IntKind.i64.wrap (s + bag - 1) = s + bag - 1 := IntWalk.i64_in _ (by omega)
    have hb0 : ¬ bag = 0 := by omega
    have hq : 0 ≤ (s + bag - 1).tdiv bag ∧ (s + bag - 1).tdiv bag ≤ 20000 := by
      constructor
      · exact Int.tdiv_nonneg (by omega) (by omega)
      · exact Int.le_trans (Int.tdiv_le_self _ (by omega)) (by omega)
    have w3' : IntKind.i64.wrap ((s + bag - 1).tdiv bag) = (s + bag - 1).tdiv bag := IntWalk.i64_in _ (by omega)
    obtain ⟨A, c, rfl⟩ := h.sl
    clear h hb hask hq
    go_enter Try.func43, Try.ntmps43
    go_wp2_with (first | (go_at_call 59; refine HA.out.mono ?_; rintro e w1 ⟨rfl, g1⟩) | (go_at_call 76; refine (HS.out _ g1).mono ?_; rintro e w2 ⟨rfl, g2⟩))
    go_ret2
    exact ⟨rfl, g1.trans g2⟩
end Go.Proofs
