/-
  Contracts of chapter 5, the model: a house of people, sums of walks, how many live within a walk.
-/
import Derived.Test.YtkhjjafeoijaaaaMdA
namespace Go.Proofs
open Go.RowKit
set_option linter.unusedVariables false
set_option linter.unusedSimpArgs false
theorem exb (p : Prop) : ∃ b : Bool, b = true ↔ p := ⟨@decide p (Classical.propDecidable p), @decide_eq_true_iff p (Classical.propDecidable p)⟩
set_option maxHeartbeats 800000 in
theorem Try.mdHouse (w : World) (B : Nat) (v : Value) (xs : List Int) (n : Int) (b : Bool) (hb : b = true ↔ HouseP xs n) (hl : xs.length ≤ 1048576) (h : OwnI w B v xs) :
    Calls Try.prog 40 #[v, .int .i64 n] w fun e w' => e = .returned (.bool b) ∧ Gr w w' := by
  obtain ⟨A, c, rfl, h⟩ := h.eta
  by_cases hg : GoodP xs
  · have HG := Lib.hid (Try.mdGood w B _ xs true ⟨fun _ => hg, fun _ => rfl⟩ hl h)
    have HI := Lib.hid (show inn n 0 ((xs.length : Int) - 1) = b by
      cases q : b
      · have : ¬ HouseP xs n := fun c => by have := hb.2 c; rw [q] at this; cases this
        refine inn_f ?_
        by_cases c1 : n < 0
        · exact .inl c1
        · refine .inr ?_
          rcases Int.lt_or_le ((xs.length : Int) - 1) n with c2 | c2
          · exact c2
          · exact absurd ⟨hg, by omega, c2⟩ this
      · obtain ⟨_, h1, h2⟩ := hb.1 q
        exact inn_t h1 h2)
    clear h hb hg
    go_enter Try.func40, Try.ntmps40
    go_wp2_with (first | (go_at_call 42; refine (HG.out).mono ?_; rintro e w1 ⟨rfl, hbW⟩; have hcW := (bcell hbW.below).1; have hfW := (bcell hbW.below).2; (try have hzW : w.heap.size < w1.heap.size := by have hq := hbW.below.size; (try simp at hq); omega); (try have hyW : w.heap.size + 1 < w1.heap.size := by have hq := hbW.below.size; (try simp at hq); omega); (try have hxW : w.heap.size + 2 < w1.heap.size := by have hq := hbW.below.size; (try simp at hq); omega)) | (go_at_call 67; refine (Try.l1In _ _ _ _ HI.out _).mono ?_; rintro e w1 ⟨rfl, rfl⟩))
    go_ret
    exact ⟨rfl, by repeat (first | exact Gr.refl _ | refine Gr.alloc ?_ _ | refine Gr.trans ?_ (by assumption) | refine Gr.drew ?_ | refine Gr.drewN ?_ _ | refine Gr.grow ?_ _ | refine Gr.setCell ?_ (by (try simp); (try omega)) _)⟩
  · have HG := Lib.hid (Try.mdGood w B _ xs false ⟨fun q => (by cases q), fun q => absurd q hg⟩ hl h)
    have HF := Lib.hid (show b = false by
      cases q : b
      · rfl
      · exact absurd (hb.1 q).1 hg)
    clear h hb hg
    go_enter Try.func40, Try.ntmps40
    go_wp2_with (first | (go_at_call 42; refine (HG.out).mono ?_; rintro e w1 ⟨rfl, hbW⟩; have hcW := (bcell hbW.below).1; have hfW := (bcell hbW.below).2; (try have hzW : w.heap.size < w1.heap.size := by have hq := hbW.below.size; (try simp at hq); omega); (try have hyW : w.heap.size + 1 < w1.heap.size := by have hq := hbW.below.size; (try simp at hq); omega); (try have hxW : w.heap.size + 2 < w1.heap.size := by have hq := hbW.below.size; (try simp at hq); omega)))
    go_ret
    exact ⟨by rw [HF.out]; rfl, by repeat (first | exact Gr.refl _ | refine Gr.alloc ?_ _ | refine Gr.trans ?_ (by assumption) | refine Gr.drew ?_ | refine Gr.drewN ?_ _ | refine Gr.grow ?_ _ | refine Gr.setCell ?_ (by (try simp); (try omega)) _)⟩
/-- people's steps to a house, up to the first k -/
def wkf (xs : List Int) (h : Int) (i : Nat) : Int := gx xs i * avv ((i : Int) - h)
theorem wkf_bd {xs : List Int} (hg : GoodP xs) {h : Int} (h0 : 0 ≤ h) (h1 : h ≤ 59) (i : Nat) (hi : i < xs.length) : 0 ≤ wkf xs h i ∧ wkf xs h i ≤ 60000 := by
  have a := hg.bd i
  have c := hg.1.2
  exact mul_bd a.1 a.2 (avv_nn _) (avv_le (K := 60) (by omega) (by omega))
def WRelS (xs : List Int) (h : Int) (w : World) (s i : Value) (wr : World) : Prop := Gr w wr ∧ ∃ k : Nat, k ≤ xs.length ∧ i = .int .i64 k ∧ s = .int .i64 (sumF (wkf xs h) k)
set_option maxRecDepth 100000 in
set_option maxHeartbeats 800000 in
theorem Try.mdWalks (w : World) (B : Nat) (v : Value) (xs : List Int) (n : Int) (hg : GoodP xs) (h0 : 0 ≤ n) (h1 : n ≤ 59) (h : OwnI w B v xs) :
    Calls Try.prog 41 #[v, .int .i64 n] w fun e w' => e = .returned (.int .i64 (walksI xs n)) ∧ Gr w w' := by
  have hl := hg.1.2
  rcases h.view with ⟨rfl, A, c, rfl⟩ | ⟨hpos, g, c, rfl, _, _, _, hc, _⟩
  · exact absurd hg.1.1 (by simp)
  · have HC := Lib.hid hc
    have HX := Lib.hid hg
    have HE := Lib.hid (show walksI xs n = sumF (wkf xs n) xs.length from rfl)
    obtain ⟨R, hR⟩ : ∃ R, walksI xs n = R := ⟨_, rfl⟩
    rw [hR] at HE ⊢
    clear h hc hg hR
    go_enter Try.func41, Try.ntmps41
    go_wp2
    go_loopw [5, 10] (fun s i wr => WRelS xs n w s i wr) (fun _ i _ => (xs.length - intOf i).toNat)
    case atStart => exact ⟨Gr.refl _, 0, Nat.zero_le _, rfl, rfl⟩
    case round =>
      obtain ⟨gr, k, hk, rfl, rfl⟩ := hrel
      have HG := Lib.hid gr
      by_cases hlt : k < xs.length
      · have e1 := gr.keep2 (HC.out k hlt)
        have z0 : (0 : Int) ≤ (k : Int) := by omega
        have z1 : (k : Int) < (xs.length : Int) := by omega
        have hs := sumF_bd (f := wkf xs n) (n := k) (K := 60000) (fun i hi => wkf_bd HX.out h0 h1 i (by omega))
        have hp := wkf_bd HX.out h0 h1 k hlt
        have HN := Lib.hid (sumF_succ (wkf xs n) k)
        have hm : wkf xs n k = xs.getD k 0 * avv ((k : Int) - n) := rfl
        have wd : IntKind.i64.wrap ((k : Int) - n) = (k : Int) - n := IntWalk.i64_in _ (by omega)
        have HA := Lib.hid (fun W => Try.l1AbsM ((k : Int) - n) W (by omega) (by omega))
        obtain ⟨p, hp'⟩ : ∃ p, wkf xs n k = p := ⟨_, rfl⟩
        rw [hp'] at hp hm HN
        generalize avv ((k : Int) - n) = d at HA hm
        generalize xs.getD k 0 = y at e1 hm
        have wm : IntKind.i64.wrap (y * d) = p := by rw [← hm]; exact IntWalk.i64_in _ (by omega)
        clear gr hp' hm
        generalize sumF (wkf xs n) k = s at *
        go_wp2_with (first | (go_at_call 35; refine (HA.out _).mono ?_; rintro e w1 ⟨rfl, rfl⟩))
        go_roundw
        case rel => exact ⟨HG.out, k + 1, by omega, by go_num, by rw [HN.out]⟩
        case measure => simp [intOf]; omega
      · obtain rfl : k = xs.length := by omega
        rw [← HE.out]
        clear gr
        go_wp2
        go_ret
        exact ⟨rfl, HG.out⟩
set_option maxHeartbeats 800000 in
theorem Try.sWalksTo (w : World) (B : Nat) (v : Value) (xs : List Int) (n : Int) (b : Bool) (hb : b = true ↔ HouseP xs n) (hl : xs.length ≤ 1048576) (h : OwnI w B v xs) :
    Calls Try.prog 18 #[v, .int .i64 n] w fun e w' => e = .returned (.tuple #[.int .i64 (if b then walksI xs n else 0), .bool b]) ∧ Gr w w' := by
  have HO := Lib.hid h
  have HH := Lib.hid (Try.mdHouse w B v xs n b hb hl h)
  obtain ⟨A, c, rfl, _⟩ := h.eta
  cases q : b
  · rw [q] at HH
    clear h hb q
    go_enter Try.func18, Try.ntmps18
    go_wp2_with (first | (go_at_call 40; refine (HH.out).mono ?_; rintro e w1 ⟨rfl, hbW⟩; have hcW := (bcell hbW.below).1; have hfW := (bcell hbW.below).2; (try have hzW : w.heap.size < w1.heap.size := by have hq := hbW.below.size; (try simp at hq); omega); (try have hyW : w.heap.size + 1 < w1.heap.size := by have hq := hbW.below.size; (try simp at hq); omega); (try have hxW : w.heap.size + 2 < w1.heap.size := by have hq := hbW.below.size; (try simp at hq); omega)))
    go_ret2
    exact ⟨rfl, by repeat (first | exact Gr.refl _ | refine Gr.alloc ?_ _ | refine Gr.trans ?_ (by assumption) | refine Gr.drew ?_ | refine Gr.drewN ?_ _ | refine Gr.grow ?_ _ | refine Gr.setCell ?_ (by (try simp); (try omega)) _)⟩
  · rw [q] at HH
    obtain ⟨hg, h0, h1⟩ := hb.1 q
    have h2 := hg.1.2
    have HW := Lib.hid (fun w1 (g : Gr w w1) => Try.mdWalks w1 B _ xs n hg h0 (by omega) (HO.out.gr g))
    clear h hb q hg
    go_enter Try.func18, Try.ntmps18
    go_wp2_with (first | (go_at_call 40; refine (HH.out).mono ?_; rintro e w1 ⟨rfl, hbW⟩; have hcW := (bcell hbW.below).1; have hfW := (bcell hbW.below).2; (try have hzW : w.heap.size < w1.heap.size := by have hq := hbW.below.size; (try simp at hq); omega); (try have hyW : w.heap.size + 1 < w1.heap.size := by have hq := hbW.below.size; (try simp at hq); omega); (try have hxW : w.heap.size + 2 < w1.heap.size := by have hq := hbW.below.size; (try simp at hq); omega)) | (go_at_call 41; refine (HW.out _ (by assumption)).mono ?_; rintro e w1 ⟨rfl, hbW⟩; have hcW := (bcell hbW.below).1; have hfW := (bcell hbW.below).2; (try have hzW : w.heap.size < w1.heap.size := by have hq := hbW.below.size; (try simp at hq); omega); (try have hyW : w.heap.size + 1 < w1.heap.size := by have hq := hbW.below.size; (try simp at hq); omega); (try have hxW : w.heap.size + 2 < w1.heap.size := by have hq := hbW.below.size; (try simp at hq); omega)))
    go_ret2
    exact ⟨rfl, by repeat (first | exact Gr.refl _ | refine Gr.alloc ?_ _ | refine Gr.trans ?_ (by assumption) | refine Gr.drew ?_ | refine Gr.drewN ?_ _ | refine Gr.grow ?_ _ | refine Gr.setCell ?_ (by (try simp); (try omega)) _)⟩
end Go.Proofs
