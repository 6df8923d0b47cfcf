/-
  Contracts of chapter 5: boxes of people, the model's nearest box, sums of walks to boxes.
-/
import Derived.Test.YtkhjjafeoijaaaaMdF
import Derived.Test.YtkhjjafeoijaaaaMdB
namespace Go.Proofs
open Go.RowKit
set_option linter.unusedVariables false
set_option linter.unusedSimpArgs false
def BoxesP (xs bs : List Int) : Prop := GoodP xs ∧ (1 ≤ bs.length ∧ bs.length ≤ 5) ∧ RisI bs 0 ((xs.length : Int) - 1)
theorem BoxesP.bd {xs bs : List Int} (h : BoxesP xs bs) : ∀ j, j < bs.length → -200 ≤ gx bs j ∧ gx bs j ≤ 200 := fun j hj => by
  have := (h.2.2 j hj).1
  have := h.1.1
  show -200 ≤ bs.getD j 0 ∧ bs.getD j 0 ≤ 200
  omega
theorem not_true {b : Bool} {p : Prop} (hb : b = true ↔ p) (h : ¬ p) : b = false := by
  cases q : b
  · rfl
  · exact absurd (hb.1 q) h
set_option maxHeartbeats 800000 in
theorem Try.mdBoxes (w : World) (B B2 : Nat) (v v2 : Value) (xs bs : List Int) (b : Bool) (hb : b = true ↔ BoxesP xs bs) (hl : xs.length ≤ 1048576) (hl2 : bs.length ≤ 1048576) (h : OwnI w B v xs) (h2 : OwnI w B2 v2 bs) :
    Calls Try.prog 34 #[v, v2] w fun e w' => e = .returned (.bool b) ∧ Gr w w' := by
  obtain ⟨A, c, rfl, h⟩ := h.eta
  obtain ⟨A2, c2, rfl, h2⟩ := h2.eta
  by_cases hg : GoodP xs
  · have HG := Lib.hid (Try.mdGood w B _ xs true ⟨fun _ => hg, fun _ => rfl⟩ hl h)
    cases hi : inn (bs.length : Int) 1 5
    · have HF := Lib.hid (not_true hb (fun q => by have := q.2.1; have := of_decide_eq_false hi; omega))
      have HI := Lib.hid hi
      clear h h2 hb hg hi
      go_enter Try.func34, Try.ntmps34
      go_wp2_with (first | (go_at_call 42; refine (HG.out).mono ?_; rintro e w1 ⟨rfl, hbW⟩; have hcW := (bcell hbW.below).1; have hfW := (bcell hbW.below).2; (try have hzW : w.heap.size < w1.heap.size := by have hq := hbW.below.size; (try simp at hq); omega); (try have hyW : w.heap.size + 1 < w1.heap.size := by have hq := hbW.below.size; (try simp at hq); omega); (try have hxW : w.heap.size + 2 < w1.heap.size := by have hq := hbW.below.size; (try simp at hq); omega)) | (go_at_call 67; refine (Try.l1In _ _ _ _ HI.out _).mono ?_; rintro e w1 ⟨rfl, rfl⟩))
      go_ret
      exact ⟨by rw [HF.out]; rfl, by repeat (first | exact Gr.refl _ | refine Gr.alloc ?_ _ | refine Gr.trans ?_ (by assumption) | refine Gr.drew ?_ | refine Gr.drewN ?_ _ | refine Gr.grow ?_ _ | refine Gr.setCell ?_ (by (try simp); (try omega)) _)⟩
    · obtain ⟨r, hr⟩ := exb (RisI bs 0 ((xs.length : Int) - 1))
      have hi' := inn_e hi
      have hxl := hg.1
      have HR := Lib.hid (fun w1 (g : Gr w w1) => Try.l1Rising w1 B2 _ bs 0 ((xs.length : Int) - 1) r hr hl2 (h2.gr g))
      have HI := Lib.hid hi
      have HE := Lib.hid (show b = r by
        cases q : r
        · exact not_true hb (fun c => by have := hr.2 c.2.2; rw [q] at this; cases this)
        · exact hb.2 ⟨hg, by omega, hr.1 q⟩)
      clear h h2 hb hg hi hr
      go_enter Try.func34, Try.ntmps34
      go_wp2_with (first | (go_at_call 42; refine (HG.out).mono ?_; rintro e w1 ⟨rfl, hbW⟩; have hcW := (bcell hbW.below).1; have hfW := (bcell hbW.below).2; (try have hzW : w.heap.size < w1.heap.size := by have hq := hbW.below.size; (try simp at hq); omega); (try have hyW : w.heap.size + 1 < w1.heap.size := by have hq := hbW.below.size; (try simp at hq); omega); (try have hxW : w.heap.size + 2 < w1.heap.size := by have hq := hbW.below.size; (try simp at hq); omega)) | (go_at_call 67; refine (Try.l1In _ _ _ _ HI.out _).mono ?_; rintro e w1 ⟨rfl, rfl⟩) | (go_at_call 68; refine (HR.out _ (by assumption)).mono ?_; rintro e w1 ⟨rfl, hbW⟩; have hcW := (bcell hbW.below).1; have hfW := (bcell hbW.below).2; (try have hzW : w.heap.size < w1.heap.size := by have hq := hbW.below.size; (try simp at hq); omega); (try have hyW : w.heap.size + 1 < w1.heap.size := by have hq := hbW.below.size; (try simp at hq); omega); (try have hxW : w.heap.size + 2 < w1.heap.size := by have hq := hbW.below.size; (try simp at hq); omega)))
      go_ret
      exact ⟨by rw [HE.out]; rfl, by repeat (first | exact Gr.refl _ | refine Gr.alloc ?_ _ | refine Gr.trans ?_ (by assumption) | refine Gr.drew ?_ | refine Gr.drewN ?_ _ | refine Gr.grow ?_ _ | refine Gr.setCell ?_ (by (try simp); (try omega)) _)⟩
  · have HG := Lib.hid (Try.mdGood w B _ xs false ⟨fun q => (by cases q), fun q => absurd q hg⟩ hl h)
    have HF := Lib.hid (not_true hb (fun q => hg q.1))
    clear h h2 hb hg
    go_enter Try.func34, Try.ntmps34
    go_wp2_with (first | (go_at_call 42; refine (HG.out).mono ?_; rintro e w1 ⟨rfl, hbW⟩; have hcW := (bcell hbW.below).1; have hfW := (bcell hbW.below).2; (try have hzW : w.heap.size < w1.heap.size := by have hq := hbW.below.size; (try simp at hq); omega); (try have hyW : w.heap.size + 1 < w1.heap.size := by have hq := hbW.below.size; (try simp at hq); omega); (try have hxW : w.heap.size + 2 < w1.heap.size := by have hq := hbW.below.size; (try simp at hq); omega)))
    go_ret
    exact ⟨by rw [HF.out]; rfl, by repeat (first | exact Gr.refl _ | refine Gr.alloc ?_ _ | refine Gr.trans ?_ (by assumption) | refine Gr.drew ?_ | refine Gr.drewN ?_ _ | refine Gr.grow ?_ _ | refine Gr.setCell ?_ (by (try simp); (try omega)) _)⟩
def NRelS (bs : List Int) (h : Int) (w : World) (m i : Value) (wr : World) : Prop := Gr w wr ∧ ∃ k : Nat, k ≤ bs.length ∧ i = .int .i64 k ∧ m = .int .i64 (nearN bs h k)
set_option maxHeartbeats 1600000 in
theorem Try.mdNear (w : World) (v : Value) (bs : List Int) (h : Int) (hr : BoxRow w v bs) (hh : -200 ≤ h ∧ h ≤ 200) :
    Calls Try.prog 36 #[v, .int .i64 h] w fun e w' => e = .returned (.int .i64 (near bs h)) ∧ Gr w w' := by
  obtain ⟨gb, c, rfl, h0, h1, h2, h3⟩ := hr
  have HC := Lib.hid h2
  have HB := Lib.hid h3
  have HE := Lib.hid (show near bs h = nearN bs h bs.length from rfl)
  have c0 := h2 0 h0
  have zp : (0 : Int) < (bs.length : Int) := by omega
  have HN1 := Lib.hid (show nearN bs h 0 = gx bs 0 from rfl)
  obtain ⟨R, hR⟩ : ∃ R, near bs h = R := ⟨_, rfl⟩
  rw [hR] at HE ⊢
  clear h2 h3 hR
  obtain ⟨y0, hy0⟩ : ∃ y, gx bs 0 = y := ⟨_, rfl⟩
  rw [hy0] at c0 HN1
  clear hy0
  go_enter Try.func36, Try.ntmps36
  go_wp2
  go_loopw [5, 13] (fun m i wr => NRelS bs h w m i wr) (fun _ i _ => (bs.length - intOf i).toNat)
  case atStart => exact ⟨Gr.refl _, 0, Nat.zero_le _, rfl, by rw [HN1.out]⟩
  case round =>
    obtain ⟨gr, k, hk, rfl, rfl⟩ := hrel
    have HG := Lib.hid gr
    by_cases hlt : k < bs.length
    · have e1 := gr.keep2 (HC.out k hlt)
      have z0 : (0 : Int) ≤ (k : Int) := by omega
      have z1 : (k : Int) < (bs.length : Int) := by omega
      obtain ⟨j, hj, hjn⟩ := nearN_in bs h k hk (by omega)
      have bm := HB.out j hj
      rw [← hjn] at bm
      have bk := HB.out k hlt
      have hn : nearN bs h (k + 1) = if avv (gx bs k - h) < avv (nearN bs h k - h) then gx bs k else nearN bs h k := rfl
      clear hjn hj gr
      generalize gx bs k = x at *
      generalize nearN bs h k = m at *
      have w1 : IntKind.i64.wrap (x - h) = x - h := IntWalk.i64_in _ (by omega)
      have w2 : IntKind.i64.wrap (m - h) = m - h := IntWalk.i64_in _ (by omega)
      have HA1 := Lib.hid (fun W => Try.l1AbsM (x - h) W (by omega) (by omega))
      have HA2 := Lib.hid (fun W => Try.l1AbsM (m - h) W (by omega) (by omega))
      by_cases hl : avv (x - h) < avv (m - h)
      · rw [if_pos hl] at hn
        have HN := Lib.hid hn
        clear hn
        generalize avv (x - h) = p at *
        generalize avv (m - h) = q at *
        go_wp2_with (first | (go_at_call_of 35 (Value.int .i64 (x - h)); refine (HA1.out _).mono ?_; rintro e w1 ⟨rfl, rfl⟩) | (go_at_call_of 35 (Value.int .i64 (m - h)); refine (HA2.out _).mono ?_; rintro e w1 ⟨rfl, rfl⟩))
        go_roundw
        case rel => exact ⟨HG.out, k + 1, by omega, by go_num, by rw [HN.out]⟩
        case measure => simp [intOf]; omega
      · rw [if_neg hl] at hn
        have HN := Lib.hid hn
        clear hn
        generalize avv (x - h) = p at *
        generalize avv (m - h) = q at *
        go_wp2_with (first | (go_at_call_of 35 (Value.int .i64 (x - h)); refine (HA1.out _).mono ?_; rintro e w1 ⟨rfl, rfl⟩) | (go_at_call_of 35 (Value.int .i64 (m - h)); refine (HA2.out _).mono ?_; rintro e w1 ⟨rfl, rfl⟩))
        go_roundw
        case rel => exact ⟨HG.out, k + 1, by omega, by go_num, by rw [HN.out]⟩
        case measure => simp [intOf]; omega
    · obtain rfl : k = bs.length := by omega
      rw [← HE.out]
      clear gr
      go_wp2
      go_ret
      exact ⟨rfl, HG.out⟩
end Go.Proofs
