/-
  Contracts of chapter 5, the program: steps between houses, the nearest box (slices.MinFunc with its closure), people that are good (slices.Min, slices.Max).
-/
import Derived.Test.YtkhjjafeoijaaaaMdMath
import Derived.Test.YtkhjjafeoijaaaaShelf
namespace Go.Proofs
open Go.RowKit
set_option linter.unusedVariables false
set_option linter.unusedSimpArgs false
set_option maxHeartbeats 400000 in
theorem Try.stepsApart (a b : Int) (w : World) (h : -1000000 ≤ a ∧ a ≤ 1000000) (g : -1000000 ≤ b ∧ b ≤ 1000000) :
    Calls Try.prog 77 #[.int .i64 a, .int .i64 b] w fun e w' => e = .returned (.int .i64 (avv (a - b))) ∧ w = w' := by
  go_enter Try.func77, Try.ntmps77
  go_wp2
  all_goals
    go_ret
    exact ⟨ri (by unfold avv; (try simp only [Int.max_def, Int.min_def]); (repeat' split) <;> omega), rfl⟩
/-- a row of boxes that can be read -/
def BoxRow (w : World) (v : Value) (bs : List Int) : Prop := ∃ g c, v = .slice (some ⟨g, 0, none⟩) bs.length c ∧ 0 < bs.length ∧ bs.length ≤ 60 ∧ (∀ j, j < bs.length → w.cell? ⟨g, j, none⟩ = some (.int .i64 (gx bs j))) ∧ ∀ j, j < bs.length → -200 ≤ gx bs j ∧ gx bs j ≤ 200
theorem BoxRow.gr {w w' : World} {v : Value} {bs : List Int} (h : BoxRow w v bs) (g : Gr w w') : BoxRow w' v bs := by
  obtain ⟨a, c, e, h0, h1, h2, h3⟩ := h
  exact ⟨a, c, e, h0, h1, fun j hj => g.keep2 (h2 j hj), h3⟩
theorem BoxRow.below {w w' : World} {v : Value} {bs : List Int} (h : BoxRow w v bs) (g : Below w.heap.size w w') : BoxRow w' v bs := by
  obtain ⟨a, c, e, h0, h1, h2, h3⟩ := h
  exact ⟨a, c, e, h0, h1, fun j hj => (g.cell (World.block_lt_of_cell? _ _ (h2 j hj))).trans (h2 j hj), h3⟩
theorem OwnI.boxes {w : World} {B : Nat} {v : Value} {bs : List Int} (h : OwnI w B v bs) (h0 : 0 < bs.length) (h1 : bs.length ≤ 60) (h2 : ∀ j, j < bs.length → -200 ≤ gx bs j ∧ gx bs j ≤ 200) : BoxRow w v bs := by
  rcases h.view with ⟨rfl, _⟩ | ⟨_, g, c, rfl, _, _, _, hc, _⟩
  · simp at h0
  · exact ⟨g, c, rfl, h0, h1, hc, h2⟩
def NRel (bs : List Int) (h : Int) (w : World) (m i : Value) (wr : World) : Prop := Gr w wr ∧ ∃ k : Nat, 1 ≤ k ∧ k ≤ bs.length ∧ i = .int .i64 k ∧ m = .int .i64 (nearN bs h k)
set_option maxHeartbeats 800000 in
/-- slices.MinFunc with a closure that compares by the steps from a house. -/
theorem Try.minNear (g : Nat) (cb : Array Value) (bs : List Int) (h : Int) (w : World) (v : Value) (hr : BoxRow w v bs)
    (eg : ∀ args w, (callFunc g args).run Try.prog w = .ok (.enter g args) w)
    (hf : ∀ (W : World) (x y : Int), Gr w W → (-200 ≤ x ∧ x ≤ 200) → (-200 ≤ y ∧ y ≤ 200) → Calls Try.prog g (#[.int .i64 x, .int .i64 y] ++ cb) W fun e w' => e = .returned (.int .i64 (Lib.compareInt (avv (x - h)) (avv (y - h)))) ∧ Gr W w') :
    Calls Try.prog 74 #[v, .func (.func g) #[] cb] w fun e w' => e = .returned (.int .i64 (near bs h)) ∧ Gr w w' := by
  obtain ⟨gb, c, rfl, h0, h1, h2, h3⟩ := hr
  have HF := Lib.hid hf
  have HC := Lib.hid h2
  have HB := Lib.hid h3
  have HE := Lib.hid (show near bs h = nearN bs h bs.length from rfl)
  have c0 := h2 0 h0
  have n1 : ¬ (bs.length : Int) < 1 := by omega
  have HN1 := Lib.hid (show nearN bs h 1 = gx bs 0 by simp [nearN])
  obtain ⟨R, hR⟩ : ∃ R, near bs h = R := ⟨_, rfl⟩
  rw [hR] at HE ⊢
  clear hf h2 h3 hR
  obtain ⟨y0, hy0⟩ : ∃ y, gx bs 0 = y := ⟨_, rfl⟩
  rw [hy0] at c0 HN1
  clear hy0
  go_enter Try.func74, Try.ntmps74
  go_wp2
  go_loopw [5, 6] (fun m i wr => NRel bs h w m i wr) (fun _ i _ => (bs.length - intOf i).toNat)
  case atStart => exact ⟨Gr.refl _, 1, Nat.le_refl _, h0, rfl, by rw [HN1.out]⟩
  case round =>
    obtain ⟨gr, k, hk1, hk, rfl, rfl⟩ := hrel
    have HG := Lib.hid gr
    by_cases hlt : k < bs.length
    · have e1 := gr.keep2 (HC.out k hlt)
      have z0 : (0 : Int) ≤ (k : Int) := by omega
      have z1 : (k : Int) < (bs.length : Int) := by omega
      obtain ⟨j, hj, hjn⟩ := nearN_in bs h k hk (by omega)
      have bm := HB.out j hj
      rw [← hjn] at bm
      have bk := HB.out k hlt
      have hn : nearN bs h (k + 1) = if avv (gx bs k - h) < avv (nearN bs h k - h) then gx bs k else nearN bs h k := rfl
      clear hjn hj
      generalize gx bs k = x at *
      generalize nearN bs h k = m at *
      have hc := HF.out wr x m gr bk bm
      clear gr
      by_cases hl : avv (x - h) < avv (m - h)
      · rw [show Lib.compareInt (avv (x - h)) (avv (m - h)) = -1 by simp [Lib.compareInt, hl]] at hc
        rw [if_pos hl] at hn
        have HK := Lib.hid hc
        have HN := Lib.hid hn
        clear hc hn hl
        go_wp2_with (go_at_fn g; refine HK.out.mono ?_; rintro e w2 ⟨rfl, g2⟩; have e2 := g2.keep2 e1)
        go_roundw
        case rel => exact ⟨HG.out.trans g2, k + 1, by omega, by omega, by go_num, by rw [HN.out]⟩
        case measure => simp [intOf]; omega
      · obtain ⟨r, hr, hr2⟩ : ∃ r, Lib.compareInt (avv (x - h)) (avv (m - h)) = r ∧ ¬ r < 0 := ⟨_, rfl, by simp only [Lib.compareInt, if_neg hl]; split <;> omega⟩
        rw [hr] at hc
        rw [if_neg hl] at hn
        have HK := Lib.hid hc
        have HN := Lib.hid hn
        clear hc hn hl hr
        go_wp2_with (go_at_fn g; refine HK.out.mono ?_; rintro e w2 ⟨rfl, g2⟩)
        go_roundw
        case rel => exact ⟨HG.out.trans g2, k + 1, by omega, by omega, by go_num, by rw [HN.out]⟩
        case measure => simp [intOf]; omega
    · obtain rfl : k = bs.length := by omega
      rw [← HE.out]
      clear gr
      go_wp2
      go_ret
      exact ⟨rfl, HG.out⟩
set_option maxHeartbeats 800000 in
theorem Try.nearCmp (h x y : Int) (b : Nat) (w : World) (hx : -200 ≤ x ∧ x ≤ 200) (hy : -200 ≤ y ∧ y ≤ 200) (hh : -200 ≤ h ∧ h ≤ 200) (hc : w.cell? ⟨b, 0, none⟩ = some (.int .i64 h)) :
    Calls Try.prog 75 (#[.int .i64 x, .int .i64 y] ++ #[.pointer (some ⟨b, 0, none⟩)]) w fun e w' => e = .returned (.int .i64 (Lib.compareInt (avv (x - h)) (avv (y - h)))) ∧ Gr w w' := by
  have mixed : Try.prog.follows .mixedOrders = true := by kernel_rfl
  have hcg := fun n os => cell_grown (World.block_lt_of_cell? _ _ hc) hc n os
  have HA := Lib.hid (fun W => Try.stepsApart x h W (by omega) (by omega))
  have HB := Lib.hid (fun W => Try.stepsApart y h W (by omega) (by omega))
  have HC := Lib.hid (fun p q W => Try.cmp_Compare_int p q W)
  generalize avv (x - h) = p at *
  generalize avv (y - h) = q at *
  have HC' := Lib.hid (fun W => HC.out p q W)
  generalize Lib.compareInt p q = r at *
  clear hc HC
  go_enter Try.func75, Try.ntmps75
  go_wp2
  (refine wp_region_quiet_grown mixed (by kernel_rfl) ?_; (repeat (first | go_big_quiet_step ((first | (go_at_call_of 77 (Value.int .i64 x); exact Calls.grown_of (same_gr (HA.out _))) | (go_at_call_of 77 (Value.int .i64 y); exact Calls.grown_of (same_gr (HB.out _))) | (go_at_call 76; exact Calls.grown_of (same_gr ((HC'.out _).mono fun _ _ ⟨he, hw⟩ => ⟨he, hw.symm⟩))))) | quiet_step ((first | (go_at_call_of 77 (Value.int .i64 x); exact Calls.grown_of (same_gr (HA.out _))) | (go_at_call_of 77 (Value.int .i64 y); exact Calls.grown_of (same_gr (HB.out _))) | (go_at_call 76; exact Calls.grown_of (same_gr ((HC'.out _).mono fun _ _ ⟨he, hw⟩ => ⟨he, hw.symm⟩))))))); refine wpQuiet_nil ?_; intro _ hw'; obtain ⟨⟨nq, osq⟩, hw''⟩ := hw'; subst hw'')
  go_wp2
  go_ret
  exact ⟨rfl, by repeat (first | exact Gr.refl _ | refine Gr.alloc ?_ _ | refine Gr.trans ?_ (by assumption) | refine Gr.drew ?_ | refine Gr.drewN ?_ _ | refine Gr.grow ?_ _ | refine Gr.setCell ?_ (by (try simp); (try omega)) _)⟩
set_option maxHeartbeats 800000 in
theorem Try.nearestBox (w : World) (v : Value) (bs : List Int) (h : Int) (hr : BoxRow w v bs) (hh : -200 ≤ h ∧ h ≤ 200) :
    Calls Try.prog 39 #[v, .int .i64 h] w fun e w' => e = .returned (.int .i64 (near bs h)) ∧ Gr w w' := by
  have eg : ∀ args w, (callFunc 75 args).run Try.prog w = .ok (.enter 75 args) w := enters_of Try.func75 (by kernel_rfl) rfl
  have hc : (w.alloc (.cells #[.int .i64 h] 3)).cell? ⟨w.heap.size, 0, none⟩ = some (.int .i64 h) := by simp [go_sem]
  have HS := Lib.hid (Try.minNear 75 #[.pointer (some ⟨w.heap.size, 0, none⟩)] bs h _ v (hr.gr (Gr.alloc (Gr.refl _) _)) eg
    (fun W x y g hx hy => Try.nearCmp h x y w.heap.size W hx hy hh (g.keep2 hc)))
  obtain ⟨g, c, rfl, _⟩ := hr
  generalize near bs h = r at *
  clear hc eg
  have hmf : ∀ (fn : Fn) (first cap : Array Value) (w : World), (Instr.makeFunc fn first cap).run Try.prog w = .ok (.func fn first cap) w := fun _ _ _ _ => rfl
  go_enter Try.func39, Try.ntmps39
  go_wp2_with (first | (go_at_call 74; refine HS.out.mono ?_; rintro e w1 ⟨rfl, g1⟩))
  go_ret
  exact ⟨rfl, by repeat (first | exact Gr.refl _ | refine Gr.alloc ?_ _ | refine Gr.trans ?_ (by assumption) | refine Gr.drew ?_ | refine Gr.drewN ?_ _ | refine Gr.grow ?_ _ | refine Gr.setCell ?_ (by (try simp); (try omega)) _)⟩
end Go.Proofs
