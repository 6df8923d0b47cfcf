/-
  Chapter 4: the farthest corner, the model (spec.FarthestCorner).
-/
import Derived.Test.YtkhjjafeoijaaaaAvFm
namespace Go.Proofs
open Go.RowKit Av Gm Go.Maps
set_option linter.unusedVariables false
set_option linter.unusedSimpArgs false
theorem own_twoF (w : World) (B : Nat) (h : B ≤ w.heap.size) (x y : Int) : OwnI (w.alloc (.cells #[.int .i64 x, .int .i64 y] 3)) B (.slice (some ⟨w.heap.size, 0, none⟩) 2 2) [x, y] :=
  ⟨rfl, .inr ⟨w.heap.size, 2, #[.int .i64 x, .int .i64 y], rfl, h, heap_alloc_new _ _, Nat.le_refl _, by decide, rfl, rfl⟩⟩
theorem fc_no {W H : Int} {ps : List Blk} {xs : List Int} (h : fcB W H ps xs = false) : fcL W H ps xs = [] ∧ fcD W H ps xs = 0 := by
  unfold fcL fcD
  rw [h]
  exact ⟨rfl, rfl⟩
set_option maxRecDepth 100000 in
set_option maxHeartbeats 3200000 in
theorem Try.sFarthestCorner (w : World) (W H : Int) (B : Nat) (a : Value) (ps : List Blk) (Ba : Nat) (la : Value) (xs : List Int) (L : List Int) (D : Int) (b : Bool) (hL : fcL W H ps xs = L) (hD : fcD W H ps xs = D) (hb : fcB W H ps xs = b) (hl : ps.length ≤ 1048576) (h : OwnB w B a ps) (hla : OwnI w Ba la xs) :
    Calls Try.prog 32 #[.agg #[.int .i64 W, .int .i64 H, a], la] w fun e w' => ∃ v, e = .returned (.tuple #[v, .int .i64 D, .bool b]) ∧ OwnI w' w.heap.size v L ∧ Below w.heap.size w w' := by
  have mixed : Try.prog.follows .mixedOrders = true := by kernel_rfl
  obtain ⟨A, c, rfl, h⟩ := OwnE.eta h
  obtain ⟨b1, h1⟩ : ∃ b1, okB W H ps = b1 := ⟨_, rfl⟩
  obtain ⟨b2, h2⟩ : ∃ b1, isC W H xs = b1 := ⟨_, rfl⟩
  have HA := Lib.hid (fun (X : World) (g : Gr w X) => Try.avGood X W H B _ ps b1 h1 hl (h.gr g))
  have HC := Lib.hid (fun (X : World) (g : Gr w X) hW hH => Try.avCorner X W H A ps.length c Ba la xs hW hH b2 h2 (hla.gr g))
  have hcb : fcB W H ps xs = (b1 && b2) := by unfold fcB; rw [h1, h2]
  rw [hb] at hcb
  cases b1
  · have hcb' : b = false := hcb
    clear hcb
    subst hcb'
    obtain ⟨e1, e2⟩ := fc_no hb
    rw [e1] at hL
    rw [e2] at hD
    subst hL hD
    obtain ⟨A2, c2, rfl, _⟩ := hla.eta
    clear h hla h1 h2 e1 e2 hb
    go_enter Try.func32, Try.ntmps32
    go_wp2_with (first | (go_at_call 47; refine (HA.out _ (by repeat (first | exact Gr.refl _ | refine Gr.alloc ?_ _ | refine Gr.trans ?_ (by assumption) | refine Gr.drew ?_ | refine Gr.drewN ?_ _ | refine Gr.grow ?_ _ | refine Gr.setCell ?_ (by (try simp); (try omega)) _))).mono ?_; rintro e w1 ⟨rfl, hbW⟩; have hcW := (bcell hbW.below).1; have hfW := (bcell hbW.below).2; (try have hzW : w.heap.size < w1.heap.size := by have hq := hbW.below.size; (try simp at hq); omega); (try have hyW : w.heap.size + 1 < w1.heap.size := by have hq := hbW.below.size; (try simp at hq); omega); (try have hxW : w.heap.size + 2 < w1.heap.size := by have hq := hbW.below.size; (try simp at hq); omega)))
    go_ret3
    exact ⟨_, rfl, OwnI.nil2 _ _, Gr.below (by repeat (first | exact Gr.refl _ | refine Gr.alloc ?_ _ | refine Gr.trans ?_ (by assumption) | refine Gr.drew ?_ | refine Gr.drewN ?_ _ | refine Gr.grow ?_ _ | refine Gr.setCell ?_ (by (try simp); (try omega)) _))⟩
  · obtain ⟨o1, o2, o3, o4, _, _, o7⟩ := of_decide_eq_true h1
    cases b2
    · have hcb' : b = false := hcb
      clear hcb
      subst hcb'
      obtain ⟨e1, e2⟩ := fc_no hb
      rw [e1] at hL
      rw [e2] at hD
      subst hL hD
      obtain ⟨A2, c2, rfl, _⟩ := hla.eta
      clear h hla h1 h2 e1 e2 hb
      go_enter Try.func32, Try.ntmps32
      go_wp2_with (first | (go_at_call 47; refine (HA.out _ (by repeat (first | exact Gr.refl _ | refine Gr.alloc ?_ _ | refine Gr.trans ?_ (by assumption) | refine Gr.drew ?_ | refine Gr.drewN ?_ _ | refine Gr.grow ?_ _ | refine Gr.setCell ?_ (by (try simp); (try omega)) _))).mono ?_; rintro e w1 ⟨rfl, hbW⟩; have hcW := (bcell hbW.below).1; have hfW := (bcell hbW.below).2; (try have hzW : w.heap.size < w1.heap.size := by have hq := hbW.below.size; (try simp at hq); omega); (try have hyW : w.heap.size + 1 < w1.heap.size := by have hq := hbW.below.size; (try simp at hq); omega); (try have hxW : w.heap.size + 2 < w1.heap.size := by have hq := hbW.below.size; (try simp at hq); omega)) | (go_at_call 61; refine (HC.out _ (by repeat (first | exact Gr.refl _ | refine Gr.alloc ?_ _ | refine Gr.trans ?_ (by assumption) | refine Gr.drew ?_ | refine Gr.drewN ?_ _ | refine Gr.grow ?_ _ | refine Gr.setCell ?_ (by (try simp); (try omega)) _)) ⟨o1, o2⟩ ⟨o3, o4⟩).mono ?_; rintro e w1 ⟨rfl, hbW⟩; have hcW := (bcell hbW.below).1; have hfW := (bcell hbW.below).2; (try have hzW : w.heap.size < w1.heap.size := by have hq := hbW.below.size; (try simp at hq); omega); (try have hyW : w.heap.size + 1 < w1.heap.size := by have hq := hbW.below.size; (try simp at hq); omega); (try have hxW : w.heap.size + 2 < w1.heap.size := by have hq := hbW.below.size; (try simp at hq); omega)))
      go_ret3
      exact ⟨_, rfl, OwnI.nil2 _ _, Gr.below (by repeat (first | exact Gr.refl _ | refine Gr.alloc ?_ _ | refine Gr.trans ?_ (by assumption) | refine Gr.drew ?_ | refine Gr.drewN ?_ _ | refine Gr.grow ?_ _ | refine Gr.setCell ?_ (by (try simp); (try omega)) _))⟩
    · have hcb' : b = true := hcb
      clear hcb
      subst hcb'
      obtain ⟨p1, p2⟩ := isC_vtx h2 ⟨o1, o2⟩ ⟨o3, o4⟩
      unfold fcL at hL
      unfold fcD at hD
      rw [hb, if_pos rfl] at hL hD
      unfold fcR vtx at hL hD
      generalize (xs.getD 0 0 * H + xs.getD 1 0).toNat = s0 at *
      obtain ⟨Wn, rfl⟩ : ∃ Wn : Nat, W = Wn := ⟨W.toNat, by omega⟩
      obtain ⟨Hn, rfl⟩ : ∃ Hn : Nat, H = Hn := ⟨H.toNat, by omega⟩
      simp only [Int.toNat_natCast] at *
      subst p2
      obtain ⟨R, hR⟩ : ∃ R, bsF (fin (nbC Wn Hn ps) (Wn * Hn) s0).far (Wn * Hn) = R := ⟨_, rfl⟩
      rw [hR] at hL hD
      subst hL hD
      have HF := Lib.hid (fun (X : World) (g : Below w.heap.size w X) => Try.avFarthest X Wn Hn B _ ps s0 Ba la (by omega) (by omega) p1 hl (OwnE.below h g (Nat.le_refl _)) (OwnI.below hla g (Nat.le_refl _)) R hR)
      have hRl : R.1 < Wn * Hn := by rw [← hR]; exact bsF_lt _ _ (by omega)
      have hN : Wn * Hn ≤ 64 := Nat.mul_le_mul (show Wn ≤ 8 by omega) (show Hn ≤ 8 by omega)
      obtain ⟨r1, r2⟩ := R
      simp only at HF hRl ⊢
      have t1 : ((r1 : Int)).tdiv (Hn : Int) = (crn Hn r1).1 := by unfold crn; rw [Int.tdiv_eq_ediv_of_nonneg (by omega)]; push_cast; rfl
      have t2 : ((r1 : Int)).tmod (Hn : Int) = (crn Hn r1).2 := by unfold crn; rw [Int.tmod_eq_emod_of_nonneg (by omega)]; push_cast; rfl
      have b1' : 0 ≤ (crn Hn r1).1 ∧ (crn Hn r1).1 ≤ 64 := ⟨Int.natCast_nonneg _, show ((r1 / Hn : Nat) : Int) ≤ ((64 : Nat) : Int) from Int.ofNat_le.2 (Nat.le_trans (Nat.div_le_self r1 Hn) (by omega))⟩
      have b2' : 0 ≤ (crn Hn r1).2 ∧ (crn Hn r1).2 ≤ 64 := ⟨Int.natCast_nonneg _, show ((r1 % Hn : Nat) : Int) ≤ ((64 : Nat) : Int) from Int.ofNat_le.2 (Nat.le_trans (Nat.mod_le r1 Hn) (by omega))⟩
      generalize (crn Hn r1).1 = x1 at *
      generalize (crn Hn r1).2 = y1 at *
      have ww1 : IntKind.i64.wrap x1 = x1 := IntWalk.i64_in _ (by omega)
      have ww2 : IntKind.i64.wrap y1 = y1 := IntWalk.i64_in _ (by omega)
      have hz : ((Hn : Int) == 0) = false := by simp; omega
      have hz2 : ¬ ((Hn : Int) = 0) := by omega
      have hz3 : ¬ (Hn = 0) := by omega
      clear h hla h1 h2 hb hR p1 hRl b1' b2'
      go_enter Try.func32, Try.ntmps32
      go_wp2_with (first | (go_at_call 47; refine (HA.out _ (by repeat (first | exact Gr.refl _ | refine Gr.alloc ?_ _ | refine Gr.trans ?_ (by assumption) | refine Gr.drew ?_ | refine Gr.drewN ?_ _ | refine Gr.grow ?_ _ | refine Gr.setCell ?_ (by (try simp); (try omega)) _))).mono ?_; rintro e w1 ⟨rfl, hbW⟩; have hcW := (bcell hbW.below).1; have hfW := (bcell hbW.below).2; (try have hzW : w.heap.size < w1.heap.size := by have hq := hbW.below.size; (try simp at hq); omega); (try have hyW : w.heap.size + 1 < w1.heap.size := by have hq := hbW.below.size; (try simp at hq); omega); (try have hxW : w.heap.size + 2 < w1.heap.size := by have hq := hbW.below.size; (try simp at hq); omega)) | (go_at_call 61; refine (HC.out _ (by repeat (first | exact Gr.refl _ | refine Gr.alloc ?_ _ | refine Gr.trans ?_ (by assumption) | refine Gr.drew ?_ | refine Gr.drewN ?_ _ | refine Gr.grow ?_ _ | refine Gr.setCell ?_ (by (try simp); (try omega)) _)) ⟨o1, o2⟩ ⟨o3, o4⟩).mono ?_; rintro e w1 ⟨rfl, hbW⟩; have hcW := (bcell hbW.below).1; have hfW := (bcell hbW.below).2; (try have hzW : w.heap.size < w1.heap.size := by have hq := hbW.below.size; (try simp at hq); omega); (try have hyW : w.heap.size + 1 < w1.heap.size := by have hq := hbW.below.size; (try simp at hq); omega); (try have hxW : w.heap.size + 2 < w1.heap.size := by have hq := hbW.below.size; (try simp at hq); omega)) | (go_at_call 62; refine (HF.out _ (Gr.below (show Gr w _ from (by repeat (first | exact Gr.refl _ | refine Gr.alloc ?_ _ | refine Gr.trans ?_ (by assumption) | refine Gr.drew ?_ | refine Gr.drewN ?_ _ | refine Gr.grow ?_ _ | refine Gr.setCell ?_ (by (try simp); (try omega)) _))))).mono ?_; rintro e w3 ⟨rfl, hb3⟩))
      have c1 : w3.cell? ⟨w.heap.size, 1, none⟩ = some (.int .i64 Hn) := cell_k2 hb3 (Gr.keep0 (show Gr (w.alloc (.cells #[.int .i64 Wn, .int .i64 Hn, .slice A ps.length c] 42)) _ from (by repeat (first | exact Gr.refl _ | refine Gr.alloc ?_ _ | refine Gr.trans ?_ (by assumption) | refine Gr.drew ?_ | refine Gr.drewN ?_ _ | refine Gr.grow ?_ _ | refine Gr.setCell ?_ (by (try simp); (try omega)) _))) (by simp [go_sem]))
      have HB3 := Lib.hid (Below.trans (show Below w.heap.size w _ from Gr.below (by repeat (first | exact Gr.refl _ | refine Gr.alloc ?_ _ | refine Gr.trans ?_ (by assumption) | refine Gr.drew ?_ | refine Gr.drewN ?_ _ | refine Gr.grow ?_ _ | refine Gr.setCell ?_ (by (try simp); (try omega)) _))) (hb3.mono (show Gr w _ from (by repeat (first | exact Gr.refl _ | refine Gr.alloc ?_ _ | refine Gr.trans ?_ (by assumption) | refine Gr.drew ?_ | refine Gr.drewN ?_ _ | refine Gr.grow ?_ _ | refine Gr.setCell ?_ (by (try simp); (try omega)) _))).below.size))
      go_region_held3 (fun W' => W'.cell? ⟨w.heap.size, 1, none⟩ = some (.int .i64 Hn))
        (first | assumption | (refine Gr.keep0 (Gr.drew (Gr.refl _)) ?_; assumption; done) | (refine Gr.keep0 (Gr.alloc (Gr.refl _) _) ?_; assumption; done) | (refine Gr.keep0 (Gr.drew (Gr.alloc (Gr.refl _) _)) ?_; assumption; done) | (refine Gr.keep0 (Gr.alloc (Gr.drew (Gr.refl _)) _) ?_; assumption; done))
        (fail)
      all_goals
        go_wp2
        go_ret3
        exact ⟨_, rfl, OwnI.gr (own_twoF _ _ HB3.out.size _ _) (Gr.drew (Gr.refl _)), HB3.out.trans ((Gr.drew (Gr.alloc (Gr.refl _) _)).below.mono HB3.out.size)⟩
end Go.Proofs
