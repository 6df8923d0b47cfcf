/-
  Contracts of chapter 4: a city with a closed block open. Both sides.
-/
import Derived.Test.YtnpkhoiblemodaaBrI
import Derived.Test.YtnpkhoiblemodaaBrF
import Derived.Test.YtnpkhoiblemodaaCtK
namespace Go.Proofs
open Go.RowKit Av
set_option linter.unusedVariables false
set_option linter.unusedSimpArgs false
theorem own_open {α : Type} {T : TypeId} {k : Nat} {enc : α → List Value} {w : World} {B : Nat} {v : Value} {ps : List α} (h : OwnE T k enc w B v ps) : ∃ A c L, v = .slice A L c ∧ OwnE T k enc w B (.slice A L c) ps := by
  obtain ⟨A, c, rfl, h⟩ := OwnE.eta h
  exact ⟨A, c, _, rfl, h⟩
theorem del_len (cl : List Blk) (i : Nat) (h : i < cl.length) : (del cl i).length = cl.length - 1 := by unfold del; simp; omega
set_option maxRecDepth 100000 in
set_option maxHeartbeats 1600000 in
theorem Try.opening (w : World) (W H : Int) (B : Nat) (a : Value) (ps : List Blk) (k : Nat) (hk : k < ps.length) (hl : ps.length ≤ 100) (h : OwnB w B a ps) :
    Calls Try.prog 38 #[.agg #[.int .i64 W, .int .i64 H, a], .int .i64 k] w fun e w' => ∃ v, e = .returned (.agg #[.int .i64 W, .int .i64 H, v]) ∧ OwnB w' w.heap.size v (del ps k) ∧ Below w.heap.size w w' := by
  have mixed : Try.prog.follows .mixedOrders = true := by kernel_rfl
  rcases OwnE.view bcs_len b0 h with ⟨hx, _⟩ | ⟨_, g, c, rfl, hg1, hg2, hg3, hg4, hg5, _⟩
  · rw [hx] at hk; simp at hk
  have hr1 := OwnE.reads bcs_len h rfl 0 k (by omega)
  have hr2 := OwnE.reads bcs_len h rfl (k + 1) (ps.length - (k + 1)) (by omega)
  simp only [List.drop_zero, Nat.zero_mul] at hr1
  have e2 : (ps.drop (k + 1)).take (ps.length - (k + 1)) = ps.drop (k + 1) := List.take_of_length_le (by simp)
  rw [e2] at hr2
  generalize hn : ps.length = n at *
  have z0 : (0 : Int) ≤ (k : Int) := by omega
  have z1 : (k : Int) ≤ (c : Int) := by omega
  have z2 : (k : Int) + 1 ≤ (n : Int) := by omega
  have z3 : (0 : Int) ≤ (k : Int) + 1 := by omega
  have z4 : (n : Int) ≤ (c : Int) := by omega
  unfold maxLen at hg4
  have zc3 : (k : Int) + 1 ≤ (c : Int) := by omega
  have e1 : ((k : Int) + 1).toNat = k + 1 := by omega
  have ws : IntKind.i64.wrap ((k : Int) + 1) = (k : Int) + 1 := IntWalk.i64_in _ (by omega)
  have ws2 : wrap64 ((k : Int) + 1) = (k : Int) + 1 := by unfold wrap64; omega
  have nz2 : k + 1 ≤ n := by omega
  have HQ1 := Lib.hid hr1
  have HQ2 := Lib.hid hr2
  have hlen1 : (ps.take k).length = k := by simp; omega
  have hlen2 : (ps.drop (k + 1)).length = n - (k + 1) := by simp; omega
  have HL := Lib.hid (And.intro hlen1 hlen2)
  have HD := Lib.hid (show del ps k = ps.take k ++ ps.drop (k + 1) from rfl)
  have HDN := Lib.hid (fun (z : c = k + 1) => (List.drop_eq_nil_of_le (show ps.length ≤ k + 1 by omega) : ps.drop (k + 1) = []))
  obtain ⟨wb, hwb⟩ : ∃ wb, (w.alloc (.cells #[.int .i64 W, .int .i64 H, .slice (some ⟨g, 0, none⟩) n c] 30)).alloc (.cells #[.int .i64 0, .int .i64 0, .slice none 0 0] 30) = wb := ⟨_, rfl⟩
  have k0 : wb.cell? ⟨w.heap.size, 0, none⟩ = some (.int .i64 W) := by subst hwb; simp [go_sem]
  have k1 : wb.cell? ⟨w.heap.size, 1, none⟩ = some (.int .i64 H) := by subst hwb; simp [go_sem]
  have k2 : wb.cell? ⟨w.heap.size, 2, none⟩ = some (.slice (some ⟨g, 0, none⟩) n c) := by subst hwb; simp [go_sem]
  have k3 : wb.cell? ⟨w.heap.size + 1, 0, none⟩ = some (.int .i64 0) := by subst hwb; simp [go_sem]
  have k4 : wb.cell? ⟨w.heap.size + 1, 1, none⟩ = some (.int .i64 0) := by subst hwb; simp [go_sem]
  have k5 : wb.cell? ⟨w.heap.size + 1, 2, none⟩ = some (.slice none 0 0) := by subst hwb; simp [go_sem]
  have k6 : wb.frozen? ⟨w.heap.size + 1, 0, none⟩ = false ∧ wb.frozen? ⟨w.heap.size + 1, 1, none⟩ = false ∧ wb.frozen? ⟨w.heap.size + 1, 2, none⟩ = false := by subst hwb; simp [go_sem]
  have szb : wb.heap.size = w.heap.size + 2 := by rw [← hwb]; simp
  have GB : Gr w wb := by rw [← hwb]; exact by repeat (first | exact Gr.refl _ | refine Gr.alloc ?_ _ | refine Gr.trans ?_ (by assumption) | refine Gr.drew ?_ | refine Gr.drewN ?_ _ | refine Gr.grow ?_ _ | refine Gr.setCell ?_ (by (try simp); (try omega)) _)
  have HG := Lib.hid GB
  clear hr1 hr2 hlen1 hlen2 e2 h hg5 GB
  by_cases hce : c = k + 1
  · have HDD := Lib.hid (HDN.out hce)
    subst hce
    obtain rfl : n = k + 1 := by omega
    clear HDN
    have y1 : (k : Int) ≤ (k : Int) + 1 := by omega
    have y2 : k ≤ k + 1 := by omega
    have y4 : (0 : Int) ≤ (k : Int) := by omega
    go_enter Try.func38, Try.ntmps38
    go_wp2_with fail
    clear hwb
    go_region_held3 (fun W' => W'.cell? ⟨w.heap.size, 0, none⟩ = some (.int .i64 W) ∧ W'.cell? ⟨w.heap.size, 1, none⟩ = some (.int .i64 H) ∧ W'.cell? ⟨w.heap.size, 2, none⟩ = some (.slice (some ⟨g, 0, none⟩) (k + 1) (k + 1)))
      (first | exact ⟨k0, k1, k2⟩ | assumption | exact three_k (Gr.drew (Gr.refl _)) ⟨k0, k1, k2⟩ | exact keep3 hB4 ⟨k0, k1, k2⟩ | exact three_k (w := wb) (Gr.alloc (Gr.drew (Gr.refl _)) _) ⟨k0, k1, k2⟩ | exact three_k (w := wb) (Gr.drew (Gr.alloc (Gr.refl _) _)) ⟨k0, k1, k2⟩ | (refine three_s (three_s (three_s (keep3 hB4 ⟨k0, k1, k2⟩) ?_) ?_) ?_ <;> (simp; done)))
      (first | (go_at_call 57; refine (Try.concatB _ (w.heap.size + 2) ⟨g, 0, none⟩ ⟨g, 0, none⟩ k (k + 1) 0 0 (ps.take k) (ps.drop (k + 1)) HL.out.1 (by have := HL.out.2; omega) (by omega) (by omega) (by simp [go_sem, szb]) (by simp [go_sem, szb]) (fun j u hu => Gr.keep0 (HG.out.trans (show Gr wb _ from (by repeat (first | exact Gr.refl _ | refine Gr.alloc ?_ _ | refine Gr.trans ?_ (by assumption) | refine Gr.drew ?_ | refine Gr.drewN ?_ _ | refine Gr.grow ?_ _ | refine Gr.setCell ?_ (by (try simp); (try omega)) _)))) (HQ1.out j u hu)) (fun j u hu => by rw [HDD.out] at hu; simp [ecs] at hu)).mono ?_; rintro e w4 ⟨v4, rfl, ho4, hb4⟩; obtain ⟨A4, c4, L4, rfl, ho4⟩ := own_open ho4; have hB4 : Below wb.heap.size wb w4 := Below.trans (show Gr wb _ from (by repeat (first | exact Gr.refl _ | refine Gr.alloc ?_ _ | refine Gr.trans ?_ (by assumption) | refine Gr.drew ?_ | refine Gr.drewN ?_ _ | refine Gr.grow ?_ _ | refine Gr.setCell ?_ (by (try simp); (try omega)) _))).below (hb4.mono (show Gr wb _ from (by repeat (first | exact Gr.refl _ | refine Gr.alloc ?_ _ | refine Gr.trans ?_ (by assumption) | refine Gr.drew ?_ | refine Gr.drewN ?_ _ | refine Gr.grow ?_ _ | refine Gr.setCell ?_ (by (try simp); (try omega)) _))).below.size); have r3 := cell_k2 hB4 k3; have r4 := cell_k2 hB4 k4; have r5 := cell_k2 hB4 k5; have r6 := ((bcell hB4).2 (w.heap.size + 1) 0 (by omega)).trans k6.1; have r7 := ((bcell hB4).2 (w.heap.size + 1) 1 (by omega)).trans k6.2.1; have r8 := ((bcell hB4).2 (w.heap.size + 1) 2 (by omega)).trans k6.2.2))
    rw [← HD.out] at ho4
    have u1 : ¬ w.heap.size + 1 = w.heap.size := by omega
    have g0 := World.cell?_setCell_same _ _ (.int .i64 W) r3
    have g0' : ((w4.setCell ⟨w.heap.size + 1, 0, none⟩ (.int .i64 W)).setCell ⟨w.heap.size + 1, 1, none⟩ (.int .i64 H)).cell? ⟨w.heap.size + 1, 0, none⟩ = some (.int .i64 W) := by
      rw [World.cell?_setCell_other _ ⟨w.heap.size + 1, 1, none⟩ ⟨w.heap.size + 1, 0, none⟩ _ (by simp)]; exact g0
    have g1' : ((w4.setCell ⟨w.heap.size + 1, 0, none⟩ (.int .i64 W)).setCell ⟨w.heap.size + 1, 1, none⟩ (.int .i64 H)).cell? ⟨w.heap.size + 1, 1, none⟩ = some (.int .i64 H) := World.cell?_setCell_same _ _ (.int .i64 H) (by
      rw [World.cell?_setCell_other _ ⟨w.heap.size + 1, 0, none⟩ ⟨w.heap.size + 1, 1, none⟩ _ (by simp)]; exact r4)
    have g2' : ((w4.setCell ⟨w.heap.size + 1, 0, none⟩ (.int .i64 W)).setCell ⟨w.heap.size + 1, 1, none⟩ (.int .i64 H)).cell? ⟨w.heap.size + 1, 2, none⟩ = some (.slice none 0 0) := by
      rw [World.cell?_setCell_other _ ⟨w.heap.size + 1, 1, none⟩ ⟨w.heap.size + 1, 2, none⟩ _ (by simp), World.cell?_setCell_other _ ⟨w.heap.size + 1, 0, none⟩ ⟨w.heap.size + 1, 2, none⟩ _ (by simp)]; exact r5
    have h0 : (((w4.setCell ⟨w.heap.size + 1, 0, none⟩ (.int .i64 W)).setCell ⟨w.heap.size + 1, 1, none⟩ (.int .i64 H)).setCell ⟨w.heap.size + 1, 2, none⟩ (.slice A4 L4 c4)).cell? ⟨w.heap.size + 1, 0, none⟩ = some (.int .i64 W) := by
      rw [World.cell?_setCell_other _ ⟨w.heap.size + 1, 2, none⟩ ⟨w.heap.size + 1, 0, none⟩ _ (by simp)]; exact g0'
    have h1 : (((w4.setCell ⟨w.heap.size + 1, 0, none⟩ (.int .i64 W)).setCell ⟨w.heap.size + 1, 1, none⟩ (.int .i64 H)).setCell ⟨w.heap.size + 1, 2, none⟩ (.slice A4 L4 c4)).cell? ⟨w.heap.size + 1, 1, none⟩ = some (.int .i64 H) := by
      rw [World.cell?_setCell_other _ ⟨w.heap.size + 1, 2, none⟩ ⟨w.heap.size + 1, 1, none⟩ _ (by simp)]; exact g1'
    have h2 := World.cell?_setCell_same _ _ (.slice A4 L4 c4) g2'
    have hO := OwnE.setOther (OwnE.setOther (OwnE.setOther (ho4.mono (show wb.heap.size ≤ _ from (show Gr wb _ from (by repeat (first | exact Gr.refl _ | refine Gr.alloc ?_ _ | refine Gr.trans ?_ (by assumption) | refine Gr.drew ?_ | refine Gr.drewN ?_ _ | refine Gr.grow ?_ _ | refine Gr.setCell ?_ (by (try simp); (try omega)) _))).below.size)) (a := ⟨w.heap.size + 1, 0, none⟩) (by simp; omega) (.int .i64 W)) (a := ⟨w.heap.size + 1, 1, none⟩) (by simp; omega) (.int .i64 H)) (a := ⟨w.heap.size + 1, 2, none⟩) (by simp; omega) (.slice A4 L4 c4)
    have HO := Lib.hid hO
    have HBB := Lib.hid (Below.trans HG.out.below (hB4.mono HG.out.below.size))
    clear g0 g0' g1' g2' r3 r4 r5 r6 r7 r8 hO ho4 hB4 hb4 k0 k1 k2 k3 k4 k5 k6
    go_wp2
    refine bodyPost_ret (v := .agg #[.int .i64 W, .int .i64 H, .slice A4 L4 c4]) ?_ rfl ⟨_, rfl, HO.out.mono HG.out.below.size, ?_⟩
    · simp [results, Try.results38, go_sem, h0, h1, h2]
    · exact Below.setCell (Below.setCell (Below.setCell HBB.out (by simp) _) (by simp) _) (by simp) _
  · have zc : ¬ (c : Int) = (k : Int) + 1 := by omega
    have zc2 : ¬ c = k + 1 := hce
    go_enter Try.func38, Try.ntmps38
    go_wp2_with fail
    clear hwb
    go_region_held3 (fun W' => W'.cell? ⟨w.heap.size, 0, none⟩ = some (.int .i64 W) ∧ W'.cell? ⟨w.heap.size, 1, none⟩ = some (.int .i64 H) ∧ W'.cell? ⟨w.heap.size, 2, none⟩ = some (.slice (some ⟨g, 0, none⟩) n c))
      (first | exact ⟨k0, k1, k2⟩ | assumption | exact three_k (Gr.drew (Gr.refl _)) ⟨k0, k1, k2⟩ | exact keep3 hB4 ⟨k0, k1, k2⟩ | exact three_k (w := wb) (Gr.alloc (Gr.drew (Gr.refl _)) _) ⟨k0, k1, k2⟩ | exact three_k (w := wb) (Gr.drew (Gr.alloc (Gr.refl _) _)) ⟨k0, k1, k2⟩ | (refine three_s (three_s (three_s (keep3 hB4 ⟨k0, k1, k2⟩) ?_) ?_) ?_ <;> (simp; done)))
      (first | (go_at_call 57; refine (Try.concatB _ (w.heap.size + 2) ⟨g, 0, none⟩ ⟨g, (k + 1) * 3, none⟩ k c (n - (k + 1)) (c - (k + 1)) (ps.take k) (ps.drop (k + 1)) HL.out.1 HL.out.2 (by omega) (by omega) (by simp [go_sem, szb]) (by simp [go_sem, szb]) (fun j u hu => Gr.keep0 (HG.out.trans (show Gr wb _ from (by repeat (first | exact Gr.refl _ | refine Gr.alloc ?_ _ | refine Gr.trans ?_ (by assumption) | refine Gr.drew ?_ | refine Gr.drewN ?_ _ | refine Gr.grow ?_ _ | refine Gr.setCell ?_ (by (try simp); (try omega)) _)))) (HQ1.out j u hu)) (fun j u hu => Gr.keep0 (HG.out.trans (show Gr wb _ from (by repeat (first | exact Gr.refl _ | refine Gr.alloc ?_ _ | refine Gr.trans ?_ (by assumption) | refine Gr.drew ?_ | refine Gr.drewN ?_ _ | refine Gr.grow ?_ _ | refine Gr.setCell ?_ (by (try simp); (try omega)) _)))) (HQ2.out j u hu))).mono ?_; rintro e w4 ⟨v4, rfl, ho4, hb4⟩; obtain ⟨A4, c4, L4, rfl, ho4⟩ := own_open ho4; have hB4 : Below wb.heap.size wb w4 := Below.trans (show Gr wb _ from (by repeat (first | exact Gr.refl _ | refine Gr.alloc ?_ _ | refine Gr.trans ?_ (by assumption) | refine Gr.drew ?_ | refine Gr.drewN ?_ _ | refine Gr.grow ?_ _ | refine Gr.setCell ?_ (by (try simp); (try omega)) _))).below (hb4.mono (show Gr wb _ from (by repeat (first | exact Gr.refl _ | refine Gr.alloc ?_ _ | refine Gr.trans ?_ (by assumption) | refine Gr.drew ?_ | refine Gr.drewN ?_ _ | refine Gr.grow ?_ _ | refine Gr.setCell ?_ (by (try simp); (try omega)) _))).below.size); have r3 := cell_k2 hB4 k3; have r4 := cell_k2 hB4 k4; have r5 := cell_k2 hB4 k5; have r6 := ((bcell hB4).2 (w.heap.size + 1) 0 (by omega)).trans k6.1; have r7 := ((bcell hB4).2 (w.heap.size + 1) 1 (by omega)).trans k6.2.1; have r8 := ((bcell hB4).2 (w.heap.size + 1) 2 (by omega)).trans k6.2.2))
    rw [← HD.out] at ho4
    have u1 : ¬ w.heap.size + 1 = w.heap.size := by omega
    have g0 := World.cell?_setCell_same _ _ (.int .i64 W) r3
    have g0' : ((w4.setCell ⟨w.heap.size + 1, 0, none⟩ (.int .i64 W)).setCell ⟨w.heap.size + 1, 1, none⟩ (.int .i64 H)).cell? ⟨w.heap.size + 1, 0, none⟩ = some (.int .i64 W) := by
      rw [World.cell?_setCell_other _ ⟨w.heap.size + 1, 1, none⟩ ⟨w.heap.size + 1, 0, none⟩ _ (by simp)]; exact g0
    have g1' : ((w4.setCell ⟨w.heap.size + 1, 0, none⟩ (.int .i64 W)).setCell ⟨w.heap.size + 1, 1, none⟩ (.int .i64 H)).cell? ⟨w.heap.size + 1, 1, none⟩ = some (.int .i64 H) := World.cell?_setCell_same _ _ (.int .i64 H) (by
      rw [World.cell?_setCell_other _ ⟨w.heap.size + 1, 0, none⟩ ⟨w.heap.size + 1, 1, none⟩ _ (by simp)]; exact r4)
    have g2' : ((w4.setCell ⟨w.heap.size + 1, 0, none⟩ (.int .i64 W)).setCell ⟨w.heap.size + 1, 1, none⟩ (.int .i64 H)).cell? ⟨w.heap.size + 1, 2, none⟩ = some (.slice none 0 0) := by
      rw [World.cell?_setCell_other _ ⟨w.heap.size + 1, 1, none⟩ ⟨w.heap.size + 1, 2, none⟩ _ (by simp), World.cell?_setCell_other _ ⟨w.heap.size + 1, 0, none⟩ ⟨w.heap.size + 1, 2, none⟩ _ (by simp)]; exact r5
    have h0 : (((w4.setCell ⟨w.heap.size + 1, 0, none⟩ (.int .i64 W)).setCell ⟨w.heap.size + 1, 1, none⟩ (.int .i64 H)).setCell ⟨w.heap.size + 1, 2, none⟩ (.slice A4 L4 c4)).cell? ⟨w.heap.size + 1, 0, none⟩ = some (.int .i64 W) := by
      rw [World.cell?_setCell_other _ ⟨w.heap.size + 1, 2, none⟩ ⟨w.heap.size + 1, 0, none⟩ _ (by simp)]; exact g0'
    have h1 : (((w4.setCell ⟨w.heap.size + 1, 0, none⟩ (.int .i64 W)).setCell ⟨w.heap.size + 1, 1, none⟩ (.int .i64 H)).setCell ⟨w.heap.size + 1, 2, none⟩ (.slice A4 L4 c4)).cell? ⟨w.heap.size + 1, 1, none⟩ = some (.int .i64 H) := by
      rw [World.cell?_setCell_other _ ⟨w.heap.size + 1, 2, none⟩ ⟨w.heap.size + 1, 1, none⟩ _ (by simp)]; exact g1'
    have h2 := World.cell?_setCell_same _ _ (.slice A4 L4 c4) g2'
    have hO := OwnE.setOther (OwnE.setOther (OwnE.setOther (ho4.mono (show wb.heap.size ≤ _ from (show Gr wb _ from (by repeat (first | exact Gr.refl _ | refine Gr.alloc ?_ _ | refine Gr.trans ?_ (by assumption) | refine Gr.drew ?_ | refine Gr.drewN ?_ _ | refine Gr.grow ?_ _ | refine Gr.setCell ?_ (by (try simp); (try omega)) _))).below.size)) (a := ⟨w.heap.size + 1, 0, none⟩) (by simp; omega) (.int .i64 W)) (a := ⟨w.heap.size + 1, 1, none⟩) (by simp; omega) (.int .i64 H)) (a := ⟨w.heap.size + 1, 2, none⟩) (by simp; omega) (.slice A4 L4 c4)
    have HO := Lib.hid hO
    have HBB := Lib.hid (Below.trans HG.out.below (hB4.mono HG.out.below.size))
    clear g0 g0' g1' g2' r3 r4 r5 r6 r7 r8 hO ho4 hB4 hb4 k0 k1 k2 k3 k4 k5 k6
    go_wp2
    refine bodyPost_ret (v := .agg #[.int .i64 W, .int .i64 H, .slice A4 L4 c4]) ?_ rfl ⟨_, rfl, HO.out.mono HG.out.below.size, ?_⟩
    · simp [results, Try.results38, go_sem, h0, h1, h2]
    · exact Below.setCell (Below.setCell (Below.setCell HBB.out (by simp) _) (by simp) _) (by simp) _
end Go.Proofs
