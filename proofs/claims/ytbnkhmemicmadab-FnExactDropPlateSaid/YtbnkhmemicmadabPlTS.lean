import Derived.Test.YtbnkhmemicmadabPlT
namespace Go.Proofs
open Go.RowKit Pl
set_option linter.unusedVariables false
set_option linter.unusedSimpArgs false
set_option maxRecDepth 100000 in
set_option maxHeartbeats 800000 in
theorem Try.sDropPlate (w : World) (B : Nat) (v : Value) (ps : List Pi2) (k : Int) (hl : ps.length ≤ 1048576) (h : OwnP 34 w B v ps) :
    Calls Try.prog 22 #[v, .int .i64 k] w fun e w' => ∃ v', e = .returned (.tuple #[v', .bool (dpB ps k)]) ∧ OwnP 34 w' w.heap.size v' (dpV ps k) ∧ Below w.heap.size w w' := by
  have mixed : Try.prog.follows .mixedOrders = true := by kernel_rfl
  cases ha : askB ps k
  · have hB : dpB ps k = false := by simp [dpB, ha]
    have HA := Lib.hid (Try.isAsked w B v ps k false ha hl h)
    rw [show dpV ps k = [] by simp [dpV, hB], hB]
    obtain ⟨A, c, rfl, h⟩ := h.eta
    clear h ha hB
    go_enter Try.func22, Try.ntmps22
    go_wp2_with (go_at_call 40; refine (HA.out).mono ?_; rintro e w1 ⟨rfl, hbW⟩; have hcW := (bcell hbW.below).1; have hfW := (bcell hbW.below).2; (try have hzW : w.heap.size < w1.heap.size := by have hq := hbW.below.size; (try simp at hq); omega); (try have hyW : w.heap.size + 1 < w1.heap.size := by have hq := hbW.below.size; (try simp at hq); omega); (try have hxW : w.heap.size + 2 < w1.heap.size := by have hq := hbW.below.size; (try simp at hq); omega))
    go_ret2
    exact ⟨_, rfl, OwnP.nil _ _ _, Gr.below (by repeat (first | exact Gr.refl _ | refine Gr.alloc ?_ _ | refine Gr.trans ?_ (by assumption) | refine Gr.drew ?_ | refine Gr.drewN ?_ _ | refine Gr.grow ?_ _ | refine Gr.setCell ?_ (by (try simp); (try omega)) _))⟩
  · have HA := Lib.hid (Try.isAsked w B v ps k true ha hl h)
    obtain ⟨hok, m, hkm, hm⟩ := askB_t ha
    subst hkm
    by_cases h1 : ps.length = 1
    · have hB : dpB ps (m : Int) = false := by simp [dpB, h1]
      rw [show dpV ps (m : Int) = [] by simp [dpV, hB], hB]
      obtain ⟨A, c, rfl, h⟩ := h.eta
      clear HA
      rw [h1] at h ⊢
      have HA := Lib.hid (Try.isAsked w B _ ps (m : Int) true ha hl h)
      clear h ha hB h1 hm hl hok
      go_enter Try.func22, Try.ntmps22
      go_wp2_with (go_at_call 40; refine (HA.out).mono ?_; rintro e w1 ⟨rfl, hbW⟩; have hcW := (bcell hbW.below).1; have hfW := (bcell hbW.below).2; (try have hzW : w.heap.size < w1.heap.size := by have hq := hbW.below.size; (try simp at hq); omega); (try have hyW : w.heap.size + 1 < w1.heap.size := by have hq := hbW.below.size; (try simp at hq); omega); (try have hxW : w.heap.size + 2 < w1.heap.size := by have hq := hbW.below.size; (try simp at hq); omega))
      go_ret2
      exact ⟨_, rfl, OwnP.nil _ _ _, Gr.below (by repeat (first | exact Gr.refl _ | refine Gr.alloc ?_ _ | refine Gr.trans ?_ (by assumption) | refine Gr.drew ?_ | refine Gr.drewN ?_ _ | refine Gr.grow ?_ _ | refine Gr.setCell ?_ (by (try simp); (try omega)) _))⟩
    · have hB : dpB ps (m : Int) = true := by simp [dpB, ha, h1]
      rw [show dpV ps (m : Int) = ps.take m ++ ps.drop (m + 1) by simp [dpV, hB], hB]
      have hmax : ps.length ≤ 60 := hok.2.1
      have dl : ((ps.length : Int) == 1) = false := by simp; omega
      have dl2 : decide (ps.length = 1) = false := by simpa using h1
      have z0 : (0 : Int) ≤ (m : Int) := by omega
      have z1 : (m : Int) ≤ (ps.length : Int) := by omega
      have z2 : (m : Int) + 1 ≤ (ps.length : Int) := by omega
      have z3 : (0 : Int) ≤ (m : Int) + 1 := by omega
      rcases h.view with ⟨hz, _⟩ | ⟨_, g, cap, rfl, _, g2, hcap, hcm, _, _⟩
      · subst hz; simp at hm
      · have zc1 : (ps.length : Int) ≤ (cap : Int) := by omega
        have zc2 : (m : Int) ≤ (cap : Int) := by omega
        have zc3 : (m : Int) + 1 ≤ (cap : Int) := by omega
        have e1 : ((m : Int) + 1).toNat = m + 1 := by omega
        have ws : IntKind.i64.wrap ((m : Int) + 1) = (m : Int) + 1 := IntWalk.i64_in _ (by omega)
        have ws2 : wrap64 ((m : Int) + 1) = (m : Int) + 1 := by unfold wrap64; omega
        have nz2 : m + 1 ≤ ps.length := by omega
        have HR1 := Lib.hid (fun (W : World) (g' : Below w.heap.size w W) => (show ∀ j u, (pcs (ps.take m))[j]? = some u → W.cell? ((⟨g, 0, none⟩ : Addr).add j) = some u by have := (h.below g' (Nat.le_refl _)).reads rfl 0 m (by omega); simpa using this))
        have HR2 := Lib.hid (fun (W : World) (g' : Below w.heap.size w W) => (show ∀ j u, (pcs (ps.drop (m + 1)))[j]? = some u → W.cell? ((⟨g, (m + 1) * 2, none⟩ : Addr).add j) = some u by
          have := (h.below g' (Nat.le_refl _)).reads rfl (m + 1) (ps.length - (m + 1)) (by omega)
          rwa [List.take_of_length_le (by simp)] at this))
        have HM := Lib.hid (show ps.length ≠ 1 from h1)
        clear h ha hB h1 hok
        by_cases hkc : cap = m + 1
        · have hd : ps.drop (m + 1) = [] := List.drop_eq_nil_of_le (by omega)
          have HR3 := Lib.hid (fun (W : World) => (show ∀ j u, (pcs (ps.drop (m + 1)))[j]? = some u → W.cell? ((⟨g, 0, none⟩ : Addr).add j) = some u by rw [hd]; intro j u hu; simp [pcs] at hu))
          clear hd HR2
          subst hkc
          have y1 : (m : Int) ≤ (m : Int) + 1 := by omega
          have y2 : m ≤ m + 1 := by omega
          have y3 : (ps.length : Int) ≤ (m : Int) + 1 := by omega
          go_enter Try.func22, Try.ntmps22
          go_wp2_with (first | (go_at_call 40; refine (HA.out).mono ?_; rintro e w1 ⟨rfl, hbW⟩; have hcW := (bcell hbW.below).1; have hfW := (bcell hbW.below).2; (try have hzW : w.heap.size < w1.heap.size := by have hq := hbW.below.size; (try simp at hq); omega); (try have hyW : w.heap.size + 1 < w1.heap.size := by have hq := hbW.below.size; (try simp at hq); omega); (try have hxW : w.heap.size + 2 < w1.heap.size := by have hq := hbW.below.size; (try simp at hq); omega)))
          have HGX : Gr w w1 := (by repeat (first | exact Gr.refl _ | refine Gr.alloc ?_ _ | refine Gr.trans ?_ (by assumption) | refine Gr.drew ?_ | refine Gr.drewN ?_ _ | refine Gr.grow ?_ _ | refine Gr.setCell ?_ (by (try simp); (try omega)) _))
          go_region_held3 (fun _ => True) (trivial)
            ((first | (refine step_appP rfl (.tmp 15) (.tmp 18) 26 rfl 34 Try.underlying26 Try.infoP w1.heap.size (.slice (some ⟨w1.heap.size, 0, none⟩) 0 0) [] rfl (own_empty (heap_new' (by simp)) (by omega)) ⟨g, 0, none⟩ _ _ (ps.take m) rfl (by simp; omega) (fun j u hu => HR1.out _ (Gr.below (by repeat (first | exact Gr.refl _ | refine Gr.alloc ?_ _ | refine Gr.trans ?_ (by assumption) | refine Gr.drew ?_ | refine Gr.drewN ?_ _ | refine Gr.grow ?_ _ | refine Gr.setCell ?_ (by (try simp); (try omega)) _))) j u hu) (by simp; try omega) (by simp; try omega) (by first | (have sz4 := hb4.size; (try simp at sz4); (try simp); omega) | (simp; done) | omega) ?_; intro v4 x4 ho4 hb4 hg4) | (refine step_appP rfl (.tmp 19) (.tmp 23) 26 rfl 34 Try.underlying26 Try.infoP w1.heap.size _ _ rfl (ho4) ⟨g, 0, none⟩ _ _ (ps.drop (m + 1)) rfl (by simp; try omega) (fun j u hu => HR3.out _ j u hu) (by simp; try omega) (by simp; try omega) (by first | (have sz4 := hb4.size; (try simp at sz4); (try simp); omega) | (simp; done) | omega) ?_; intro v5 x5 ho5 hb5 hg5)))
          go_wp2
          go_ret2
          exact ⟨_, rfl, OwnP.mono (by simpa using ho5) HGX.below.size, (Gr.below HGX).trans (Below.mono (by repeat (first | exact Below.refl _ _ | refine Below.trans ?_ hb5 | refine Below.trans ?_ hb4 | refine Below.alloc ?_ (by (try simp); (try omega)) _ | refine Below.drew ?_)) HGX.below.size)⟩
        · have nkc : ¬ cap = m + 1 := hkc
          go_enter Try.func22, Try.ntmps22
          go_wp2_with (first | (go_at_call 40; refine (HA.out).mono ?_; rintro e w1 ⟨rfl, hbW⟩; have hcW := (bcell hbW.below).1; have hfW := (bcell hbW.below).2; (try have hzW : w.heap.size < w1.heap.size := by have hq := hbW.below.size; (try simp at hq); omega); (try have hyW : w.heap.size + 1 < w1.heap.size := by have hq := hbW.below.size; (try simp at hq); omega); (try have hxW : w.heap.size + 2 < w1.heap.size := by have hq := hbW.below.size; (try simp at hq); omega)))
          have HGX : Gr w w1 := (by repeat (first | exact Gr.refl _ | refine Gr.alloc ?_ _ | refine Gr.trans ?_ (by assumption) | refine Gr.drew ?_ | refine Gr.drewN ?_ _ | refine Gr.grow ?_ _ | refine Gr.setCell ?_ (by (try simp); (try omega)) _))
          go_region_held3 (fun _ => True) (trivial)
            ((first | (refine step_appP rfl (.tmp 15) (.tmp 18) 26 rfl 34 Try.underlying26 Try.infoP w1.heap.size (.slice (some ⟨w1.heap.size, 0, none⟩) 0 0) [] rfl (own_empty (heap_new' (by simp)) (by omega)) ⟨g, 0, none⟩ _ _ (ps.take m) rfl (by simp; omega) (fun j u hu => HR1.out _ (Gr.below (by repeat (first | exact Gr.refl _ | refine Gr.alloc ?_ _ | refine Gr.trans ?_ (by assumption) | refine Gr.drew ?_ | refine Gr.drewN ?_ _ | refine Gr.grow ?_ _ | refine Gr.setCell ?_ (by (try simp); (try omega)) _))) j u hu) (by simp; try omega) (by simp; try omega) (by first | (have sz4 := hb4.size; (try simp at sz4); (try simp); omega) | (simp; done) | omega) ?_; intro v4 x4 ho4 hb4 hg4) | (refine step_appP rfl (.tmp 19) (.tmp 23) 26 rfl 34 Try.underlying26 Try.infoP w1.heap.size _ _ rfl (ho4) ⟨g, (m + 1) * 2, none⟩ _ _ (ps.drop (m + 1)) rfl (by simp; try omega) (fun j u hu => HR2.out _ (Below.trans (Gr.below HGX) ((show Below w1.heap.size w1 _ from (by repeat (first | exact Below.refl _ _ | exact hb4 | refine Below.trans ?_ hb4 | refine Below.alloc ?_ (by (try simp); (try omega)) _ | refine Below.drew ?_))).mono (Gr.below HGX).size)) j u hu) (by simp; try omega) (by simp; try omega) (by first | (have sz4 := hb4.size; (try simp at sz4); (try simp); omega) | (simp; done) | omega) ?_; intro v5 x5 ho5 hb5 hg5)))
          go_wp2
          go_ret2
          exact ⟨_, rfl, OwnP.mono (by simpa using ho5) HGX.below.size, (Gr.below HGX).trans (Below.mono (by repeat (first | exact Below.refl _ _ | refine Below.trans ?_ hb5 | refine Below.trans ?_ hb4 | refine Below.alloc ?_ (by (try simp); (try omega)) _ | refine Below.drew ?_)) HGX.below.size)⟩
end Go.Proofs
