/-
  Contracts of chapter 2: the plates before a plate and the others, both sides.
-/
import Derived.Test.YtbnkhmemicmadabPlPt
import Derived.Deep.AppendLies
namespace Go.Proofs
open Go.RowKit Pl
set_option linter.unusedVariables false
set_option linter.unusedSimpArgs false
theorem two_k2 {w w' : World} {a b : Addr} {x y : Value} (h : w.cell? a = some x ∧ w.cell? b = some y) (g : Below w.heap.size w w') : w'.cell? a = some x ∧ w'.cell? b = some y := ⟨cell_k2 g h.1, cell_k2 g h.2⟩
theorem own_ne_nil {T T' : TypeId} {w : World} {B b : Nat} {v : Value} {ps : List Pi2} {fr : Nat × Nat} (h : OwnP T w B v ps) (hpos : 0 < ps.length) (hb : w.heap[b]? = some (.cells #[] T' fr)) : v.ownBlock = none ∨ v.ownBlock ≠ some b := by
  rcases h.view with ⟨rfl, _⟩ | ⟨_, g, c, rfl, _, _, _, _, hc, _⟩
  · simp at hpos
  · refine .inr fun e => ?_
    have e' : g = b := by simpa [Value.ownBlock] using e
    subst e'
    have h0 := (hc 0 hpos).1
    rw [cell_of_row _ g 0 #[] T' fr hb] at h0
    simp at h0
set_option maxRecDepth 100000 in
set_option maxHeartbeats 3200000 in
theorem Try.sPartPlates (w : World) (B : Nat) (v : Value) (ps : List Pi2) (p0 p1 : Int) (hl : ps.length ≤ 1048576) (h : OwnP 34 w B v ps) :
    Calls Try.prog 38 #[v, .agg #[.int .i64 p0, .int .i64 p1]] w fun e w' => ∃ v1 v2, e = .returned (.tuple #[v1, v2, .bool (ptB ps (p0, p1))]) ∧ OwnP 34 w' w.heap.size v1 (ptL ps (p0, p1)) ∧ OwnP 34 w' w.heap.size v2 (ptR ps (p0, p1)) ∧ Below w.heap.size w w' := by
  have mixed : Try.prog.follows .mixedOrders = true := by kernel_rfl
  have gW : Gr w (w.alloc (.cells #[.int .i64 p0, .int .i64 p1] 34)) := Gr.alloc (Gr.refl _) _
  have bx := fun (W : World) (g : Gr (w.alloc (.cells #[.int .i64 p0, .int .i64 p1] 34)) W) => boxG (w := w) g
  have HBX := Lib.hid bx
  clear bx
  have HG := Lib.hid gW
  obtain ⟨b0, b1⟩ := HBX.out _ (Gr.refl _)
  cases hg : okB ps
  · have hB : ptB ps (p0, p1) = false := by simp [ptB, hg]
    have HA := Lib.hid (fun (W : World) (g : Gr w W) => Try.isGood W B v ps false (okB_i ps _ hg) hl (h.gr g))
    obtain ⟨e1, e2⟩ := pt_no hB
    rw [e1, e2, hB]
    obtain ⟨A, c, rfl, h⟩ := h.eta
    clear h hg hB e1 e2 gW
    go_enter Try.func38, Try.ntmps38
    go_wp2_with (first | (go_at_call 42; refine (HA.out _ (by repeat (first | exact Gr.refl _ | refine Gr.alloc ?_ _ | refine Gr.trans ?_ (by assumption) | refine Gr.drew ?_ | refine Gr.drewN ?_ _ | refine Gr.grow ?_ _ | refine Gr.setCell ?_ (by (try simp); (try omega)) _))).mono ?_; rintro e w1 ⟨rfl, hbW⟩; have hcW := (bcell hbW.below).1; have hfW := (bcell hbW.below).2; (try have hzW : w.heap.size < w1.heap.size := by have hq := hbW.below.size; (try simp at hq); omega); (try have hyW : w.heap.size + 1 < w1.heap.size := by have hq := hbW.below.size; (try simp at hq); omega); (try have hxW : w.heap.size + 2 < w1.heap.size := by have hq := hbW.below.size; (try simp at hq); omega)))
    go_ret3
    exact ⟨_, _, rfl, OwnP.nil _ _ _, OwnP.nil _ _ _, Gr.below (by repeat (first | exact Gr.refl _ | refine Gr.alloc ?_ _ | refine Gr.trans ?_ (by assumption) | refine Gr.drew ?_ | refine Gr.drewN ?_ _ | refine Gr.grow ?_ _ | refine Gr.setCell ?_ (by (try simp); (try omega)) _))⟩
  · have HA := Lib.hid (fun (W : World) (g : Gr w W) => Try.isGood W B v ps true (okB_i ps _ hg) hl (h.gr g))
    have hok := (okB_iff ps).1 hg
    cases hp : isP p0 p1
    · have hB : ptB ps (p0, p1) = false := by simp [ptB, hp]
      have HP := Lib.hid hp
      obtain ⟨e1, e2⟩ := pt_no hB
      rw [e1, e2, hB]
      obtain ⟨A, c, rfl, h⟩ := h.eta
      clear h hg hB e1 e2 gW hp hok
      go_enter Try.func38, Try.ntmps38
      go_wp2_with (first | (go_at_call 42; refine (HA.out _ (by repeat (first | exact Gr.refl _ | refine Gr.alloc ?_ _ | refine Gr.trans ?_ (by assumption) | refine Gr.drew ?_ | refine Gr.drewN ?_ _ | refine Gr.grow ?_ _ | refine Gr.setCell ?_ (by (try simp); (try omega)) _))).mono ?_; rintro e w1 ⟨rfl, hbW⟩; have hcW := (bcell hbW.below).1; have hfW := (bcell hbW.below).2; (try have hzW : w.heap.size < w1.heap.size := by have hq := hbW.below.size; (try simp at hq); omega); (try have hyW : w.heap.size + 1 < w1.heap.size := by have hq := hbW.below.size; (try simp at hq); omega); (try have hxW : w.heap.size + 2 < w1.heap.size := by have hq := hbW.below.size; (try simp at hq); omega)) | (go_at_call 43; refine (Try.isPlate _ _ _ HP.out _).mono ?_; rintro e w2 ⟨rfl, hbX⟩))
      go_ret3
      exact ⟨_, _, rfl, OwnP.nil _ _ _, OwnP.nil _ _ _, Gr.below (by repeat (first | exact Gr.refl _ | refine Gr.alloc ?_ _ | refine Gr.trans ?_ (by assumption) | refine Gr.drew ?_ | refine Gr.drewN ?_ _ | refine Gr.grow ?_ _ | refine Gr.setCell ?_ (by (try simp); (try omega)) _))⟩
    · have HP := Lib.hid hp
      have HI := Lib.hid (fun (W : World) (g : Gr w W) => Try.isPlace W B v ps p0 p1 hok.2.2.1 hp hl (h.gr g))
      have hn := plc_le ps (p0, p1)
      by_cases hk : plc ps (p0, p1) = 0 ∨ plc ps (p0, p1) = ps.length
      · have hB : ptB ps (p0, p1) = false := by
          unfold ptB
          rw [show decide (plc ps (p0, p1) ≠ 0 ∧ plc ps (p0, p1) ≠ ps.length) = false from decide_eq_false (by omega)]
          simp
        obtain ⟨e1, e2⟩ := pt_no hB
        rw [e1, e2, hB]
        generalize plc ps (p0, p1) = k at *
        have hpos := hok.1
        obtain ⟨A, c, rfl, h⟩ := h.eta
        have hk2 : k = 0 ∨ (0 < k ∧ k = ps.length) := by omega
        have dl0 : ((ps.length : Int) == 0) = false := by simp; intro q; subst q; simp at hpos
        have dl1 : decide (ps.length = 0) = false := by simp; intro q; subst q; simp at hpos
        clear h hg hB e1 e2 gW hp hok hk
        rcases hk2 with rfl | ⟨hk0, rfl⟩
        all_goals
          go_enter Try.func38, Try.ntmps38
          go_wp2_with (first | (go_at_call 42; refine (HA.out _ (by repeat (first | exact Gr.refl _ | refine Gr.alloc ?_ _ | refine Gr.trans ?_ (by assumption) | refine Gr.drew ?_ | refine Gr.drewN ?_ _ | refine Gr.grow ?_ _ | refine Gr.setCell ?_ (by (try simp); (try omega)) _))).mono ?_; rintro e w1 ⟨rfl, hbW⟩; have hcW := (bcell hbW.below).1; have hfW := (bcell hbW.below).2; (try have hzW : w.heap.size < w1.heap.size := by have hq := hbW.below.size; (try simp at hq); omega); (try have hyW : w.heap.size + 1 < w1.heap.size := by have hq := hbW.below.size; (try simp at hq); omega); (try have hxW : w.heap.size + 2 < w1.heap.size := by have hq := hbW.below.size; (try simp at hq); omega)) | (go_at_call 43; refine (Try.isPlate _ _ _ HP.out _).mono ?_; rintro e w2 ⟨rfl, hbX⟩; (try have hcX := (bcell hbX.below).1)) | (go_at_call 54; refine (HI.out _ (by repeat (first | exact Gr.refl _ | refine Gr.alloc ?_ _ | refine Gr.trans ?_ (by assumption) | refine Gr.drew ?_ | refine Gr.drewN ?_ _ | refine Gr.grow ?_ _ | refine Gr.setCell ?_ (by (try simp); (try omega)) _))).mono ?_; rintro e w3 ⟨rfl, hbY⟩))
          go_ret3
          exact ⟨_, _, rfl, OwnP.nil _ _ _, OwnP.nil _ _ _, Gr.below (by repeat (first | exact Gr.refl _ | refine Gr.alloc ?_ _ | refine Gr.trans ?_ (by assumption) | refine Gr.drew ?_ | refine Gr.drewN ?_ _ | refine Gr.grow ?_ _ | refine Gr.setCell ?_ (by (try simp); (try omega)) _))⟩
      · have hB : ptB ps (p0, p1) = true := by
          unfold ptB
          rw [hg, show isP (p0, p1).1 (p0, p1).2 = true from hp, show decide (plc ps (p0, p1) ≠ 0 ∧ plc ps (p0, p1) ≠ ps.length) = true from decide_eq_true (by omega)]
          rfl
        rw [show ptL ps (p0, p1) = ps.take (plc ps (p0, p1)) by simp [ptL, hB], show ptR ps (p0, p1) = ps.drop (plc ps (p0, p1)) by simp [ptR, hB], hB]
        generalize plc ps (p0, p1) = k at *
        have hmax : ps.length ≤ 60 := hok.2.1
        have hk0 : 0 < k := by omega
        have hk1 : k < ps.length := by omega
        have zk0 : (0 : Int) < (k : Int) := by omega
        have zk1 : (k : Int) < (ps.length : Int) := by omega
        have zk2 : (0 : Int) ≤ (k : Int) := by omega
        have zk3 : (k : Int) ≤ (ps.length : Int) := by omega
        have dk0 : decide (k = 0) = false := by simpa using (by omega : ¬ k = 0)
        have dk1 : ((k : Int) == 0) = false := by simpa using (by omega : ¬ k = 0)
        have dk2 : ((k : Int) == (ps.length : Int)) = false := by simp; omega
        rcases h.view with ⟨hz, _⟩ | ⟨_, g, cap, rfl, _, g2, hcap, hcm, _, _⟩
        · subst hz; simp at hk1
        · have zc1 : (ps.length : Int) ≤ (cap : Int) := by omega
          have zc2 : (k : Int) ≤ (cap : Int) := by omega
          have nck : ¬ cap = k := by omega
          have HR1 := Lib.hid (fun (W : World) (g' : Gr w W) => (show ∀ j u, (pcs (ps.take k))[j]? = some u → W.cell? ((⟨g, 0, none⟩ : Addr).add j) = some u by have := (h.gr g').reads rfl 0 k (by omega); simpa using this))
          have HR2 := Lib.hid (fun (W : World) (g' : Below w.heap.size w W) => (show ∀ j u, (pcs (ps.drop k))[j]? = some u → W.cell? ((⟨g, k * 2, none⟩ : Addr).add j) = some u by
            have := (h.below g' (Nat.le_refl _)).reads rfl k (ps.length - k) (by omega)
            rwa [List.take_of_length_le (by simp)] at this))
          clear h hg hB gW hp hok hk hn hmax
          go_enter Try.func38, Try.ntmps38
          go_wp2_with (first | (go_at_call 42; refine (HA.out _ (by repeat (first | exact Gr.refl _ | refine Gr.alloc ?_ _ | refine Gr.trans ?_ (by assumption) | refine Gr.drew ?_ | refine Gr.drewN ?_ _ | refine Gr.grow ?_ _ | refine Gr.setCell ?_ (by (try simp); (try omega)) _))).mono ?_; rintro e w1 ⟨rfl, hbW⟩; have hcW := (bcell hbW.below).1; have hfW := (bcell hbW.below).2; (try have hzW : w.heap.size < w1.heap.size := by have hq := hbW.below.size; (try simp at hq); omega); (try have hyW : w.heap.size + 1 < w1.heap.size := by have hq := hbW.below.size; (try simp at hq); omega); (try have hxW : w.heap.size + 2 < w1.heap.size := by have hq := hbW.below.size; (try simp at hq); omega)) | (go_at_call 43; refine (Try.isPlate _ _ _ HP.out _).mono ?_; rintro e w2 ⟨rfl, hbX⟩; (try have hcX := (bcell hbX.below).1)) | (go_at_call 54; refine (HI.out _ (by repeat (first | exact Gr.refl _ | refine Gr.alloc ?_ _ | refine Gr.trans ?_ (by assumption) | refine Gr.drew ?_ | refine Gr.drewN ?_ _ | refine Gr.grow ?_ _ | refine Gr.setCell ?_ (by (try simp); (try omega)) _))).mono ?_; rintro e w3 ⟨rfl, hbY⟩))
          have HGX : Gr w w3 := (by repeat (first | exact Gr.refl _ | refine Gr.alloc ?_ _ | refine Gr.trans ?_ (by assumption) | refine Gr.drew ?_ | refine Gr.drewN ?_ _ | refine Gr.grow ?_ _ | refine Gr.setCell ?_ (by (try simp); (try omega)) _))
          go_region_held3 (fun _ => True) (trivial)
            ((first | (refine step_appP rfl (.tmp 31) (.tmp 34) 26 rfl 34 Try.underlying26 Try.infoP w3.heap.size (.slice (some ⟨w3.heap.size, 0, none⟩) 0 0) [] rfl (own_empty (by first | (refine heap_new' ?_; simp; done) | (refine (Below.heap_alloc _ _ _ ?_).trans (heap_new' ?_); (simp; done); (simp; done)) | (refine (Below.heap_alloc _ _ _ ?_).trans (heap_new' ?_) <;> (try simp) <;> omega)) (by omega)) _ _ _ (ps.take k) rfl (by simp; omega) (fun j u hu => HR1.out _ (by repeat (first | exact Gr.refl _ | refine Gr.alloc ?_ _ | refine Gr.trans ?_ (by assumption) | refine Gr.drew ?_ | refine Gr.drewN ?_ _ | refine Gr.grow ?_ _ | refine Gr.setCell ?_ (by (try simp); (try omega)) _)) j u hu) (by simp) (by (try simp); (try omega)) (by (try simp); (try omega)) ?_; intro v4 x4 ho4 hb4 hg4) | (refine step_appP rfl (.tmp 31) (.tmp 34) 26 rfl 34 Try.underlying26 Try.infoP w3.heap.size (.slice (some ⟨w3.heap.size + 1, 0, none⟩) 0 0) [] rfl (own_empty (by first | (refine heap_new' ?_; simp; done) | (refine (Below.heap_alloc _ _ _ ?_).trans (heap_new' ?_); (simp; done); (simp; done)) | (refine (Below.heap_alloc _ _ _ ?_).trans (heap_new' ?_) <;> (try simp) <;> omega)) (by omega)) _ _ _ (ps.take k) rfl (by simp; omega) (fun j u hu => HR1.out _ (by repeat (first | exact Gr.refl _ | refine Gr.alloc ?_ _ | refine Gr.trans ?_ (by assumption) | refine Gr.drew ?_ | refine Gr.drewN ?_ _ | refine Gr.grow ?_ _ | refine Gr.setCell ?_ (by (try simp); (try omega)) _)) j u hu) (by simp) (by (try simp); (try omega)) (by (try simp); (try omega)) ?_; intro v4 x4 ho4 hb4 hg4) | (have hE : (x4.alloc (.cells #[] 34)).heap[x4.heap.size]? = some (.cells #[] 34 (0, 0)) := heap_new' rfl; have sz4 := hb4.size; (try simp at sz4); (refine step_appP rfl (.tmp 36) (.tmp 39) 26 rfl 34 Try.underlying26 Try.infoP w3.heap.size (.slice (some ⟨x4.heap.size, 0, none⟩) 0 0) [] rfl (own_empty hE (by omega)) _ _ _ (ps.drop k) rfl (by simp) (fun j u hu => HR2.out _ (Below.trans (Gr.below HGX) ((show Below w3.heap.size w3 _ from (by repeat (first | exact Below.refl _ _ | exact hb4 | refine Below.trans ?_ hb4 | refine Below.alloc ?_ (by (try simp); (try omega)) _ | refine Below.drew ?_))).mono (Gr.below HGX).size)) j u hu) (by simp) (by (try simp); (try omega)) (by (try simp); (try omega)) ?_; intro v5 x5 ho5 hb5 hg5; have ho6 := (ho4.gr (Gr.alloc (Gr.refl _) _)).grown hg5 (own_ne_nil (ho4.gr (Gr.alloc (Gr.refl _) _)) (by simp; omega) hE))) | (have hE : x4.heap[w3.heap.size]? = some (.cells #[] 34 (0, 0)) := (hg4.block _ (by (try simp); (try omega)) (by simp [Value.ownBlock])).trans (by first | (refine heap_new' ?_; simp; done) | (refine (Below.heap_alloc _ _ _ ?_).trans (heap_new' ?_); (simp; done); (simp; done)) | (refine (Below.heap_alloc _ _ _ ?_).trans (heap_new' ?_) <;> (try simp) <;> omega)); have sz4 := hb4.size; (try simp at sz4); (refine step_appP rfl (.tmp 36) (.tmp 39) 26 rfl 34 Try.underlying26 Try.infoP w3.heap.size (.slice (some ⟨w3.heap.size, 0, none⟩) 0 0) [] rfl (own_empty hE (by omega)) _ _ _ (ps.drop k) rfl (by simp) (fun j u hu => HR2.out _ (Below.trans (Gr.below HGX) ((show Below w3.heap.size w3 _ from (by repeat (first | exact Below.refl _ _ | exact hb4 | refine Below.trans ?_ hb4 | refine Below.alloc ?_ (by (try simp); (try omega)) _ | refine Below.drew ?_))).mono (Gr.below HGX).size)) j u hu) (by simp) (by (try simp); (try omega)) (by (try simp); (try omega)) ?_; intro v5 x5 ho5 hb5 hg5; have ho6 := ho4.grown hg5 (own_ne_nil ho4 (by simp; omega) hE))) | (have hE : x4.heap[w3.heap.size + 1]? = some (.cells #[] 34 (0, 0)) := (hg4.block _ (by (try simp); (try omega)) (by simp [Value.ownBlock])).trans (by first | (refine heap_new' ?_; simp; done) | (refine (Below.heap_alloc _ _ _ ?_).trans (heap_new' ?_); (simp; done); (simp; done)) | (refine (Below.heap_alloc _ _ _ ?_).trans (heap_new' ?_) <;> (try simp) <;> omega)); have sz4 := hb4.size; (try simp at sz4); (refine step_appP rfl (.tmp 36) (.tmp 39) 26 rfl 34 Try.underlying26 Try.infoP w3.heap.size (.slice (some ⟨w3.heap.size + 1, 0, none⟩) 0 0) [] rfl (own_empty hE (by omega)) _ _ _ (ps.drop k) rfl (by simp) (fun j u hu => HR2.out _ (Below.trans (Gr.below HGX) ((show Below w3.heap.size w3 _ from (by repeat (first | exact Below.refl _ _ | exact hb4 | refine Below.trans ?_ hb4 | refine Below.alloc ?_ (by (try simp); (try omega)) _ | refine Below.drew ?_))).mono (Gr.below HGX).size)) j u hu) (by simp) (by (try simp); (try omega)) (by (try simp); (try omega)) ?_; intro v5 x5 ho5 hb5 hg5; have ho6 := ho4.grown hg5 (own_ne_nil ho4 (by simp; omega) hE)))))
          all_goals
            go_wp2
            go_ret3
            have s3 : w.heap.size ≤ w3.heap.size := HGX.below.size
            exact ⟨_, _, rfl, OwnP.mono (by simpa using ho6) s3, OwnP.mono (by simpa using ho5) s3, (Gr.below HGX).trans (Below.mono (by repeat (first | exact Below.refl _ _ | refine Below.trans ?_ hb5 | refine Below.trans ?_ hb4 | refine Below.alloc ?_ (by (try simp); (try omega)) _ | refine Below.drew ?_)) s3)⟩
end Go.Proofs
