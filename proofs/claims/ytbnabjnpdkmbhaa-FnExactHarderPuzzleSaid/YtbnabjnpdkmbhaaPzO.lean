/-
  Chapter 9: clues without one, both sides (impl.without, spec.pzWithout).
-/
import Derived.Test.YtbnabjnpdkmbhaaPzN
namespace Go.Proofs
open Go.RowKit
set_option linter.unusedVariables false
set_option linter.unusedSimpArgs false
set_option maxRecDepth 100000 in
set_option maxHeartbeats 1600000 in
theorem Try.without (w : World) (v : Value) (cs : List Clu) (k : Nat) (hk : k < cs.length) (hl : cs.length ≤ 100) (h : CluRow w v cs) :
    Calls Try.prog 76 #[v, .int .i64 k] w fun e w' => ∃ v', e = .returned v' ∧ OwnC w' w.heap.size v' (wout cs k) ∧ Below w.heap.size w w' := by
  obtain ⟨A, c, rfl, hlc, hcm, h⟩ := h
  unfold maxLen at hcm
  rcases h with e | ⟨g, o, rfl, hc⟩
  · rw [e] at hk; simp at hk
  have hq1 : ∀ j u, (ecs ccs (cs.take k))[j]? = some u → w.cell? ((⟨g, o, none⟩ : Addr).add j) = some u := by
    have := clu_reads hc 0 k (by omega)
    simpa using this
  have hq2 : ∀ j u, (ecs ccs (cs.drop (k + 1)))[j]? = some u → w.cell? ((⟨g, o + (k + 1) * 3, none⟩ : Addr).add j) = some u := by
    have := clu_reads hc (k + 1) (cs.length - (k + 1)) (by omega)
    rwa [List.take_of_length_le (by simp)] at this
  have hl1 : (cs.take k).length = k := by simp; omega
  have hl2 : (cs.drop (k + 1)).length = cs.length - (k + 1) := by simp
  have z0 : (0 : Int) ≤ (k : Int) := by omega
  have z1 : (k : Int) ≤ (c : Int) := by omega
  have z2 : (k : Int) + 1 ≤ (cs.length : Int) := by omega
  have z3 : (0 : Int) ≤ (k : Int) + 1 := by omega
  have z4 : (cs.length : Int) ≤ (c : Int) := by omega
  have e1 : IntKind.i64.wrap ((k : Int) + 1) = (k : Int) + 1 := wr64 _ (by omega) (by omega)
  have t1 : ((k : Int) + 1).toNat = k + 1 := by omega
  have mixed : Try.prog.follows .mixedOrders = true := by kernel_rfl
  have z5 : (k : Int) ≤ (k : Int) + 1 := by omega
  have HK := Lib.hid hk
  by_cases hck : c = k + 1
  · subst hck
    have hn : cs.drop (k + 1) = [] := List.drop_eq_nil_of_le (by omega)
    have HW := Lib.hid (show cs.take k ++ [] = wout cs k by unfold wout; rw [hn])
    have z6 : (cs.length : Int) = (k : Int) + 1 := by omega
    have HQ1 := Lib.hid hq1
    clear hc hq1 hq2 hl2 hn hk
    go_enter Try.func76, Try.ntmps76
    go_wp2
    go_region_held3 (fun _ => True) (trivial) ((first | (go_at_call 99; refine (Try.concatC _ w.heap.size ⟨g, o, none⟩ ⟨g, o, none⟩ k k 0 0 (cs.take k) [] hl1 rfl (by omega) (by omega) (by simp [go_sem]) (by simp [go_sem]) (fun j u hu => (show Gr w _ from (by repeat (first | exact Gr.refl _ | refine Gr.alloc ?_ _ | refine Gr.trans ?_ (by assumption) | refine Gr.drew ?_ | refine Gr.drewN ?_ _ | refine Gr.grow ?_ _ | refine Gr.setCell ?_ (by (try simp); (try omega)) _))).keep0 (HQ1.out j u hu)) (fun j u hu => by simp [ecs] at hu)).mono ?_; rintro e w1 ⟨v1, rfl, ho1, hb1⟩)))
    all_goals
      have HO := Lib.hid ho1
      have HB := Lib.hid hb1
      clear ho1 hb1
      go_wp2
      go_ret
      have hz := (show Gr w (w.alloc (.cells #[.slice (some ⟨g, o, none⟩) k k, .slice (some ⟨g, o, none⟩) 0 0] 37)).drew from (by repeat (first | exact Gr.refl _ | refine Gr.alloc ?_ _ | refine Gr.trans ?_ (by assumption) | refine Gr.drew ?_ | refine Gr.drewN ?_ _ | refine Gr.grow ?_ _ | refine Gr.setCell ?_ (by (try simp); (try omega)) _))).below
      refine ⟨_, rfl, ?_, ?_⟩
      · have := HO.out
        rw [HW.out] at this
        exact OwnE.mono this hz.size
      · exact hz.trans (HB.out.mono hz.size)
  · have HW := Lib.hid (show cs.take k ++ cs.drop (k + 1) = wout cs k from rfl)
    have HQ1 := Lib.hid hq1
    have HQ2 := Lib.hid hq2
    have z6 : ¬ (c : Int) = (k : Int) + 1 := by omega
    have z7 : (k : Int) + 1 ≤ (c : Int) := by omega
    clear hc hq1 hq2 hk
    go_enter Try.func76, Try.ntmps76
    go_wp2
    go_region_held3 (fun _ => True) (trivial) ((first | (go_at_call 99; refine (Try.concatC _ w.heap.size ⟨g, o, none⟩ ⟨g, o + (k + 1) * 3, none⟩ k k (cs.length - (k + 1)) (c - (k + 1)) (cs.take k) (cs.drop (k + 1)) hl1 hl2 (by omega) (by omega) (by simp [go_sem]) (by simp [go_sem]) (fun j u hu => (show Gr w _ from (by repeat (first | exact Gr.refl _ | refine Gr.alloc ?_ _ | refine Gr.trans ?_ (by assumption) | refine Gr.drew ?_ | refine Gr.drewN ?_ _ | refine Gr.grow ?_ _ | refine Gr.setCell ?_ (by (try simp); (try omega)) _))).keep0 (HQ1.out j u hu)) (fun j u hu => (show Gr w _ from (by repeat (first | exact Gr.refl _ | refine Gr.alloc ?_ _ | refine Gr.trans ?_ (by assumption) | refine Gr.drew ?_ | refine Gr.drewN ?_ _ | refine Gr.grow ?_ _ | refine Gr.setCell ?_ (by (try simp); (try omega)) _))).keep0 (HQ2.out j u hu))).mono ?_; rintro e w1 ⟨v1, rfl, ho1, hb1⟩)))
    all_goals
      have HO := Lib.hid ho1
      have HB := Lib.hid hb1
      clear ho1 hb1
      go_wp2
      go_ret
      have hz := (show Gr w (w.alloc (.cells #[.slice (some ⟨g, o, none⟩) k k, .slice (some ⟨g, o + (k + 1) * 3, none⟩) (cs.length - (k + 1)) (c - (k + 1))] 37)).drew from (by repeat (first | exact Gr.refl _ | refine Gr.alloc ?_ _ | refine Gr.trans ?_ (by assumption) | refine Gr.drew ?_ | refine Gr.drewN ?_ _ | refine Gr.grow ?_ _ | refine Gr.setCell ?_ (by (try simp); (try omega)) _))).below
      refine ⟨_, rfl, ?_, ?_⟩
      · have := HO.out
        rw [HW.out] at this
        exact OwnE.mono this hz.size
      · exact hz.trans (HB.out.mono hz.size)
set_option maxRecDepth 100000 in
set_option maxHeartbeats 1600000 in
theorem Try.pzWithout (w : World) (v : Value) (cs : List Clu) (k : Nat) (hk : k < cs.length) (hl : cs.length ≤ 100) (h : CluRow w v cs) :
    Calls Try.prog 75 #[v, .int .i64 k] w fun e w' => ∃ v', e = .returned v' ∧ OwnC w' w.heap.size v' (wout cs k) ∧ Below w.heap.size w w' := by
  obtain ⟨A, c, rfl, hlc, hcm, h⟩ := h
  unfold maxLen at hcm
  rcases h with e | ⟨g, o, rfl, hc⟩
  · rw [e] at hk; simp at hk
  have hq1 : ∀ j u, (ecs ccs (cs.take k))[j]? = some u → w.cell? ((⟨g, o, none⟩ : Addr).add j) = some u := by
    have := clu_reads hc 0 k (by omega)
    simpa using this
  have hq2 : ∀ j u, (ecs ccs (cs.drop (k + 1)))[j]? = some u → w.cell? ((⟨g, o + (k + 1) * 3, none⟩ : Addr).add j) = some u := by
    have := clu_reads hc (k + 1) (cs.length - (k + 1)) (by omega)
    rwa [List.take_of_length_le (by simp)] at this
  have hl1 : (cs.take k).length = k := by simp; omega
  have hl2 : (cs.drop (k + 1)).length = cs.length - (k + 1) := by simp
  have z0 : (0 : Int) ≤ (k : Int) := by omega
  have z1 : (k : Int) ≤ (c : Int) := by omega
  have z2 : (k : Int) + 1 ≤ (cs.length : Int) := by omega
  have z3 : (0 : Int) ≤ (k : Int) + 1 := by omega
  have z4 : (cs.length : Int) ≤ (c : Int) := by omega
  have e1 : IntKind.i64.wrap ((k : Int) + 1) = (k : Int) + 1 := wr64 _ (by omega) (by omega)
  have t1 : ((k : Int) + 1).toNat = k + 1 := by omega
  have mixed : Try.prog.follows .mixedOrders = true := by kernel_rfl
  have z5 : (k : Int) ≤ (k : Int) + 1 := by omega
  have HK := Lib.hid hk
  have HQ1 := Lib.hid hq1
  have HQ2 := Lib.hid hq2
  have HL1 := Lib.hid hl1
  have HL2 := Lib.hid hl2
  have HLL := Lib.hid hl
  by_cases hck : c = k + 1
  · subst hck
    have hn : cs.drop (k + 1) = [] := List.drop_eq_nil_of_le (by omega)
    have HW := Lib.hid (show cs.take k ++ [] = wout cs k by unfold wout; rw [hn])
    have z6 : (cs.length : Int) = (k : Int) + 1 := by omega
    clear hc hq1 hq2 hk hl1 hl2 hl hn
    go_enter Try.func75, Try.ntmps75
    go_wp2
    go_region_held3 (fun _ => True) (trivial) ((first
      | (refine step_appE ccs_len ccs_one rfl (.tmp 5) (.tmp 8) 37 rfl _ Try.underlying37 Try.infoC rfl (by decide) (by decide) w.heap.size (.slice (some ⟨w.heap.size, 0, none⟩) 0 0) [] rfl (OwnE.empty (by refine heap_new' ?_; simp; done) (Nat.le_refl _)) ⟨g, o, none⟩ k (k + 1) (cs.take k) rfl HL1.out (fun j u hu => (show Gr w _ from (by repeat (first | exact Gr.refl _ | refine Gr.alloc ?_ _ | refine Gr.trans ?_ (by assumption) | refine Gr.drew ?_ | refine Gr.drewN ?_ _ | refine Gr.grow ?_ _ | refine Gr.setCell ?_ (by (try simp); (try omega)) _))).keep0 (HQ1.out j u hu)) (by simp) (by have := HL1.out; have := HLL.out; have := HK.out; omega) (by simp) ?_; intro v1 w1 ho1 hb1 _ _; have B1 := (show Gr w _ from (by repeat (first | exact Gr.refl _ | refine Gr.alloc ?_ _ | refine Gr.trans ?_ (by assumption) | refine Gr.drew ?_ | refine Gr.drewN ?_ _ | refine Gr.grow ?_ _ | refine Gr.setCell ?_ (by (try simp); (try omega)) _))).below.trans hb1)
      | (refine step_appE ccs_len ccs_one rfl (.tmp 9) (.tmp 13) 37 rfl _ Try.underlying37 Try.infoC rfl (by decide) (by decide) w.heap.size v1 _ rfl (by first | exact ho1 | exact OwnE.gr ho1 (by repeat (first | exact Gr.refl _ | refine Gr.alloc ?_ _ | refine Gr.trans ?_ (by assumption) | refine Gr.drew ?_ | refine Gr.drewN ?_ _ | refine Gr.grow ?_ _ | refine Gr.setCell ?_ (by (try simp); (try omega)) _))) ⟨g, o, none⟩ 0 0 [] rfl rfl (fun j u hu => by simp [ecs] at hu) (by have := HL1.out; have := HLL.out; have := HK.out; simp; omega) (by simp) (by have := B1.size; simp; omega) ?_; intro v2 w2 ho2 hb2 _ _)))
    all_goals
      have HO := Lib.hid ho2
      have HB := Lib.hid (B1.trans (hb2.mono (Nat.le_refl _)))
      clear ho1 hb1 ho2 hb2
      go_wp2
      go_ret
      exact ⟨_, rfl, by have := HO.out; rw [List.nil_append, HW.out] at this; exact this, HB.out⟩
  · have HW := Lib.hid (show cs.take k ++ cs.drop (k + 1) = wout cs k from rfl)
    have z6 : ¬ (c : Int) = (k : Int) + 1 := by omega
    have z7 : (k : Int) + 1 ≤ (c : Int) := by omega
    clear hc hq1 hq2 hk hl1 hl2 hl
    go_enter Try.func75, Try.ntmps75
    go_wp2
    go_region_held3 (fun _ => True) (trivial) ((first
      | (refine step_appE ccs_len ccs_one rfl (.tmp 5) (.tmp 8) 37 rfl _ Try.underlying37 Try.infoC rfl (by decide) (by decide) w.heap.size (.slice (some ⟨w.heap.size, 0, none⟩) 0 0) [] rfl (OwnE.empty (by refine heap_new' ?_; simp; done) (Nat.le_refl _)) ⟨g, o, none⟩ k c (cs.take k) rfl HL1.out (fun j u hu => (show Gr w _ from (by repeat (first | exact Gr.refl _ | refine Gr.alloc ?_ _ | refine Gr.trans ?_ (by assumption) | refine Gr.drew ?_ | refine Gr.drewN ?_ _ | refine Gr.grow ?_ _ | refine Gr.setCell ?_ (by (try simp); (try omega)) _))).keep0 (HQ1.out j u hu)) (by simp) (by have := HL1.out; have := HLL.out; have := HK.out; omega) (by simp) ?_; intro v1 w1 ho1 hb1 _ _; have B1 := (show Gr w _ from (by repeat (first | exact Gr.refl _ | refine Gr.alloc ?_ _ | refine Gr.trans ?_ (by assumption) | refine Gr.drew ?_ | refine Gr.drewN ?_ _ | refine Gr.grow ?_ _ | refine Gr.setCell ?_ (by (try simp); (try omega)) _))).below.trans hb1)
      | (refine step_appE ccs_len ccs_one rfl (.tmp 9) (.tmp 13) 37 rfl _ Try.underlying37 Try.infoC rfl (by decide) (by decide) w.heap.size v1 _ rfl (by first | exact ho1 | exact OwnE.gr ho1 (by repeat (first | exact Gr.refl _ | refine Gr.alloc ?_ _ | refine Gr.trans ?_ (by assumption) | refine Gr.drew ?_ | refine Gr.drewN ?_ _ | refine Gr.grow ?_ _ | refine Gr.setCell ?_ (by (try simp); (try omega)) _))) ⟨g, o + (k + 1) * 3, none⟩ (cs.length - (k + 1)) (c - (k + 1)) (cs.drop (k + 1)) rfl HL2.out (fun j u hu => cell_k2 (by first | exact B1 | exact B1.drew) (HQ2.out j u hu)) (by have := HL1.out; have := HLL.out; have := HK.out; simp; omega) (by have := HL2.out; have := HLL.out; omega) (by have := B1.size; simp; omega) ?_; intro v2 w2 ho2 hb2 _ _)))
    all_goals
      have HO := Lib.hid ho2
      have HB := Lib.hid (B1.trans (hb2.mono (Nat.le_refl _)))
      clear ho1 hb1 ho2 hb2
      go_wp2
      go_ret
      exact ⟨_, rfl, by have := HO.out; rw [List.nil_append, HW.out] at this; exact this, HB.out⟩
end Go.Proofs
