/-
  Chapter 9: a clue dropped, both sides.
-/
import Derived.Test.YtbnabjnpdkmbhaaPzR
namespace Go.Proofs
open Go.RowKit
set_option linter.unusedVariables false
set_option linter.unusedSimpArgs false
/-- a puzzle that a call hands back: a street, and clues of the call's own -/
def RetZ (w : World) (K P : Int) (cs : List Clu) (b : Bool) (e : Ending) (w' : World) : Prop := ∃ v', e = .returned (.tuple #[.agg #[.int .i64 K, .int .i64 P, v'], .bool b]) ∧ OwnC w' w.heap.size v' cs ∧ Below w.heap.size w w'
def dcB (k p : Int) (cs : List Clu) (j : Int) : Bool := pgood k p cs && inn j 0 ((cs.length : Int) - 1)
def dcL (k p : Int) (cs : List Clu) (j : Int) : List Clu := if dcB k p cs j then wout cs j.toNat else []
theorem dcL_len (k p : Int) (cs : List Clu) (j : Int) : (dcL k p cs j).length ≤ 6 := by
  unfold dcL
  cases h : dcB k p cs j
  · simp
  · rw [if_pos rfl]
    unfold dcB at h
    rw [Bool.and_eq_true] at h
    have := (pgood_lt h.1).2.1
    unfold wout
    simp
    omega
def ifZ (b : Bool) (n : Int) : Int := if b then n else 0
theorem cell_set_lt {w : World} {a b : Addr} {u v : Value} (h : w.cell? a = some v) (hb : a.block < b.block) : (w.setCell b u).cell? a = some v := by
  unfold World.cell? at *
  rw [heap_setCell_other w b a.block u (fun e => by omega)]
  exact h
theorem keep3S {w : World} {a b c : Addr} {x y z : Value} {n o : Nat} {u : Value} (ha : a.block < n) (hb : b.block < n) (hc : c.block < n) (h : w.cell? a = some x ∧ w.cell? b = some y ∧ w.cell? c = some z) :
    (w.setCell ⟨n, o, none⟩ u).cell? a = some x ∧ (w.setCell ⟨n, o, none⟩ u).cell? b = some y ∧ (w.setCell ⟨n, o, none⟩ u).cell? c = some z :=
  ⟨cell_set_lt h.1 ha, cell_set_lt h.2.1 hb, cell_set_lt h.2.2 hc⟩
set_option maxRecDepth 100000 in
set_option maxHeartbeats 3200000 in
theorem Try.sDropClue (w : World) (k p j : Int) (v : Value) (cs : List Clu) (h : CluRow w v cs) :
    Calls Try.prog 45 #[pzV k p v, .int .i64 j] w (RetZ w (ifZ (dcB k p cs j) k) (ifZ (dcB k p cs j) p) (dcL k p cs j) (dcB k p cs j)) := by
  have mixed : Try.prog.follows .mixedOrders = true := by kernel_rfl
  have PG := Lib.hid (fun (W : World) (g : Gr w W) b hb => Try.pzGood W k p v cs b hb (h.gr g))
  have HRow := Lib.hid h
  obtain ⟨A, c, rfl, hlc, hm, _⟩ := h
  unfold maxLen at hm
  cases hb : dcB k p cs j
  · rw [show dcL k p cs j = [] by simp [dcL, hb]]
    unfold ifZ
    simp only [Bool.false_eq_true, if_false]
    cases hg : pgood k p cs
    · have HG := Lib.hid hg
      clear hb hg
      go_enter Try.func45, Try.ntmps45
      go_wp2_with (first | (go_at_call 63; refine (PG.out _ (by repeat (first | exact Gr.refl _ | refine Gr.alloc ?_ _ | refine Gr.trans ?_ (by assumption) | refine Gr.drew ?_ | refine Gr.drewN ?_ _ | refine Gr.grow ?_ _ | refine Gr.setCell ?_ (by (try simp); (try omega)) _)) _ HG.out).mono ?_; rintro e w1 ⟨rfl, hbW⟩; have hcW := (bcell hbW.below).1; have hfW := (bcell hbW.below).2; (try have hzW : w.heap.size < w1.heap.size := by have hq := hbW.below.size; (try simp at hq); omega); (try have hyW : w.heap.size + 1 < w1.heap.size := by have hq := hbW.below.size; (try simp at hq); omega); (try have hxW : w.heap.size + 2 < w1.heap.size := by have hq := hbW.below.size; (try simp at hq); omega)))
      refine bodyPost_ret (v := .tuple #[.agg #[.int .i64 0, .int .i64 0, .slice none 0 0], .bool false]) (by simp [results, Try.results45, go_sem, hcW, hfW, hyW]) rfl ⟨_, rfl, OwnE.nil _ _ _ _ _, Gr.below (by repeat (first | exact Gr.refl _ | refine Gr.alloc ?_ _ | refine Gr.trans ?_ (by assumption) | refine Gr.drew ?_ | refine Gr.drewN ?_ _ | refine Gr.grow ?_ _ | refine Gr.setCell ?_ (by (try simp); (try omega)) _))⟩
    · have HG := Lib.hid hg
      have HI := Lib.hid (show inn j 0 ((cs.length : Int) - 1) = false by unfold dcB at hb; rw [hg, Bool.true_and] at hb; exact hb)
      have h6 := (pgood_lt hg).2.1
      clear hb hg
      go_enter Try.func45, Try.ntmps45
      go_wp2_with (first | (go_at_call 63; refine (PG.out _ (by repeat (first | exact Gr.refl _ | refine Gr.alloc ?_ _ | refine Gr.trans ?_ (by assumption) | refine Gr.drew ?_ | refine Gr.drewN ?_ _ | refine Gr.grow ?_ _ | refine Gr.setCell ?_ (by (try simp); (try omega)) _)) _ HG.out).mono ?_; rintro e w1 ⟨rfl, hbW⟩; have hcW := (bcell hbW.below).1; have hfW := (bcell hbW.below).2; (try have hzW : w.heap.size < w1.heap.size := by have hq := hbW.below.size; (try simp at hq); omega); (try have hyW : w.heap.size + 1 < w1.heap.size := by have hq := hbW.below.size; (try simp at hq); omega); (try have hxW : w.heap.size + 2 < w1.heap.size := by have hq := hbW.below.size; (try simp at hq); omega)) | (go_at_call 77; refine (Try.l1In_b _ _ _ _ HI.out _).mono ?_; rintro e w1 ⟨rfl, rfl⟩))
      refine bodyPost_ret (v := .tuple #[.agg #[.int .i64 0, .int .i64 0, .slice none 0 0], .bool false]) (by simp [results, Try.results45, go_sem, hcW, hfW, hyW]) rfl ⟨_, rfl, OwnE.nil _ _ _ _ _, Gr.below (by repeat (first | exact Gr.refl _ | refine Gr.alloc ?_ _ | refine Gr.trans ?_ (by assumption) | refine Gr.drew ?_ | refine Gr.drewN ?_ _ | refine Gr.grow ?_ _ | refine Gr.setCell ?_ (by (try simp); (try omega)) _))⟩
  · rw [show dcL k p cs j = wout cs j.toNat by simp [dcL, hb]]
    unfold ifZ
    simp only [if_true]
    have hb' := hb
    unfold dcB at hb'
    rw [Bool.and_eq_true] at hb'
    have hg := hb'.1
    obtain ⟨q1, q2, q3⟩ := pgood_lt hg
    obtain ⟨j0, j1⟩ := inn_e hb'.2
    obtain ⟨q, rfl⟩ : ∃ q : Nat, j = q := ⟨j.toNat, by omega⟩
    rw [show (q : Int).toNat = q by omega]
    have WO := Lib.hid (fun (W : World) (hr : CluRow W (.slice A cs.length c) cs) => Try.pzWithout W (.slice A cs.length c) cs q (by omega) (by omega) hr)
    have HI := Lib.hid hb'.2
    have HG := Lib.hid hg
    have HD := Lib.hid hb
    clear hb hb' hg q1 q3
    go_enter Try.func45, Try.ntmps45
    go_wp2_with (first | (go_at_call 63; refine (PG.out _ (by repeat (first | exact Gr.refl _ | refine Gr.alloc ?_ _ | refine Gr.trans ?_ (by assumption) | refine Gr.drew ?_ | refine Gr.drewN ?_ _ | refine Gr.grow ?_ _ | refine Gr.setCell ?_ (by (try simp); (try omega)) _)) _ HG.out).mono ?_; rintro e W1 ⟨rfl, hbW⟩; have zW1 : w.heap.size < W1.heap.size := (by have hq := hbW.below.size; (try simp at hq); omega); have dl0 : W1.cell? ⟨w.heap.size, 2, none⟩ = some (.slice A cs.length c) := hbW.keep0 (by simp [go_sem])) | (go_at_call 77; refine (Try.l1In_b _ _ _ _ HI.out _).mono ?_; rintro e w1 ⟨rfl, rfl⟩))
    have p0 : W1.cell? ⟨w.heap.size, 0, none⟩ = some (.int .i64 k) := hbW.keep0 (by simp [go_sem])
    have p1 : W1.cell? ⟨w.heap.size, 1, none⟩ = some (.int .i64 p) := hbW.keep0 (by simp [go_sem])
    have p2 : W1.cell? ⟨w.heap.size, 2, none⟩ = some (.slice A cs.length c) := hbW.keep0 (by simp [go_sem])
    have p3 : W1.cell? ⟨w.heap.size + 1, 0, none⟩ = some (.int .i64 0) := hbW.keep0 (by simp [go_sem])
    have p4 : W1.cell? ⟨w.heap.size + 1, 1, none⟩ = some (.int .i64 0) := hbW.keep0 (by simp [go_sem])
    have p5 : W1.cell? ⟨w.heap.size + 1, 2, none⟩ = some (.slice none 0 0) := hbW.keep0 (by simp [go_sem])
    have BW := Lib.hid (((Gr.alloc (Gr.alloc (Gr.refl w) _) _).trans hbW))
    have hf : ∀ o, W1.frozen? ⟨w.heap.size + 1, o, none⟩ = false := fun o => ((bcell hbW.below).2 _ _ (by simp)).trans (by simp [go_sem])
    have hz := World.block_lt_of_cell? _ _ p3
    have HF := Lib.hid hf
    have PP := Lib.hid (And.intro p0 (And.intro p1 p2))
    have P3 := Lib.hid (And.intro p3 (And.intro p4 p5))
    clear hbW hf
    go_region_held3 (fun W' => W'.cell? ⟨w.heap.size, 0, none⟩ = some (.int .i64 k) ∧ W'.cell? ⟨w.heap.size, 1, none⟩ = some (.int .i64 p) ∧ W'.cell? ⟨w.heap.size, 2, none⟩ = some (.slice A cs.length c))
      (first | exact ⟨p0, p1, p2⟩ | exact keep3 (Below.drew (Below.refl _ _)) PP.out | exact keep3 b3 (by assumption) | exact keep3 (Below.drew (Below.refl _ _)) (by assumption) | exact keep3S (Nat.lt_succ_self _) (Nat.lt_succ_self _) (Nat.lt_succ_self _) (keep3S (Nat.lt_succ_self _) (Nat.lt_succ_self _) (Nat.lt_succ_self _) (keep3S (Nat.lt_succ_self _) (Nat.lt_succ_self _) (Nat.lt_succ_self _) (by first | assumption | exact keep3 b3 PP.out | exact keep3 b3 (keep3 (Below.drew (Below.refl _ _)) PP.out)))))
      ((first | (go_at_call 75; refine (WO.out _ (HRow.out.below (BW.out.below.trans (by first | exact (Below.refl _ _) | exact (Gr.drew (Gr.refl _)).below.mono BW.out.below.size)))).mono ?_; rintro e w3 ⟨v3, rfl, ho3, b3⟩; obtain ⟨A3, c3, rfl, ho3⟩ := OwnE.eta ho3; have B3 := (show Below W1.heap.size W1 w3 by first | exact b3 | exact (Below.drew (Below.refl _ _)).trans b3); have hf3 : ∀ o, w3.frozen? ⟨w.heap.size + 1, o, none⟩ = false := fun o => (B3.frozen (p := ⟨w.heap.size + 1, o, none⟩) hz).trans (HF.out o); have r0 := cell_k2 B3 P3.out.1; have r1 := cell_k2 B3 P3.out.2.1; have r2 := cell_k2 B3 P3.out.2.2)))
    have HO := Lib.hid ho3
    have HB := Lib.hid (BW.out.below.trans (B3.mono BW.out.below.size))
    have hzB := BW.out.below.size
    clear ho3 b3 B3
    go_wp2
    refine bodyPost_ret (v := .tuple #[.agg #[.int .i64 k, .int .i64 p, .slice A3 (wout cs q).length c3], .bool true]) (by simp [results, Try.results45, go_sem, r0, r1, r2]) rfl ⟨_, rfl, ?_, ?_⟩
    · exact OwnE.mono (OwnE.setOther (OwnE.setOther (OwnE.setOther HO.out (by (try simp); omega) _) (by (try simp); omega) _) (by (try simp); omega) _) (by (try simp); omega)
    · exact ((HB.out.setCell (by simp) _).setCell (by simp) _).setCell (by simp) _
set_option maxRecDepth 100000 in
set_option maxHeartbeats 3200000 in
theorem Try.iDropClue (w : World) (k p j : Int) (v : Value) (cs : List Clu) (h : CluRow w v cs) :
    Calls Try.prog 46 #[pzV k p v, .int .i64 j] w (RetZ w (ifZ (dcB k p cs j) k) (ifZ (dcB k p cs j) p) (dcL k p cs j) (dcB k p cs j)) := by
  have mixed : Try.prog.follows .mixedOrders = true := by kernel_rfl
  have PG := Lib.hid (fun (W : World) (g : Gr w W) b hb => Try.haveClue W k p j v cs b hb (h.gr g))
  have HRow := Lib.hid h
  obtain ⟨A, c, rfl, hlc, hm, _⟩ := h
  unfold maxLen at hm
  cases hb : dcB k p cs j
  · rw [show dcL k p cs j = [] by simp [dcL, hb]]
    unfold ifZ
    simp only [Bool.false_eq_true, if_false]
    have HD := Lib.hid hb
    clear hb
    go_enter Try.func46, Try.ntmps46
    go_wp2_with (first | (go_at_call 78; refine (PG.out _ (by repeat (first | exact Gr.refl _ | refine Gr.alloc ?_ _ | refine Gr.trans ?_ (by assumption) | refine Gr.drew ?_ | refine Gr.drewN ?_ _ | refine Gr.grow ?_ _ | refine Gr.setCell ?_ (by (try simp); (try omega)) _)) _ HD.out).mono ?_; rintro e w1 ⟨rfl, hbW⟩; have hcW := (bcell hbW.below).1; have hfW := (bcell hbW.below).2; (try have hzW : w.heap.size < w1.heap.size := by have hq := hbW.below.size; (try simp at hq); omega); (try have hyW : w.heap.size + 1 < w1.heap.size := by have hq := hbW.below.size; (try simp at hq); omega); (try have hxW : w.heap.size + 2 < w1.heap.size := by have hq := hbW.below.size; (try simp at hq); omega)))
    refine bodyPost_ret (v := .tuple #[.agg #[.int .i64 0, .int .i64 0, .slice none 0 0], .bool false]) (by simp [results, Try.results46, go_sem, hcW, hfW, hyW]) rfl ⟨_, rfl, OwnE.nil _ _ _ _ _, Gr.below (by repeat (first | exact Gr.refl _ | refine Gr.alloc ?_ _ | refine Gr.trans ?_ (by assumption) | refine Gr.drew ?_ | refine Gr.drewN ?_ _ | refine Gr.grow ?_ _ | refine Gr.setCell ?_ (by (try simp); (try omega)) _))⟩
  · rw [show dcL k p cs j = wout cs j.toNat by simp [dcL, hb]]
    unfold ifZ
    simp only [if_true]
    have hb' := hb
    unfold dcB at hb'
    rw [Bool.and_eq_true] at hb'
    have hg := hb'.1
    obtain ⟨q1, q2, q3⟩ := pgood_lt hg
    obtain ⟨j0, j1⟩ := inn_e hb'.2
    obtain ⟨q, rfl⟩ : ∃ q : Nat, j = q := ⟨j.toNat, by omega⟩
    rw [show (q : Int).toNat = q by omega]
    have WO := Lib.hid (fun (W : World) (hr : CluRow W (.slice A cs.length c) cs) => Try.without W (.slice A cs.length c) cs q (by omega) (by omega) hr)
    have HI := Lib.hid hb'.2
    have HG := Lib.hid hg
    have HD := Lib.hid hb
    clear hb hb' hg q1 q3
    go_enter Try.func46, Try.ntmps46
    go_wp2_with (first | (go_at_call 78; refine (PG.out _ (by repeat (first | exact Gr.refl _ | refine Gr.alloc ?_ _ | refine Gr.trans ?_ (by assumption) | refine Gr.drew ?_ | refine Gr.drewN ?_ _ | refine Gr.grow ?_ _ | refine Gr.setCell ?_ (by (try simp); (try omega)) _)) _ HD.out).mono ?_; rintro e W1 ⟨rfl, hbW⟩; have zW1 : w.heap.size < W1.heap.size := (by have hq := hbW.below.size; (try simp at hq); omega); have dl0 : W1.cell? ⟨w.heap.size, 2, none⟩ = some (.slice A cs.length c) := hbW.keep0 (by simp [go_sem])))
    have p0 : W1.cell? ⟨w.heap.size, 0, none⟩ = some (.int .i64 k) := hbW.keep0 (by simp [go_sem])
    have p1 : W1.cell? ⟨w.heap.size, 1, none⟩ = some (.int .i64 p) := hbW.keep0 (by simp [go_sem])
    have p2 : W1.cell? ⟨w.heap.size, 2, none⟩ = some (.slice A cs.length c) := hbW.keep0 (by simp [go_sem])
    have p3 : W1.cell? ⟨w.heap.size + 1, 0, none⟩ = some (.int .i64 0) := hbW.keep0 (by simp [go_sem])
    have p4 : W1.cell? ⟨w.heap.size + 1, 1, none⟩ = some (.int .i64 0) := hbW.keep0 (by simp [go_sem])
    have p5 : W1.cell? ⟨w.heap.size + 1, 2, none⟩ = some (.slice none 0 0) := hbW.keep0 (by simp [go_sem])
    have BW := Lib.hid (((Gr.alloc (Gr.alloc (Gr.refl w) _) _).trans hbW))
    have hf : ∀ o, W1.frozen? ⟨w.heap.size + 1, o, none⟩ = false := fun o => ((bcell hbW.below).2 _ _ (by simp)).trans (by simp [go_sem])
    have hz := World.block_lt_of_cell? _ _ p3
    have HF := Lib.hid hf
    have PP := Lib.hid (And.intro p0 (And.intro p1 p2))
    have P3 := Lib.hid (And.intro p3 (And.intro p4 p5))
    clear hbW hf
    go_region_held3 (fun W' => W'.cell? ⟨w.heap.size, 0, none⟩ = some (.int .i64 k) ∧ W'.cell? ⟨w.heap.size, 1, none⟩ = some (.int .i64 p) ∧ W'.cell? ⟨w.heap.size, 2, none⟩ = some (.slice A cs.length c))
      (first | exact ⟨p0, p1, p2⟩ | exact keep3 (Below.drew (Below.refl _ _)) PP.out | exact keep3 b3 (by assumption) | exact keep3 (Below.drew (Below.refl _ _)) (by assumption) | exact keep3S (Nat.lt_succ_self _) (Nat.lt_succ_self _) (Nat.lt_succ_self _) (keep3S (Nat.lt_succ_self _) (Nat.lt_succ_self _) (Nat.lt_succ_self _) (keep3S (Nat.lt_succ_self _) (Nat.lt_succ_self _) (Nat.lt_succ_self _) (by first | assumption | exact keep3 b3 PP.out | exact keep3 b3 (keep3 (Below.drew (Below.refl _ _)) PP.out)))))
      ((first | (go_at_call 76; refine (WO.out _ (HRow.out.below (BW.out.below.trans (by first | exact (Below.refl _ _) | exact (Gr.drew (Gr.refl _)).below.mono BW.out.below.size)))).mono ?_; rintro e w3 ⟨v3, rfl, ho3, b3⟩; obtain ⟨A3, c3, rfl, ho3⟩ := OwnE.eta ho3; have B3 := (show Below W1.heap.size W1 w3 by first | exact b3 | exact (Below.drew (Below.refl _ _)).trans b3); have hf3 : ∀ o, w3.frozen? ⟨w.heap.size + 1, o, none⟩ = false := fun o => (B3.frozen (p := ⟨w.heap.size + 1, o, none⟩) hz).trans (HF.out o); have r0 := cell_k2 B3 P3.out.1; have r1 := cell_k2 B3 P3.out.2.1; have r2 := cell_k2 B3 P3.out.2.2)))
    have HO := Lib.hid ho3
    have HB := Lib.hid (BW.out.below.trans (B3.mono BW.out.below.size))
    have hzB := BW.out.below.size
    clear ho3 b3 B3
    go_wp2
    refine bodyPost_ret (v := .tuple #[.agg #[.int .i64 k, .int .i64 p, .slice A3 (wout cs q).length c3], .bool true]) (by simp [results, Try.results46, go_sem, r0, r1, r2]) rfl ⟨_, rfl, ?_, ?_⟩
    · exact OwnE.mono (OwnE.setOther (OwnE.setOther (OwnE.setOther HO.out (by (try simp); omega) _) (by (try simp); omega) _) (by (try simp); omega) _) (by (try simp); omega)
    · exact ((HB.out.setCell (by simp) _).setCell (by simp) _).setCell (by simp) _
end Go.Proofs
