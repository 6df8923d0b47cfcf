/-
  Chapter 9: the best clue, both sides.
-/
import Derived.Test.YtbnabjnpdkmbhaaPzQ
namespace Go.Proofs
open Go.RowKit
set_option linter.unusedVariables false
set_option linter.unusedSimpArgs false
set_option maxRecDepth 100000 in
set_option maxHeartbeats 800000 in
theorem Try.haveClue (w : World) (k p j : Int) (v : Value) (cs : List Clu) (b : Bool) (hb : (pgood k p cs && inn j 0 ((cs.length : Int) - 1)) = b) (h : CluRow w v cs) :
    Calls Try.prog 78 #[pzV k p v, .int .i64 j] w fun e w' => e = .returned (.bool b) ∧ Gr w w' := by
  have PG := Lib.hid (fun (W : World) (g : Gr w W) q hq => Try.iIsPuzzle W k p v cs q hq (h.gr g))
  obtain ⟨A, c, rfl, hlc, hm, h⟩ := h
  unfold maxLen at hm
  clear h
  cases hg : pgood k p cs
  · obtain rfl : false = b := by rw [← hb, hg]; rfl
    have HG := Lib.hid hg
    clear hb hg
    go_enter Try.func78, Try.ntmps78
    go_wp2_with (first | (go_at_call 25; refine (PG.out _ (by repeat (first | exact Gr.refl _ | refine Gr.alloc ?_ _ | refine Gr.trans ?_ (by assumption) | refine Gr.drew ?_ | refine Gr.drewN ?_ _ | refine Gr.grow ?_ _ | refine Gr.setCell ?_ (by (try simp); (try omega)) _)) _ HG.out).mono ?_; rintro e w1 ⟨rfl, hbW⟩; have hcW := (bcell hbW.below).1; have hfW := (bcell hbW.below).2; (try have hzW : w.heap.size < w1.heap.size := by have hq := hbW.below.size; (try simp at hq); omega); (try have hyW : w.heap.size + 1 < w1.heap.size := by have hq := hbW.below.size; (try simp at hq); omega); (try have hxW : w.heap.size + 2 < w1.heap.size := by have hq := hbW.below.size; (try simp at hq); omega)))
    go_ret
    exact ⟨rfl, by repeat (first | exact Gr.refl _ | refine Gr.alloc ?_ _ | refine Gr.trans ?_ (by assumption) | refine Gr.drew ?_ | refine Gr.drewN ?_ _ | refine Gr.grow ?_ _ | refine Gr.setCell ?_ (by (try simp); (try omega)) _)⟩
  · have h6 := (pgood_lt hg).2.1
    have HG := Lib.hid hg
    have HI := Lib.hid (show inn j 0 ((cs.length : Int) - 1) = b by rw [← hb, hg]; rfl)
    clear hb hg
    go_enter Try.func78, Try.ntmps78
    go_wp2_with (first | (go_at_call 25; refine (PG.out _ (by repeat (first | exact Gr.refl _ | refine Gr.alloc ?_ _ | refine Gr.trans ?_ (by assumption) | refine Gr.drew ?_ | refine Gr.drewN ?_ _ | refine Gr.grow ?_ _ | refine Gr.setCell ?_ (by (try simp); (try omega)) _)) _ HG.out).mono ?_; rintro e w1 ⟨rfl, hbW⟩; have hcW := (bcell hbW.below).1; have hfW := (bcell hbW.below).2; (try have hzW : w.heap.size < w1.heap.size := by have hq := hbW.below.size; (try simp at hq); omega); (try have hyW : w.heap.size + 1 < w1.heap.size := by have hq := hbW.below.size; (try simp at hq); omega); (try have hxW : w.heap.size + 2 < w1.heap.size := by have hq := hbW.below.size; (try simp at hq); omega)) | (go_at_call 84; refine (Try.within_b _ _ _ _ HI.out _).mono ?_; rintro e w1 ⟨rfl, rfl⟩))
    go_ret
    exact ⟨rfl, by repeat (first | exact Gr.refl _ | refine Gr.alloc ?_ _ | refine Gr.trans ?_ (by assumption) | refine Gr.drew ?_ | refine Gr.drewN ?_ _ | refine Gr.grow ?_ _ | refine Gr.setCell ?_ (by (try simp); (try omega)) _)⟩
def cnt1 (k p : Int) (cs : List Clu) (q : Nat) : Int := ((pall k p ((cs.drop q).take 1)).length : Int)
def bstT (k p : Int) (cs : List Clu) : Nat → Nat × Int
  | 0 => (0, 41)
  | q + 1 => if cnt1 k p cs q < (bstT k p cs q).2 then (q, cnt1 k p cs q) else bstT k p cs q
theorem bst_lt (k p : Int) (cs : List Clu) (q : Nat) : (bstT k p cs q).1 ≤ q := by
  induction q with
  | zero => exact Nat.le_refl _
  | succ q ih => unfold bstT; split <;> (try simp only) <;> omega
def bcB (k p : Int) (cs : List Clu) : Bool := pgood k p cs && decide (0 < cs.length)
def bcV (k p : Int) (cs : List Clu) : Int := if bcB k p cs then ((bstT k p cs cs.length).1 : Int) else 0
theorem cnt1_le {k p : Int} (h : pst k p = true) (cs : List Clu) (q : Nat) : cnt1 k p cs q ≤ 40 := by
  have := pall_len h ((cs.drop q).take 1)
  unfold cnt1
  omega
def BRelS (k p : Int) (cs : List Clu) (w W0 : World) (s t i : Value) (wr : World) : Prop := ∃ q : Nat, q ≤ cs.length ∧ i = .int .i64 q ∧ ((q = 0 ∧ s = .int .i64 0 ∧ t = .int .i64 0) ∨ (0 < q ∧ s = .int .i64 (bstT k p cs q).1 ∧ t = .int .i64 (bstT k p cs q).2)) ∧ Below (w.heap.size + 1) W0 wr
def BRelI (k p : Int) (cs : List Clu) (w W0 : World) (s t i : Value) (wr : World) : Prop := ∃ q : Nat, q ≤ cs.length ∧ i = .int .i64 q ∧ (s = .int .i64 (bstT k p cs q).1 ∧ t = .int .i64 (bstT k p cs q).2) ∧ Below (w.heap.size + 1) W0 wr
set_option maxRecDepth 100000 in
set_option maxHeartbeats 3200000 in
theorem Try.sBestClue (w : World) (k p : Int) (v : Value) (cs : List Clu) (h : CluRow w v cs) :
    Calls Try.prog 52 #[pzV k p v] w fun e w' => e = .returned (.tuple #[.int .i64 (bcV k p cs), .bool (bcB k p cs)]) ∧ Below w.heap.size w w' := by
  have mixed : Try.prog.follows .mixedOrders = true := by kernel_rfl
  have PG := Lib.hid (fun (W : World) (g : Gr w W) b hb => Try.pzGood W k p v cs b hb (h.gr g))
  have HRow := Lib.hid h
  obtain ⟨A, c, rfl, hlc, hm, h⟩ := h
  unfold maxLen at hm
  cases hb : bcB k p cs
  · rw [show bcV k p cs = 0 by simp [bcV, hb]]
    cases hg : pgood k p cs
    · have HG := Lib.hid hg
      clear hb h hg
      go_enter Try.func52, Try.ntmps52
      go_wp2_with (first | (go_at_call 63; refine (PG.out _ (by repeat (first | exact Gr.refl _ | refine Gr.alloc ?_ _ | refine Gr.trans ?_ (by assumption) | refine Gr.drew ?_ | refine Gr.drewN ?_ _ | refine Gr.grow ?_ _ | refine Gr.setCell ?_ (by (try simp); (try omega)) _)) _ HG.out).mono ?_; rintro e w1 ⟨rfl, hbW⟩; have hcW := (bcell hbW.below).1; have hfW := (bcell hbW.below).2; (try have hzW : w.heap.size < w1.heap.size := by have hq := hbW.below.size; (try simp at hq); omega); (try have hyW : w.heap.size + 1 < w1.heap.size := by have hq := hbW.below.size; (try simp at hq); omega); (try have hxW : w.heap.size + 2 < w1.heap.size := by have hq := hbW.below.size; (try simp at hq); omega)))
      go_ret2
      exact ⟨rfl, Gr.below (by repeat (first | exact Gr.refl _ | refine Gr.alloc ?_ _ | refine Gr.trans ?_ (by assumption) | refine Gr.drew ?_ | refine Gr.drewN ?_ _ | refine Gr.grow ?_ _ | refine Gr.setCell ?_ (by (try simp); (try omega)) _))⟩
    · have HG := Lib.hid hg
      have hz : (cs.length : Int) = 0 := by
        unfold bcB at hb
        rw [hg, Bool.true_and] at hb
        have := of_decide_eq_false hb
        omega
      clear hb h hg
      go_enter Try.func52, Try.ntmps52
      go_wp2_with (first | (go_at_call 63; refine (PG.out _ (by repeat (first | exact Gr.refl _ | refine Gr.alloc ?_ _ | refine Gr.trans ?_ (by assumption) | refine Gr.drew ?_ | refine Gr.drewN ?_ _ | refine Gr.grow ?_ _ | refine Gr.setCell ?_ (by (try simp); (try omega)) _)) _ HG.out).mono ?_; rintro e w1 ⟨rfl, hbW⟩; have hcW := (bcell hbW.below).1; have hfW := (bcell hbW.below).2; (try have hzW : w.heap.size < w1.heap.size := by have hq := hbW.below.size; (try simp at hq); omega); (try have hyW : w.heap.size + 1 < w1.heap.size := by have hq := hbW.below.size; (try simp at hq); omega); (try have hxW : w.heap.size + 2 < w1.heap.size := by have hq := hbW.below.size; (try simp at hq); omega)))
      go_ret2
      exact ⟨rfl, Gr.below (by repeat (first | exact Gr.refl _ | refine Gr.alloc ?_ _ | refine Gr.trans ?_ (by assumption) | refine Gr.drew ?_ | refine Gr.drewN ?_ _ | refine Gr.grow ?_ _ | refine Gr.setCell ?_ (by (try simp); (try omega)) _))⟩
  · have hb' := hb
    unfold bcB at hb'
    rw [Bool.and_eq_true] at hb'
    have hpos := of_decide_eq_true hb'.2
    have hg := hb'.1
    obtain ⟨q1, q2, q3⟩ := pgood_lt hg
    rcases h with e | ⟨g, o, rfl, hc⟩
    · rw [e] at hpos; simp at hpos
    have SUB := Lib.hid (fun (W : World) (hW : Below w.heap.size w W) (q c' : Nat) (hq : q < cs.length) (h1 : 1 ≤ c') (hcm : c' ≤ maxLen) => by
      exact CluRow.sub (w := W) (g := g) (o := o) (cs := cs) (fun j hj => ⟨cell_k2 hW (hc j hj).1, cell_k2 hW (hc j hj).2.1, cell_k2 hW (hc j hj).2.2⟩) q 1 c' (by omega) h1 hcm)
    have AL := Lib.hid (fun (W : World) (u : Value) (q : Nat) (hr : CluRow W u ((cs.drop q).take 1)) => Try.pzAll W k p u ((cs.drop q).take 1) q1 (drop_all q3 q 1) hr)
    have ES := Lib.hid (show ∀ q, bstT k p cs (q + 1) = if cnt1 k p cs q < (bstT k p cs q).2 then (q, cnt1 k p cs q) else bstT k p cs q from fun _ => rfl)
    have E0 := Lib.hid (show bstT k p cs 0 = (0, 41) from rfl)
    have CL := Lib.hid (fun q => cnt1_le q1 cs q)
    have hcap : (cs.length : Int) ≤ (c : Int) := by omega
    have EV := Lib.hid (show bcV k p cs = ((bstT k p cs cs.length).1 : Int) by simp [bcV, hb])
    have HG := Lib.hid (hg)
    have HP := Lib.hid hpos
    have zl : ((cs.length : Int) == 0) = false := by rw [beq_eq_false_iff_ne]; omega
    clear hb hb' hg q1 q3 hc hpos
    go_enter Try.func52, Try.ntmps52
    go_wp2_with (first | (go_at_call 63; refine (PG.out _ (by repeat (first | exact Gr.refl _ | refine Gr.alloc ?_ _ | refine Gr.trans ?_ (by assumption) | refine Gr.drew ?_ | refine Gr.drewN ?_ _ | refine Gr.grow ?_ _ | refine Gr.setCell ?_ (by (try simp); (try omega)) _)) _ HG.out).mono ?_; rintro e W1 ⟨rfl, hbW⟩; have BW := Lib.hid ((Gr.alloc (Gr.refl w) _).trans hbW).below; have d0 : W1.cell? ⟨w.heap.size, 0, none⟩ = some (.int .i64 k) := hbW.keep0 (by simp [go_sem]); have d1 : W1.cell? ⟨w.heap.size, 1, none⟩ = some (.int .i64 p) := hbW.keep0 (by simp [go_sem]); have d2 : W1.cell? ⟨w.heap.size, 2, none⟩ = some (.slice (some ⟨g, o, none⟩) cs.length c) := hbW.keep0 (by simp [go_sem]); clear hbW))
    have D := Lib.hid (And.intro d0 (And.intro d1 d2))
    have ZW := Lib.hid (show w.heap.size + 1 ≤ W1.heap.size from World.block_lt_of_cell? _ _ d0)
    clear d0 d1 d2
    go_loopw [4, 5, 20] (fun s t i wr => BRelS k p cs w W1 s t i wr) (fun _ _ i _ => (cs.length - intOf i).toNat)
    case atStart => exact ⟨0, Nat.zero_le _, rfl, .inl ⟨rfl, rfl, rfl⟩, Below.refl _ _⟩
    case round =>
      obtain ⟨q, hk, rfl, hst, hbl⟩ := hrel
      have szr := hbl.size
      have p0 : wr.cell? ⟨w.heap.size, 0, none⟩ = some (.int .i64 k) := (hbl.cell (by show w.heap.size < _; omega)).trans D.out.1
      have p1 : wr.cell? ⟨w.heap.size, 1, none⟩ = some (.int .i64 p) := (hbl.cell (by show w.heap.size < _; omega)).trans D.out.2.1
      have p2 : wr.cell? ⟨w.heap.size, 2, none⟩ = some (.slice (some ⟨g, o, none⟩) cs.length c) := (hbl.cell (by show w.heap.size < _; omega)).trans D.out.2.2
      have BB := Lib.hid (BW.out.trans (hbl.mono (Nat.le_succ _)))
      have HBL := Lib.hid hbl
      have PP := Lib.hid (And.intro p0 (And.intro p1 p2))
      have hzr := Lib.hid (show w.heap.size + 1 ≤ wr.heap.size by have := ZW.out; omega)
      clear hbl
      by_cases hlt : q < cs.length
      · have z0 : (0 : Int) ≤ (q : Int) := by omega
        have z1 : (q : Int) < (cs.length : Int) := by omega
        have z2 : (q : Int) + 1 ≤ (cs.length : Int) := by omega
        have z3 : (q : Int) ≤ (c : Int) := by omega
        have z4 : (q : Int) + 1 ≤ (c : Int) := by omega
        have z5 : ¬ (c : Int) = (q : Int) := by omega
        have z5' : ¬ c = q := by omega
        have z6 : (q : Int) ≤ (q : Int) + 1 := by omega
        have z8 : (0 : Int) ≤ (q : Int) + 1 := by omega
        have t1 : ((q : Int) + 1).toNat = q + 1 := by omega
        have t2 : q + 1 - q = 1 := by omega
        have e1 : IntKind.i64.wrap ((q : Int) + 1) = (q : Int) + 1 := wr64 _ (by omega) (by omega)
        have HSU := Lib.hid (ES.out q)
        have HLT := Lib.hid hlt
        have hC := CL.out q
        have hN : ((pall k p ((cs.drop q).take 1)).length : Int) = cnt1 k p cs q := rfl
        have AQ := Lib.hid (fun (W : World) (u : Value) (hr : CluRow W u ((cs.drop q).take 1)) => AL.out W u q hr)
        rcases hst with ⟨hq0, rfl, rfl⟩ | ⟨hq0, rfl, rfl⟩
        · have HN := Lib.hid (show bstT k p cs (q + 1) = (q, cnt1 k p cs q) by rw [HSU.out, hq0, E0.out, if_pos (by simp only; rw [← hq0]; omega)])
          have dq : ((q : Int) == 0) = true := by rw [beq_iff_eq]; omega
          have HQ0 := Lib.hid hq0
          clear hq0
          generalize cnt1 k p cs q = N at *
          go_wp2
          go_region_held3 (fun W' => W'.cell? ⟨w.heap.size, 0, none⟩ = some (.int .i64 k) ∧ W'.cell? ⟨w.heap.size, 1, none⟩ = some (.int .i64 p) ∧ W'.cell? ⟨w.heap.size, 2, none⟩ = some (.slice (some ⟨g, o, none⟩) cs.length c))
            (first | exact ⟨p0, p1, p2⟩ | exact keep3 (Below.drew (Below.refl _ _)) PP.out | exact keep3 b3 (by assumption) | exact keep3 (Below.drew (Below.refl _ _)) (by assumption))
            ((first | (go_at_call 71; refine (AQ.out _ _ (SUB.out _ (BB.out.trans (by first | exact (Below.refl _ _) | exact (Gr.drew (Gr.refl _)).below.mono BB.out.size)) q (c - q) HLT.out (by have := HLT.out; omega) (by unfold maxLen; omega))).mono ?_; rintro e w3 ⟨v3, rfl, ho3, b3⟩; obtain ⟨A3, c3, rfl, ho3⟩ := OwnI.eta ho3; have B3 := Lib.hid (show Below wr.heap.size wr w3 by first | exact b3 | exact (Below.drew (Below.refl _ _)).trans b3))))
          clear ho3 b3
          go_wp2
          go_roundw
          case rel => exact ⟨q + 1, by have := HLT.out; omega, by go_num, .inr ⟨by omega, by rw [HN.out], by rw [HN.out]⟩, HBL.out.trans (B3.out.mono hzr.out)⟩
          case measure => simp [intOf]; have := HLT.out; omega
        · have dq : ((q : Int) == 0) = false := by rw [beq_eq_false_iff_ne]; omega
          by_cases hlt2 : cnt1 k p cs q < (bstT k p cs q).2
          · have HN := Lib.hid (show bstT k p cs (q + 1) = (q, cnt1 k p cs q) by rw [HSU.out, if_pos hlt2])
            generalize cnt1 k p cs q = N at *
            generalize (bstT k p cs q).2 = M at *
            go_wp2
            go_region_held3 (fun W' => W'.cell? ⟨w.heap.size, 0, none⟩ = some (.int .i64 k) ∧ W'.cell? ⟨w.heap.size, 1, none⟩ = some (.int .i64 p) ∧ W'.cell? ⟨w.heap.size, 2, none⟩ = some (.slice (some ⟨g, o, none⟩) cs.length c))
              (first | exact ⟨p0, p1, p2⟩ | exact keep3 (Below.drew (Below.refl _ _)) PP.out | exact keep3 b3 (by assumption) | exact keep3 (Below.drew (Below.refl _ _)) (by assumption))
              ((first | (go_at_call 71; refine (AQ.out _ _ (SUB.out _ (BB.out.trans (by first | exact (Below.refl _ _) | exact (Gr.drew (Gr.refl _)).below.mono BB.out.size)) q (c - q) HLT.out (by have := HLT.out; omega) (by unfold maxLen; omega))).mono ?_; rintro e w3 ⟨v3, rfl, ho3, b3⟩; obtain ⟨A3, c3, rfl, ho3⟩ := OwnI.eta ho3; have B3 := Lib.hid (show Below wr.heap.size wr w3 by first | exact b3 | exact (Below.drew (Below.refl _ _)).trans b3))))
            clear ho3 b3
            go_wp2
            go_roundw
            case rel => exact ⟨q + 1, by have := HLT.out; omega, by go_num, .inr ⟨by omega, by rw [HN.out], by rw [HN.out]⟩, HBL.out.trans (B3.out.mono hzr.out)⟩
            case measure => simp [intOf]; have := HLT.out; omega
          · have HN := Lib.hid (show bstT k p cs (q + 1) = bstT k p cs q by rw [HSU.out, if_neg hlt2])
            generalize cnt1 k p cs q = N at *
            generalize hM : (bstT k p cs q).2 = M at *
            have EM := Lib.hid hM
            clear hM
            go_wp2
            go_region_held3 (fun W' => W'.cell? ⟨w.heap.size, 0, none⟩ = some (.int .i64 k) ∧ W'.cell? ⟨w.heap.size, 1, none⟩ = some (.int .i64 p) ∧ W'.cell? ⟨w.heap.size, 2, none⟩ = some (.slice (some ⟨g, o, none⟩) cs.length c))
              (first | exact ⟨p0, p1, p2⟩ | exact keep3 (Below.drew (Below.refl _ _)) PP.out | exact keep3 b3 (by assumption) | exact keep3 (Below.drew (Below.refl _ _)) (by assumption))
              ((first | (go_at_call 71; refine (AQ.out _ _ (SUB.out _ (BB.out.trans (by first | exact (Below.refl _ _) | exact (Gr.drew (Gr.refl _)).below.mono BB.out.size)) q (c - q) HLT.out (by have := HLT.out; omega) (by unfold maxLen; omega))).mono ?_; rintro e w3 ⟨v3, rfl, ho3, b3⟩; obtain ⟨A3, c3, rfl, ho3⟩ := OwnI.eta ho3; have B3 := Lib.hid (show Below wr.heap.size wr w3 by first | exact b3 | exact (Below.drew (Below.refl _ _)).trans b3))))
            clear ho3 b3
            go_wp2
            go_roundw
            case rel => exact ⟨q + 1, by have := HLT.out; omega, by go_num, .inr ⟨by omega, by rw [HN.out], by rw [HN.out, EM.out]⟩, HBL.out.trans (B3.out.mono hzr.out)⟩
            case measure => simp [intOf]; have := HLT.out; omega
      · obtain rfl : q = cs.length := by omega
        have EE := Lib.hid EV.out
        rcases hst with ⟨e0, _, _⟩ | ⟨hq0, rfl, rfl⟩
        · have := HP.out; omega
        · go_wp2
          go_ret2
          exact ⟨by rw [EE.out]; rfl, BW.out.trans (HBL.out.mono (by omega))⟩
set_option maxRecDepth 100000 in
set_option maxHeartbeats 3200000 in
theorem Try.iBestClue (w : World) (k p : Int) (v : Value) (cs : List Clu) (h : CluRow w v cs) :
    Calls Try.prog 53 #[pzV k p v] w fun e w' => e = .returned (.tuple #[.int .i64 (bcV k p cs), .bool (bcB k p cs)]) ∧ Below w.heap.size w w' := by
  have mixed : Try.prog.follows .mixedOrders = true := by kernel_rfl
  have PG := Lib.hid (fun (W : World) (g : Gr w W) b hb => Try.haveClue W k p 0 v cs b hb (h.gr g))
  have HRow := Lib.hid h
  obtain ⟨A, c, rfl, hlc, hm, h⟩ := h
  unfold maxLen at hm
  cases hb : bcB k p cs
  · rw [show bcV k p cs = 0 by simp [bcV, hb]]
    have HG := Lib.hid (show (pgood k p cs && inn 0 0 ((cs.length : Int) - 1)) = false by
      rw [← hb]
      unfold bcB inn
      congr 1
      exact decide_eq_decide.2 (by omega))
    clear hb h
    go_enter Try.func53, Try.ntmps53
    go_wp2_with (first | (go_at_call 78; refine (PG.out _ (by repeat (first | exact Gr.refl _ | refine Gr.alloc ?_ _ | refine Gr.trans ?_ (by assumption) | refine Gr.drew ?_ | refine Gr.drewN ?_ _ | refine Gr.grow ?_ _ | refine Gr.setCell ?_ (by (try simp); (try omega)) _)) _ HG.out).mono ?_; rintro e w1 ⟨rfl, hbW⟩; have hcW := (bcell hbW.below).1; have hfW := (bcell hbW.below).2; (try have hzW : w.heap.size < w1.heap.size := by have hq := hbW.below.size; (try simp at hq); omega); (try have hyW : w.heap.size + 1 < w1.heap.size := by have hq := hbW.below.size; (try simp at hq); omega); (try have hxW : w.heap.size + 2 < w1.heap.size := by have hq := hbW.below.size; (try simp at hq); omega)))
    go_ret2
    exact ⟨rfl, Gr.below (by repeat (first | exact Gr.refl _ | refine Gr.alloc ?_ _ | refine Gr.trans ?_ (by assumption) | refine Gr.drew ?_ | refine Gr.drewN ?_ _ | refine Gr.grow ?_ _ | refine Gr.setCell ?_ (by (try simp); (try omega)) _))⟩
  · have hb' := hb
    unfold bcB at hb'
    rw [Bool.and_eq_true] at hb'
    have hpos := of_decide_eq_true hb'.2
    have hg := hb'.1
    obtain ⟨q1, q2, q3⟩ := pgood_lt hg
    rcases h with e | ⟨g, o, rfl, hc⟩
    · rw [e] at hpos; simp at hpos
    have SUB := Lib.hid (fun (W : World) (hW : Below w.heap.size w W) (q c' : Nat) (hq : q < cs.length) (h1 : 1 ≤ c') (hcm : c' ≤ maxLen) => by
      exact CluRow.sub (w := W) (g := g) (o := o) (cs := cs) (fun j hj => ⟨cell_k2 hW (hc j hj).1, cell_k2 hW (hc j hj).2.1, cell_k2 hW (hc j hj).2.2⟩) q 1 c' (by omega) h1 hcm)
    have AL := Lib.hid (fun (W : World) (u : Value) (q : Nat) (hr : CluRow W u ((cs.drop q).take 1)) => Try.leftBy W k p u ((cs.drop q).take 1) q1 (drop_all q3 q 1) hr)
    have ES := Lib.hid (show ∀ q, bstT k p cs (q + 1) = if cnt1 k p cs q < (bstT k p cs q).2 then (q, cnt1 k p cs q) else bstT k p cs q from fun _ => rfl)
    have E0 := Lib.hid (show bstT k p cs 0 = (0, 41) from rfl)
    have CL := Lib.hid (fun q => cnt1_le q1 cs q)
    have hcap : (cs.length : Int) ≤ (c : Int) := by omega
    have EV := Lib.hid (show bcV k p cs = ((bstT k p cs cs.length).1 : Int) by simp [bcV, hb])
    have HG := Lib.hid (show (pgood k p cs && inn 0 0 ((cs.length : Int) - 1)) = true by rw [hg, inn_t (by omega) (by omega)]; rfl)
    have HP := Lib.hid hpos
    have zl : (0 : Int) < (cs.length : Int) := by omega
    clear hb hb' hg q1 q3 hc hpos
    go_enter Try.func53, Try.ntmps53
    go_wp2_with (first | (go_at_call 78; refine (PG.out _ (by repeat (first | exact Gr.refl _ | refine Gr.alloc ?_ _ | refine Gr.trans ?_ (by assumption) | refine Gr.drew ?_ | refine Gr.drewN ?_ _ | refine Gr.grow ?_ _ | refine Gr.setCell ?_ (by (try simp); (try omega)) _)) _ HG.out).mono ?_; rintro e W1 ⟨rfl, hbW⟩; have BW := Lib.hid ((Gr.alloc (Gr.refl w) _).trans hbW).below; have d0 : W1.cell? ⟨w.heap.size, 0, none⟩ = some (.int .i64 k) := hbW.keep0 (by simp [go_sem]); have d1 : W1.cell? ⟨w.heap.size, 1, none⟩ = some (.int .i64 p) := hbW.keep0 (by simp [go_sem]); have d2 : W1.cell? ⟨w.heap.size, 2, none⟩ = some (.slice (some ⟨g, o, none⟩) cs.length c) := hbW.keep0 (by simp [go_sem]); clear hbW))
    have D := Lib.hid (And.intro d0 (And.intro d1 d2))
    have ZW := Lib.hid (show w.heap.size + 1 ≤ W1.heap.size from World.block_lt_of_cell? _ _ d0)
    clear d0 d1 d2
    go_loopw [4, 5, 14] (fun s t i wr => BRelI k p cs w W1 s t i wr) (fun _ _ i _ => (cs.length - intOf i).toNat)
    case atStart => exact ⟨0, Nat.zero_le _, rfl, ⟨rfl, rfl⟩, Below.refl _ _⟩
    case round =>
      obtain ⟨q, hk, rfl, hst, hbl⟩ := hrel
      have szr := hbl.size
      have p0 : wr.cell? ⟨w.heap.size, 0, none⟩ = some (.int .i64 k) := (hbl.cell (by show w.heap.size < _; omega)).trans D.out.1
      have p1 : wr.cell? ⟨w.heap.size, 1, none⟩ = some (.int .i64 p) := (hbl.cell (by show w.heap.size < _; omega)).trans D.out.2.1
      have p2 : wr.cell? ⟨w.heap.size, 2, none⟩ = some (.slice (some ⟨g, o, none⟩) cs.length c) := (hbl.cell (by show w.heap.size < _; omega)).trans D.out.2.2
      have BB := Lib.hid (BW.out.trans (hbl.mono (Nat.le_succ _)))
      have HBL := Lib.hid hbl
      have PP := Lib.hid (And.intro p0 (And.intro p1 p2))
      have hzr := Lib.hid (show w.heap.size + 1 ≤ wr.heap.size by have := ZW.out; omega)
      clear hbl
      by_cases hlt : q < cs.length
      · have z0 : (0 : Int) ≤ (q : Int) := by omega
        have z1 : (q : Int) < (cs.length : Int) := by omega
        have z2 : (q : Int) + 1 ≤ (cs.length : Int) := by omega
        have z3 : (q : Int) ≤ (c : Int) := by omega
        have z4 : (q : Int) + 1 ≤ (c : Int) := by omega
        have z5 : ¬ (c : Int) = (q : Int) := by omega
        have z5' : ¬ c = q := by omega
        have z6 : (q : Int) ≤ (q : Int) + 1 := by omega
        have z8 : (0 : Int) ≤ (q : Int) + 1 := by omega
        have t1 : ((q : Int) + 1).toNat = q + 1 := by omega
        have t2 : q + 1 - q = 1 := by omega
        have e1 : IntKind.i64.wrap ((q : Int) + 1) = (q : Int) + 1 := wr64 _ (by omega) (by omega)
        have HSU := Lib.hid (ES.out q)
        have HLT := Lib.hid hlt
        have hC := CL.out q
        have hN : ((pall k p ((cs.drop q).take 1)).length : Int) = cnt1 k p cs q := rfl
        have AQ := Lib.hid (fun (W : World) (u : Value) (hr : CluRow W u ((cs.drop q).take 1)) => AL.out W u q hr)
        obtain ⟨rfl, rfl⟩ := hst
        by_cases hlt2 : cnt1 k p cs q < (bstT k p cs q).2
        · have HN := Lib.hid (show bstT k p cs (q + 1) = (q, cnt1 k p cs q) by rw [HSU.out, if_pos hlt2])
          generalize cnt1 k p cs q = N at *
          generalize (bstT k p cs q).2 = M at *
          go_wp2
          go_region_held3 (fun W' => W'.cell? ⟨w.heap.size, 0, none⟩ = some (.int .i64 k) ∧ W'.cell? ⟨w.heap.size, 1, none⟩ = some (.int .i64 p) ∧ W'.cell? ⟨w.heap.size, 2, none⟩ = some (.slice (some ⟨g, o, none⟩) cs.length c))
            (first | exact ⟨p0, p1, p2⟩ | exact keep3 (Below.drew (Below.refl _ _)) PP.out | exact keep3 b3 (by assumption) | exact keep3 (Below.drew (Below.refl _ _)) (by assumption))
            ((first | (go_at_call 72; refine (AQ.out _ _ (SUB.out _ (BB.out.trans (by first | exact (Below.refl _ _) | exact (Gr.drew (Gr.refl _)).below.mono BB.out.size)) q 1 HLT.out (by have := HLT.out; omega) (by unfold maxLen; omega))).mono ?_; rintro e w3 ⟨v3, rfl, ho3, b3⟩; obtain ⟨A3, c3, rfl, ho3⟩ := OwnI.eta ho3; have B3 := Lib.hid (show Below wr.heap.size wr w3 by first | exact b3 | exact (Below.drew (Below.refl _ _)).trans b3))))
          clear ho3 b3
          go_wp2
          go_roundw
          case rel => exact ⟨q + 1, by have := HLT.out; omega, by go_num, ⟨by rw [HN.out], by rw [HN.out]⟩, HBL.out.trans (B3.out.mono hzr.out)⟩
          case measure => simp [intOf]; have := HLT.out; omega
        · have HN := Lib.hid (show bstT k p cs (q + 1) = bstT k p cs q by rw [HSU.out, if_neg hlt2])
          generalize cnt1 k p cs q = N at *
          generalize hM : (bstT k p cs q).2 = M at *
          have EM := Lib.hid hM
          clear hM
          go_wp2
          go_region_held3 (fun W' => W'.cell? ⟨w.heap.size, 0, none⟩ = some (.int .i64 k) ∧ W'.cell? ⟨w.heap.size, 1, none⟩ = some (.int .i64 p) ∧ W'.cell? ⟨w.heap.size, 2, none⟩ = some (.slice (some ⟨g, o, none⟩) cs.length c))
            (first | exact ⟨p0, p1, p2⟩ | exact keep3 (Below.drew (Below.refl _ _)) PP.out | exact keep3 b3 (by assumption) | exact keep3 (Below.drew (Below.refl _ _)) (by assumption))
            ((first | (go_at_call 72; refine (AQ.out _ _ (SUB.out _ (BB.out.trans (by first | exact (Below.refl _ _) | exact (Gr.drew (Gr.refl _)).below.mono BB.out.size)) q 1 HLT.out (by have := HLT.out; omega) (by unfold maxLen; omega))).mono ?_; rintro e w3 ⟨v3, rfl, ho3, b3⟩; obtain ⟨A3, c3, rfl, ho3⟩ := OwnI.eta ho3; have B3 := Lib.hid (show Below wr.heap.size wr w3 by first | exact b3 | exact (Below.drew (Below.refl _ _)).trans b3))))
          clear ho3 b3
          go_wp2
          go_roundw
          case rel => exact ⟨q + 1, by have := HLT.out; omega, by go_num, ⟨by rw [HN.out], by rw [HN.out, EM.out]⟩, HBL.out.trans (B3.out.mono hzr.out)⟩
          case measure => simp [intOf]; have := HLT.out; omega
      · obtain rfl : q = cs.length := by omega
        have EE := Lib.hid EV.out
        obtain ⟨rfl, rfl⟩ := hst
        go_wp2
        go_ret2
        exact ⟨by rw [EE.out]; rfl, BW.out.trans (HBL.out.mono (by omega))⟩
end Go.Proofs
