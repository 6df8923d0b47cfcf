/-
  Chapter 9: harder puzzles, both sides.
-/
import Derived.Test.YtbnabjnpdkmbhaaPzS
import Derived.Lib.LazyBuf
namespace Go.Proofs
open Go.RowKit
set_option linter.unusedVariables false
set_option linter.unusedSimpArgs false
/-- a row of the call's own is nil, or it lies in a block -/
theorem OwnC.two {w : World} {B : Nat} {v : Value} {cs : List Clu} (h : OwnC w B v cs) : (v = .slice none 0 0 ∧ cs = []) ∨ ∃ g c, v = .slice (some ⟨g, 0, none⟩) cs.length c ∧ cs.length ≤ c ∧ c ≤ maxLen ∧ g < w.heap.size ∧ ∀ j u, (ecs ccs cs)[j]? = some u → w.cell? ((⟨g, 0, none⟩ : Addr).add j) = some u := by
  rcases h.2 with ⟨rfl, hn⟩ | ⟨g, cap, cur, rfl, _, hg, hcl, hcm, _, _⟩
  · exact .inl ⟨rfl, List.length_eq_zero_iff.1 hn⟩
  · exact .inr ⟨g, cap, rfl, hcl, hcm, (Array.getElem?_eq_some_iff.1 hg).1, OwnE.reads_all ccs_len h rfl⟩
set_option maxRecDepth 100000 in
set_option maxHeartbeats 1600000 in
theorem Try.cloneC (w : World) (B : Nat) (v : Value) (cs : List Clu) (hl : cs.length ≤ 1000000) (h : OwnC w B v cs) :
    Calls Try.prog 80 #[v] w fun e w' => ∃ v', e = .returned v' ∧ OwnC w' w.heap.size v' cs ∧ Below w.heap.size w w' := by
  have heqn := fun (W : World) (A : Option Addr) (l c : Nat) => Lib.run_eql_slice_nil (P := Try.prog) W 37 29 A l c 0 0 Try.underlying37
  rcases OwnC.two h with ⟨rfl, rfl⟩ | ⟨g, c, rfl, _, _, _, hc⟩
  · clear h
    go_enter Try.func80, Try.ntmps80
    go_wp2
    go_ret
    exact ⟨_, rfl, OwnE.nil _ _ _ _ _, Gr.below (by repeat (first | exact Gr.refl _ | refine Gr.alloc ?_ _ | refine Gr.trans ?_ (by assumption) | refine Gr.drew ?_ | refine Gr.drewN ?_ _ | refine Gr.grow ?_ _ | refine Gr.setCell ?_ (by (try simp); (try omega)) _))⟩
  · have HC := Lib.hid hc
    have HL := Lib.hid hl
    clear h hc hl
    go_enter Try.func80, Try.ntmps80
    go_wp2_with (at_builtin; refine wpList_appE ccs_len ccs_one rfl _ _ 37 rfl _ Try.underlying37 Try.infoC rfl (by decide) (by decide) w.heap.size (.slice (some ⟨w.heap.size, 0, none⟩) 0 0) [] rfl (OwnE.empty (by refine heap_new' ?_; simp; done) (Nat.le_refl _)) ⟨g, 0, none⟩ cs.length c cs rfl rfl (fun j u hu => (show Gr w _ from (by repeat (first | exact Gr.refl _ | refine Gr.alloc ?_ _ | refine Gr.trans ?_ (by assumption) | refine Gr.drew ?_ | refine Gr.drewN ?_ _ | refine Gr.grow ?_ _ | refine Gr.setCell ?_ (by (try simp); (try omega)) _))).keep0 (HC.out j u hu)) (by simp) (by have := HL.out; omega) (by simp) ?_; intro v1 w1 ho1 hb1 _ _)
    go_ret
    exact ⟨_, rfl, by simpa using ho1, (Gr.alloc (Gr.refl w) _).below.trans hb1⟩
def hzB (k p : Int) (cs : List Clu) : Bool := pgood k p cs && psol k p cs
def hzL (k p : Int) (cs : List Clu) : List Clu := if hzB k p cs then hrd k p cs.length 0 cs else []
theorem hzL_len (k p : Int) (cs : List Clu) : (hzL k p cs).length ≤ 6 := by
  unfold hzL
  cases h : hzB k p cs
  · simp
  · rw [if_pos rfl]
    unfold hzB at h
    rw [Bool.and_eq_true] at h
    have := (pgood_lt h.1).2.1
    have := hrd_len k p cs.length 0 cs
    omega
def lenV (v : Value) : Nat := match v with
  | .slice _ n _ => n
  | _ => 0
def HRelZ (k p : Int) (R : List Clu) (w W0 : World) (s4 s5 : Value) (wr : World) : Prop := ∃ (cs : List Clu) (j : Nat), s5 = .int .i64 j ∧ j ≤ cs.length ∧ cs.length ≤ 6 ∧ cs.all cok = true ∧ hrd k p (cs.length - j) j cs = R ∧ OwnC wr (w.heap.size + 2) s4 cs ∧ Below (w.heap.size + 2) W0 wr
set_option maxRecDepth 100000 in
set_option maxHeartbeats 3200000 in
theorem Try.sHarderPuzzle (w : World) (k p : Int) (B : Nat) (v : Value) (cs : List Clu) (hl : cs.length ≤ 1048576) (ho : OwnC w B v cs) :
    Calls Try.prog 54 #[pzV k p v] w (RetZ w (ifZ (hzB k p cs) k) (ifZ (hzB k p cs) p) (hzL k p cs) (hzB k p cs)) := by
  have h := OwnC.row ho (by unfold maxLen; omega)
  have PG := Lib.hid (fun (W : World) (g : Gr w W) b hb => Try.pzGood W k p v cs b hb (h.gr g))
  have PS := Lib.hid (fun (W : World) (g : Gr w W) a b => Try.pzSolved W k p v cs a b (h.gr g))
  cases hb : hzB k p cs
  · rw [show hzL k p cs = [] by simp [hzL, hb]]
    unfold ifZ
    simp only [Bool.false_eq_true, if_false]
    cases hg : pgood k p cs
    · have HG := Lib.hid hg
      obtain ⟨A, c, rfl, _⟩ := h
      clear hb hg ho
      go_enter Try.func54, Try.ntmps54
      go_wp2_with (first | (go_at_call 63; refine (PG.out _ (by repeat (first | exact Gr.refl _ | refine Gr.alloc ?_ _ | refine Gr.trans ?_ (by assumption) | refine Gr.drew ?_ | refine Gr.drewN ?_ _ | refine Gr.grow ?_ _ | refine Gr.setCell ?_ (by (try simp); (try omega)) _)) _ HG.out).mono ?_; rintro e w1 ⟨rfl, hbW⟩; have hcW := (bcell hbW.below).1; have hfW := (bcell hbW.below).2; (try have hzW : w.heap.size < w1.heap.size := by have hq := hbW.below.size; (try simp at hq); omega); (try have hyW : w.heap.size + 1 < w1.heap.size := by have hq := hbW.below.size; (try simp at hq); omega); (try have hxW : w.heap.size + 2 < w1.heap.size := by have hq := hbW.below.size; (try simp at hq); omega)))
      refine bodyPost_ret (v := .tuple #[.agg #[.int .i64 0, .int .i64 0, .slice none 0 0], .bool false]) (by simp [results, Try.results54, go_sem, hcW, hfW, hyW]) rfl ⟨_, rfl, OwnE.nil _ _ _ _ _, Gr.below (by repeat (first | exact Gr.refl _ | refine Gr.alloc ?_ _ | refine Gr.trans ?_ (by assumption) | refine Gr.drew ?_ | refine Gr.drewN ?_ _ | refine Gr.grow ?_ _ | refine Gr.setCell ?_ (by (try simp); (try omega)) _))⟩
    · have HG := Lib.hid hg
      obtain ⟨q1, q2, q3⟩ := pgood_lt hg
      have Q := Lib.hid (And.intro q1 q3)
      have HS := Lib.hid (show psol k p cs = false by unfold hzB at hb; rw [hg, Bool.true_and] at hb; exact hb)
      obtain ⟨A, c, rfl, _⟩ := h
      clear hb hg ho q1 q3
      go_enter Try.func54, Try.ntmps54
      go_wp2_with (first | (go_at_call 63; refine (PG.out _ (by repeat (first | exact Gr.refl _ | refine Gr.alloc ?_ _ | refine Gr.trans ?_ (by assumption) | refine Gr.drew ?_ | refine Gr.drewN ?_ _ | refine Gr.grow ?_ _ | refine Gr.setCell ?_ (by (try simp); (try omega)) _)) _ HG.out).mono ?_; rintro e W1 ⟨rfl, hbW⟩; have dd : W1.cell? ⟨w.heap.size, 2, none⟩ = some (.slice A cs.length c) := hbW.keep0 (by simp [go_sem]); have dd0 : W1.cell? ⟨w.heap.size, 0, none⟩ = some (.int .i64 k) := hbW.keep0 (by simp [go_sem]); have dd1 : W1.cell? ⟨w.heap.size, 1, none⟩ = some (.int .i64 p) := hbW.keep0 (by simp [go_sem]); have G1 := Lib.hid hbW; clear hbW) | (go_at_call 74; refine (PS.out _ (((Gr.alloc (Gr.alloc (Gr.refl w) _) _)).trans G1.out) Q.out.1 Q.out.2).mono ?_; rintro e W2 ⟨rfl, b2⟩; have BQ := Lib.hid b2; rw [HS.out]; have d0 : W2.cell? ⟨w.heap.size, 0, none⟩ = some (.int .i64 k) := (cell_k2 b2 <| G1.out.keep0 (by simp [go_sem])); have d1 : W2.cell? ⟨w.heap.size, 1, none⟩ = some (.int .i64 p) := (cell_k2 b2 <| G1.out.keep0 (by simp [go_sem])); have d2 : W2.cell? ⟨w.heap.size, 2, none⟩ = some (.slice A cs.length c) := (cell_k2 b2 <| G1.out.keep0 (by simp [go_sem])); have d3 : W2.cell? ⟨w.heap.size + 1, 0, none⟩ = some (.int .i64 0) := (cell_k2 b2 <| G1.out.keep0 (by simp [go_sem])); have d4 : W2.cell? ⟨w.heap.size + 1, 1, none⟩ = some (.int .i64 0) := (cell_k2 b2 <| G1.out.keep0 (by simp [go_sem])); have d5 : W2.cell? ⟨w.heap.size + 1, 2, none⟩ = some (.slice none 0 0) := (cell_k2 b2 <| G1.out.keep0 (by simp [go_sem])); have df : ∀ o, W2.frozen? ⟨w.heap.size + 1, o, none⟩ = false := (fun o => (b2.frozen (p := ⟨w.heap.size + 1, o, none⟩) (by have := G1.out.below.size; simp at this; show w.heap.size + 1 < _; omega)).trans (((bcell G1.out.below).2 _ _ (by simp)).trans (by simp [go_sem]))); have dz := World.block_lt_of_cell? _ _ d3; clear b2))
      refine bodyPost_ret (v := .tuple #[.agg #[.int .i64 0, .int .i64 0, .slice none 0 0], .bool false]) (by simp [results, Try.results54, go_sem, d3, d4, d5]) rfl ⟨_, rfl, OwnE.nil _ _ _ _ _, (((((Gr.alloc (Gr.alloc (Gr.refl w) _) _).trans G1.out).below.trans (BQ.out.mono ((Gr.alloc (Gr.alloc (Gr.refl w) _) _).trans G1.out).below.size)).setCell (by simp) _).setCell (by simp) _).setCell (by simp) _⟩
  · have hR : hzL k p cs = hrd k p cs.length 0 cs := by simp [hzL, hb]
    rw [hR]
    unfold ifZ
    simp only [if_true]
    have hb' := hb
    unfold hzB at hb'
    rw [Bool.and_eq_true] at hb'
    have hg := hb'.1
    have hps := hb'.2
    obtain ⟨q1, q2, q3⟩ := pgood_lt hg
    have WO := Lib.hid (fun (W : World) (B : Nat) (u : Value) (cs' : List Clu) (j : Nat) (hj : j < cs'.length) (h6 : cs'.length ≤ 6) (hu : OwnC W B u cs') => Try.pzWithout W u cs' j hj (by omega) (OwnC.row hu (by unfold maxLen; omega)))
    have SV := Lib.hid (fun (W : World) (B : Nat) (u : Value) (cs' : List Clu) (ha : cs'.all cok = true) (h6 : cs'.length ≤ 6) (hu : OwnC W B u cs') => Try.pzSolved W k p u cs' q1 ha (OwnC.row hu (by unfold maxLen; omega)))
    have HG := Lib.hid hg
    have HS := Lib.hid hps
    have Q := Lib.hid (And.intro q1 q3)
    have Q3 := Lib.hid q3
    have Q2 := Lib.hid q2
    obtain ⟨R, hRR⟩ : ∃ R, hrd k p cs.length 0 cs = R := ⟨_, rfl⟩
    have HR := Lib.hid hRR
    rw [hRR]
    clear hb hb' hg hps q1 q3 hR hRR h
    rcases OwnC.two ho with ⟨rfl, rfl⟩ | ⟨g, c, rfl, hcl, hcm, hgs, hc⟩
    · clear ho
      go_enter Try.func54, Try.ntmps54
      go_wp2_with (first | (go_at_call 63; refine (PG.out _ (by repeat (first | exact Gr.refl _ | refine Gr.alloc ?_ _ | refine Gr.trans ?_ (by assumption) | refine Gr.drew ?_ | refine Gr.drewN ?_ _ | refine Gr.grow ?_ _ | refine Gr.setCell ?_ (by (try simp); (try omega)) _)) _ HG.out).mono ?_; rintro e W1 ⟨rfl, hbW⟩; have dd : W1.cell? ⟨w.heap.size, 2, none⟩ = some (.slice none 0 0) := hbW.keep0 (by simp [go_sem]); have dd0 : W1.cell? ⟨w.heap.size, 0, none⟩ = some (.int .i64 k) := hbW.keep0 (by simp [go_sem]); have dd1 : W1.cell? ⟨w.heap.size, 1, none⟩ = some (.int .i64 p) := hbW.keep0 (by simp [go_sem]); have G1 := Lib.hid hbW; clear hbW) | (go_at_call 74; refine (PS.out _ (((Gr.alloc (Gr.alloc (Gr.refl w) _) _)).trans G1.out) Q.out.1 Q.out.2).mono ?_; rintro e W3 ⟨rfl, b2⟩; have BQ := Lib.hid b2; rw [HS.out]; have d0 : W3.cell? ⟨w.heap.size, 0, none⟩ = some (.int .i64 k) := (cell_k2 b2 <| G1.out.keep0 (by simp [go_sem])); have d1 : W3.cell? ⟨w.heap.size, 1, none⟩ = some (.int .i64 p) := (cell_k2 b2 <| G1.out.keep0 (by simp [go_sem])); have d2 : W3.cell? ⟨w.heap.size, 2, none⟩ = some (.slice none 0 0) := (cell_k2 b2 <| G1.out.keep0 (by simp [go_sem])); have d3 : W3.cell? ⟨w.heap.size + 1, 0, none⟩ = some (.int .i64 0) := (cell_k2 b2 <| G1.out.keep0 (by simp [go_sem])); have d4 : W3.cell? ⟨w.heap.size + 1, 1, none⟩ = some (.int .i64 0) := (cell_k2 b2 <| G1.out.keep0 (by simp [go_sem])); have d5 : W3.cell? ⟨w.heap.size + 1, 2, none⟩ = some (.slice none 0 0) := (cell_k2 b2 <| G1.out.keep0 (by simp [go_sem])); have df : ∀ o, W3.frozen? ⟨w.heap.size + 1, o, none⟩ = false := (fun o => (b2.frozen (p := ⟨w.heap.size + 1, o, none⟩) (by have := G1.out.below.size; simp at this; show w.heap.size + 1 < _; omega)).trans (((bcell G1.out.below).2 _ _ (by simp)).trans (by simp [go_sem]))); have dz := World.block_lt_of_cell? _ _ d3; have dz0 := World.block_lt_of_cell? _ _ d0; clear b2))
      obtain ⟨W2, hW2⟩ : ∃ W, W = W3.alloc (Obj.cells #[] 29) := ⟨_, rfl⟩
      rw [← hW2]
      have BX := Lib.hid (show Below W3.heap.size W3 W2 by rw [hW2]; exact (Gr.alloc (Gr.refl W3) _).below)
      have BK := Lib.hid (And.intro (cell_k2 BX.out d0) (And.intro (cell_k2 BX.out d1) (And.intro (cell_k2 BX.out d2) (And.intro (cell_k2 BX.out d3) (And.intro (cell_k2 BX.out d4) (And.intro (cell_k2 BX.out d5) (fun o => (BX.out.frozen (p := ⟨w.heap.size + 1, o, none⟩) dz).trans (df o))))))))
      have BW := Lib.hid ((((Gr.alloc (Gr.alloc (Gr.refl w) _) _).trans G1.out).below.trans (BQ.out.mono ((Gr.alloc (Gr.alloc (Gr.refl w) _) _).trans G1.out).below.size)).trans (BX.out.mono (by omega)))
      have HOC := Lib.hid (show OwnC W2 (w.heap.size + 2) _ _ from OwnE.mono (OwnE.empty (b := W3.heap.size) (by rw [hW2]; refine heap_new' ?_; simp; done) (Nat.le_refl _)) (by omega))
      have p0 : W2.cell? ⟨w.heap.size, 0, none⟩ = some (.int .i64 k) := BK.out.1
      have D := Lib.hid BK.out
      have hz : w.heap.size + 1 < W2.heap.size := World.block_lt_of_cell? _ _ D.out.2.2.2.1
      clear p0
      (try clear d0 d1 d2 d3 d4 d5)
      go_loopw [4, 5] (fun s4 s5 wr => HRelZ k p R w W2 s4 s5 wr) (fun s4 s5 _ => lenV s4 - (intOf s5).toNat)
      case atStart => exact ⟨[], 0, rfl, Nat.zero_le _, Q2.out, Q3.out, HR.out, HOC.out, Below.refl _ _⟩
      case round =>
        obtain ⟨cs', j, rfl, hj, h6, hall, hR, hoc, hbl⟩ := hrel
        obtain ⟨A5, c5, rfl, hoc⟩ := OwnE.eta hoc
        have szr := hbl.size
        have p0 : wr.cell? ⟨w.heap.size, 0, none⟩ = some (.int .i64 k) := (hbl.cell (by show w.heap.size < _; omega)).trans D.out.1
        have p1 : wr.cell? ⟨w.heap.size, 1, none⟩ = some (.int .i64 p) := (hbl.cell (by show w.heap.size < _; omega)).trans D.out.2.1
        have p3 : wr.cell? ⟨w.heap.size + 1, 0, none⟩ = some (.int .i64 0) := (hbl.cell (by show w.heap.size + 1 < _; omega)).trans D.out.2.2.2.1
        have p4 : wr.cell? ⟨w.heap.size + 1, 1, none⟩ = some (.int .i64 0) := (hbl.cell (by show w.heap.size + 1 < _; omega)).trans D.out.2.2.2.2.1
        have p5 : wr.cell? ⟨w.heap.size + 1, 2, none⟩ = some (.slice none 0 0) := (hbl.cell (by show w.heap.size + 1 < _; omega)).trans D.out.2.2.2.2.2.1
        have hf : ∀ o, wr.frozen? ⟨w.heap.size + 1, o, none⟩ = false := fun o => (hbl.frozen (p := ⟨w.heap.size + 1, o, none⟩) (by show w.heap.size + 1 < _; omega)).trans (D.out.2.2.2.2.2.2 o)
        have HOCr := Lib.hid hoc
        have HBL := Lib.hid hbl
        have HALL := Lib.hid hall
        have HRR := Lib.hid hR
        clear hoc hbl hall hR
        by_cases hlt : j < cs'.length
        · have z0 : (0 : Int) ≤ (j : Int) := by omega
          have z1 : (j : Int) < (cs'.length : Int) := by omega
          have HLT := Lib.hid hlt
          have H6 := Lib.hid h6
          have hwl := wout_len cs' j hlt
          have WLN := Lib.hid hwl
          cases hs : psol k p (wout cs' j)
          all_goals
            have HS := Lib.hid hs
            clear hs hwl
            go_wp2_with (first | (go_at_call 75; refine (WO.out _ _ _ cs' j HLT.out H6.out HOCr.out).mono ?_; rintro e w2 ⟨v2, rfl, ho2, b2⟩; obtain ⟨A2, c2, rfl, ho2⟩ := OwnE.eta ho2; have B2 := Lib.hid b2; have HO2 := Lib.hid ho2; have e0 := cell_k2 b2 p0; have e1 := cell_k2 b2 p1; clear b2 ho2) | (go_at_call 74; refine (SV.out _ _ _ (wout cs' j) (wout_all HALL.out j) (by have := WLN.out; have := H6.out; omega) HO2.out).mono ?_; rintro e w3 ⟨rfl, b3⟩; have B3 := Lib.hid b3; clear b3; rw [HS.out]))
            have BB := Lib.hid (B2.out.trans (B3.out.mono B2.out.size))
          · go_roundw
            case rel => exact ⟨cs', j + 1, by go_num, HLT.out, H6.out, HALL.out, hrd_keep HRR.out HLT.out HS.out, OwnE.below HOCr.out BB.out (Nat.le_refl _), HBL.out.trans (BB.out.mono (by have := HBL.out.size; omega))⟩
            case measure => simp [intOf, lenV]; have := HLT.out; omega
          · go_roundw
            case rel => exact ⟨wout cs' j, j, rfl, by have := WLN.out; have := HLT.out; omega, by have := WLN.out; have := H6.out; omega, wout_all HALL.out j, hrd_drop HRR.out HLT.out HS.out, OwnE.mono (OwnE.below HO2.out B3.out (Nat.le_refl _)) (by have := HBL.out.size; omega), HBL.out.trans (BB.out.mono (by have := HBL.out.size; omega))⟩
            case measure => simp [intOf, lenV]; have := HLT.out; have := WLN.out; omega
        · have he := hrd_end HRR.out (by omega)
          subst he
          have z1 : ¬ (j : Int) < (cs'.length : Int) := by omega
          go_wp2
          refine bodyPost_ret (v := .tuple #[.agg #[.int .i64 k, .int .i64 p, .slice A5 cs'.length c5], .bool true]) (by simp [results, Try.results54, go_sem, p3, p4, p5]) rfl ⟨_, rfl, ?_, ?_⟩
          · exact OwnE.mono (OwnE.setOther (OwnE.setOther (OwnE.setOther HOCr.out (by simp) _) (by simp) _) (by simp) _) (by omega)
          · exact (((BW.out.trans (HBL.out.mono (by omega))).setCell (by simp) _).setCell (by simp) _).setCell (by simp) _

    · have HC := Lib.hid hc
      clear ho hc
      go_enter Try.func54, Try.ntmps54
      go_wp2_with (first | (go_at_call 63; refine (PG.out _ (by repeat (first | exact Gr.refl _ | refine Gr.alloc ?_ _ | refine Gr.trans ?_ (by assumption) | refine Gr.drew ?_ | refine Gr.drewN ?_ _ | refine Gr.grow ?_ _ | refine Gr.setCell ?_ (by (try simp); (try omega)) _)) _ HG.out).mono ?_; rintro e W1 ⟨rfl, hbW⟩; have dd : W1.cell? ⟨w.heap.size, 2, none⟩ = some (.slice (some ⟨g, 0, none⟩) cs.length c) := hbW.keep0 (by simp [go_sem]); have dd0 : W1.cell? ⟨w.heap.size, 0, none⟩ = some (.int .i64 k) := hbW.keep0 (by simp [go_sem]); have dd1 : W1.cell? ⟨w.heap.size, 1, none⟩ = some (.int .i64 p) := hbW.keep0 (by simp [go_sem]); have G1 := Lib.hid hbW; clear hbW) | (go_at_call 74; refine (PS.out _ (((Gr.alloc (Gr.alloc (Gr.refl w) _) _)).trans G1.out) Q.out.1 Q.out.2).mono ?_; rintro e W3 ⟨rfl, b2⟩; have BQ := Lib.hid b2; rw [HS.out]; have d0 : W3.cell? ⟨w.heap.size, 0, none⟩ = some (.int .i64 k) := (cell_k2 b2 <| G1.out.keep0 (by simp [go_sem])); have d1 : W3.cell? ⟨w.heap.size, 1, none⟩ = some (.int .i64 p) := (cell_k2 b2 <| G1.out.keep0 (by simp [go_sem])); have d2 : W3.cell? ⟨w.heap.size, 2, none⟩ = some (.slice (some ⟨g, 0, none⟩) cs.length c) := (cell_k2 b2 <| G1.out.keep0 (by simp [go_sem])); have d3 : W3.cell? ⟨w.heap.size + 1, 0, none⟩ = some (.int .i64 0) := (cell_k2 b2 <| G1.out.keep0 (by simp [go_sem])); have d4 : W3.cell? ⟨w.heap.size + 1, 1, none⟩ = some (.int .i64 0) := (cell_k2 b2 <| G1.out.keep0 (by simp [go_sem])); have d5 : W3.cell? ⟨w.heap.size + 1, 2, none⟩ = some (.slice none 0 0) := (cell_k2 b2 <| G1.out.keep0 (by simp [go_sem])); have df : ∀ o, W3.frozen? ⟨w.heap.size + 1, o, none⟩ = false := (fun o => (b2.frozen (p := ⟨w.heap.size + 1, o, none⟩) (by have := G1.out.below.size; simp at this; show w.heap.size + 1 < _; omega)).trans (((bcell G1.out.below).2 _ _ (by simp)).trans (by simp [go_sem]))); have dz := World.block_lt_of_cell? _ _ d3; have dz0 := World.block_lt_of_cell? _ _ d0; clear b2) | (at_builtin; refine wpList_appE ccs_len ccs_one rfl _ _ 37 rfl _ Try.underlying37 Try.infoC rfl (by decide) (by decide) W3.heap.size (.slice (some ⟨W3.heap.size, 0, none⟩) 0 0) [] rfl (OwnE.empty (by refine heap_new' ?_; simp; done) (Nat.le_refl _)) ⟨g, 0, none⟩ cs.length c cs rfl rfl (fun j u hu => cell_k2 ((((Gr.alloc (Gr.alloc (Gr.refl w) _) _).trans G1.out).below.trans (BQ.out.mono ((Gr.alloc (Gr.alloc (Gr.refl w) _) _).trans G1.out).below.size)).trans ((Gr.alloc (Gr.refl W3) _).below.mono (by have := BQ.out.size; have := ((Gr.alloc (Gr.alloc (Gr.refl w) _) _).trans G1.out).below.size; omega))) (HC.out j u hu)) (by simp) (by have := Q2.out; omega) (by simp) ?_; intro v1 W2 ho1 hb1 _ _; rw [List.nil_append] at ho1; have BX := Lib.hid ((Gr.alloc (Gr.refl W3) _).below.trans hb1)))
      have BK := Lib.hid (And.intro (cell_k2 BX.out d0) (And.intro (cell_k2 BX.out d1) (And.intro (cell_k2 BX.out d2) (And.intro (cell_k2 BX.out d3) (And.intro (cell_k2 BX.out d4) (And.intro (cell_k2 BX.out d5) (fun o => (BX.out.frozen (p := ⟨w.heap.size + 1, o, none⟩) dz).trans (df o))))))))
      have BW := Lib.hid ((((Gr.alloc (Gr.alloc (Gr.refl w) _) _).trans G1.out).below.trans (BQ.out.mono ((Gr.alloc (Gr.alloc (Gr.refl w) _) _).trans G1.out).below.size)).trans (BX.out.mono (by omega)))
      have HOC := Lib.hid (show OwnC W2 (w.heap.size + 2) _ _ from OwnE.mono ho1 (by omega))
      have p0 : W2.cell? ⟨w.heap.size, 0, none⟩ = some (.int .i64 k) := BK.out.1
      have D := Lib.hid BK.out
      have hz : w.heap.size + 1 < W2.heap.size := World.block_lt_of_cell? _ _ D.out.2.2.2.1
      clear p0
      (try clear d0 d1 d2 d3 d4 d5)
      go_loopw [4, 5] (fun s4 s5 wr => HRelZ k p R w W2 s4 s5 wr) (fun s4 s5 _ => lenV s4 - (intOf s5).toNat)
      case atStart => exact ⟨cs, 0, rfl, Nat.zero_le _, Q2.out, Q3.out, HR.out, HOC.out, Below.refl _ _⟩
      case round =>
        obtain ⟨cs', j, rfl, hj, h6, hall, hR, hoc, hbl⟩ := hrel
        obtain ⟨A5, c5, rfl, hoc⟩ := OwnE.eta hoc
        have szr := hbl.size
        have p0 : wr.cell? ⟨w.heap.size, 0, none⟩ = some (.int .i64 k) := (hbl.cell (by show w.heap.size < _; omega)).trans D.out.1
        have p1 : wr.cell? ⟨w.heap.size, 1, none⟩ = some (.int .i64 p) := (hbl.cell (by show w.heap.size < _; omega)).trans D.out.2.1
        have p3 : wr.cell? ⟨w.heap.size + 1, 0, none⟩ = some (.int .i64 0) := (hbl.cell (by show w.heap.size + 1 < _; omega)).trans D.out.2.2.2.1
        have p4 : wr.cell? ⟨w.heap.size + 1, 1, none⟩ = some (.int .i64 0) := (hbl.cell (by show w.heap.size + 1 < _; omega)).trans D.out.2.2.2.2.1
        have p5 : wr.cell? ⟨w.heap.size + 1, 2, none⟩ = some (.slice none 0 0) := (hbl.cell (by show w.heap.size + 1 < _; omega)).trans D.out.2.2.2.2.2.1
        have hf : ∀ o, wr.frozen? ⟨w.heap.size + 1, o, none⟩ = false := fun o => (hbl.frozen (p := ⟨w.heap.size + 1, o, none⟩) (by show w.heap.size + 1 < _; omega)).trans (D.out.2.2.2.2.2.2 o)
        have HOCr := Lib.hid hoc
        have HBL := Lib.hid hbl
        have HALL := Lib.hid hall
        have HRR := Lib.hid hR
        clear hoc hbl hall hR
        by_cases hlt : j < cs'.length
        · have z0 : (0 : Int) ≤ (j : Int) := by omega
          have z1 : (j : Int) < (cs'.length : Int) := by omega
          have HLT := Lib.hid hlt
          have H6 := Lib.hid h6
          have hwl := wout_len cs' j hlt
          have WLN := Lib.hid hwl
          cases hs : psol k p (wout cs' j)
          all_goals
            have HS := Lib.hid hs
            clear hs hwl
            go_wp2_with (first | (go_at_call 75; refine (WO.out _ _ _ cs' j HLT.out H6.out HOCr.out).mono ?_; rintro e w2 ⟨v2, rfl, ho2, b2⟩; obtain ⟨A2, c2, rfl, ho2⟩ := OwnE.eta ho2; have B2 := Lib.hid b2; have HO2 := Lib.hid ho2; have e0 := cell_k2 b2 p0; have e1 := cell_k2 b2 p1; clear b2 ho2) | (go_at_call 74; refine (SV.out _ _ _ (wout cs' j) (wout_all HALL.out j) (by have := WLN.out; have := H6.out; omega) HO2.out).mono ?_; rintro e w3 ⟨rfl, b3⟩; have B3 := Lib.hid b3; clear b3; rw [HS.out]))
            have BB := Lib.hid (B2.out.trans (B3.out.mono B2.out.size))
          · go_roundw
            case rel => exact ⟨cs', j + 1, by go_num, HLT.out, H6.out, HALL.out, hrd_keep HRR.out HLT.out HS.out, OwnE.below HOCr.out BB.out (Nat.le_refl _), HBL.out.trans (BB.out.mono (by have := HBL.out.size; omega))⟩
            case measure => simp [intOf, lenV]; have := HLT.out; omega
          · go_roundw
            case rel => exact ⟨wout cs' j, j, rfl, by have := WLN.out; have := HLT.out; omega, by have := WLN.out; have := H6.out; omega, wout_all HALL.out j, hrd_drop HRR.out HLT.out HS.out, OwnE.mono (OwnE.below HO2.out B3.out (Nat.le_refl _)) (by have := HBL.out.size; omega), HBL.out.trans (BB.out.mono (by have := HBL.out.size; omega))⟩
            case measure => simp [intOf, lenV]; have := HLT.out; have := WLN.out; omega
        · have he := hrd_end HRR.out (by omega)
          subst he
          have z1 : ¬ (j : Int) < (cs'.length : Int) := by omega
          go_wp2
          refine bodyPost_ret (v := .tuple #[.agg #[.int .i64 k, .int .i64 p, .slice A5 cs'.length c5], .bool true]) (by simp [results, Try.results54, go_sem, p3, p4, p5]) rfl ⟨_, rfl, ?_, ?_⟩
          · exact OwnE.mono (OwnE.setOther (OwnE.setOther (OwnE.setOther HOCr.out (by simp) _) (by simp) _) (by simp) _) (by omega)
          · exact (((BW.out.trans (HBL.out.mono (by omega))).setCell (by simp) _).setCell (by simp) _).setCell (by simp) _
theorem solN_hz (k p : Int) (cs : List Clu) : (solN k p cs == 1) = hzB k p cs := by
  cases hg : pgood k p cs
  · simp [solN, solL_no hg, hzB, hg]
  · rw [solN_psol hg]; simp [hzB, hg]
set_option maxRecDepth 100000 in
set_option maxHeartbeats 3200000 in
theorem Try.iHarderPuzzle (w : World) (k p : Int) (B : Nat) (v : Value) (cs : List Clu) (hl : cs.length ≤ 1048576) (ho : OwnC w B v cs) :
    Calls Try.prog 55 #[pzV k p v] w (RetZ w (ifZ (hzB k p cs) k) (ifZ (hzB k p cs) p) (hzL k p cs) (hzB k p cs)) := by
  have h := OwnC.row ho (by unfold maxLen; omega)
  have PG := Lib.hid (fun (W : World) (g : Gr w W) => Try.iIsSolved W k p v cs _ rfl (h.gr g))
  cases hb : hzB k p cs
  · rw [show hzL k p cs = [] by simp [hzL, hb]]
    unfold ifZ
    simp only [Bool.false_eq_true, if_false]
    have E := Lib.hid (show (solN k p cs == 1) = false by rw [solN_hz, hb])
    obtain ⟨A, c, rfl, _⟩ := h
    clear hb ho
    go_enter Try.func55, Try.ntmps55
    go_wp2_with (first | (go_at_call 42; refine (PG.out _ (Gr.alloc (Gr.alloc (Gr.refl w) _) _)).mono ?_; rintro e W3 ⟨rfl, b2⟩; have BQ := Lib.hid b2; rw [E.out]; have d0 : W3.cell? ⟨w.heap.size, 0, none⟩ = some (.int .i64 k) := (cell_k2 b2 (by simp [go_sem])); have d1 : W3.cell? ⟨w.heap.size, 1, none⟩ = some (.int .i64 p) := (cell_k2 b2 (by simp [go_sem])); have d2 : W3.cell? ⟨w.heap.size, 2, none⟩ = some (.slice A cs.length c) := (cell_k2 b2 (by simp [go_sem])); have d3 : W3.cell? ⟨w.heap.size + 1, 0, none⟩ = some (.int .i64 0) := (cell_k2 b2 (by simp [go_sem])); have d4 : W3.cell? ⟨w.heap.size + 1, 1, none⟩ = some (.int .i64 0) := (cell_k2 b2 (by simp [go_sem])); have d5 : W3.cell? ⟨w.heap.size + 1, 2, none⟩ = some (.slice none 0 0) := (cell_k2 b2 (by simp [go_sem])); have df : ∀ o, W3.frozen? ⟨w.heap.size + 1, o, none⟩ = false := (fun o => (b2.frozen (p := ⟨w.heap.size + 1, o, none⟩) (by simp)).trans (by simp [go_sem])); have dz := World.block_lt_of_cell? _ _ d3; have dz0 := World.block_lt_of_cell? _ _ d0; clear b2))
    refine bodyPost_ret (v := .tuple #[.agg #[.int .i64 0, .int .i64 0, .slice none 0 0], .bool false]) (by simp [results, Try.results55, go_sem, d3, d4, d5]) rfl ⟨_, rfl, OwnE.nil _ _ _ _ _, (((((Gr.alloc (Gr.alloc (Gr.refl w) _) _).below.trans (BQ.out.mono (Gr.alloc (Gr.alloc (Gr.refl w) _) _).below.size)).setCell (by simp) _).setCell (by simp) _).setCell (by simp) _)⟩
  · have hR : hzL k p cs = hrd k p cs.length 0 cs := by simp [hzL, hb]
    rw [hR]
    unfold ifZ
    simp only [if_true]
    have hb' := hb
    unfold hzB at hb'
    rw [Bool.and_eq_true] at hb'
    have hg := hb'.1
    have hps := hb'.2
    obtain ⟨q1, q2, q3⟩ := pgood_lt hg
    have WO := Lib.hid (fun (W : World) (B : Nat) (u : Value) (cs' : List Clu) (j : Nat) (hj : j < cs'.length) (h6 : cs'.length ≤ 6) (hu : OwnC W B u cs') => Try.without W u cs' j hj (by omega) (OwnC.row hu (by unfold maxLen; omega)))
    have SV := Lib.hid (fun (W : World) (B : Nat) (u : Value) (cs' : List Clu) (ha : cs'.all cok = true) (h6 : cs'.length ≤ 6) (hu : OwnC W B u cs') => Try.isSolvedBy W k p u cs' q1 ha (OwnC.row hu (by unfold maxLen; omega)))
    have E := Lib.hid (show (solN k p cs == 1) = true by rw [solN_hz, hb])
    obtain ⟨A, c, rfl, h⟩ := h
    have CL := Lib.hid (fun (W : World) (b2 : Below w.heap.size w W) => Try.cloneC W B _ cs (by omega) (OwnE.below ho b2 (Nat.le_refl _)))
    have Q3 := Lib.hid q3
    have Q2 := Lib.hid q2
    obtain ⟨R, hRR⟩ : ∃ R, hrd k p cs.length 0 cs = R := ⟨_, rfl⟩
    have HR := Lib.hid hRR
    rw [hRR]
    clear hb hb' hg hps q1 q3 hR hRR h
    clear ho
    go_enter Try.func55, Try.ntmps55
    go_wp2_with (first | (go_at_call 42; refine (PG.out _ (Gr.alloc (Gr.alloc (Gr.refl w) _) _)).mono ?_; rintro e W3 ⟨rfl, b2⟩; have BQ := Lib.hid b2; rw [E.out]; have d0 : W3.cell? ⟨w.heap.size, 0, none⟩ = some (.int .i64 k) := (cell_k2 b2 (by simp [go_sem])); have d1 : W3.cell? ⟨w.heap.size, 1, none⟩ = some (.int .i64 p) := (cell_k2 b2 (by simp [go_sem])); have d2 : W3.cell? ⟨w.heap.size, 2, none⟩ = some (.slice A cs.length c) := (cell_k2 b2 (by simp [go_sem])); have d3 : W3.cell? ⟨w.heap.size + 1, 0, none⟩ = some (.int .i64 0) := (cell_k2 b2 (by simp [go_sem])); have d4 : W3.cell? ⟨w.heap.size + 1, 1, none⟩ = some (.int .i64 0) := (cell_k2 b2 (by simp [go_sem])); have d5 : W3.cell? ⟨w.heap.size + 1, 2, none⟩ = some (.slice none 0 0) := (cell_k2 b2 (by simp [go_sem])); have df : ∀ o, W3.frozen? ⟨w.heap.size + 1, o, none⟩ = false := (fun o => (b2.frozen (p := ⟨w.heap.size + 1, o, none⟩) (by simp)).trans (by simp [go_sem])); have dz := World.block_lt_of_cell? _ _ d3; have dz0 := World.block_lt_of_cell? _ _ d0; clear b2) | (go_at_call 80; refine (CL.out _ ((Gr.alloc (Gr.alloc (Gr.refl w) _) _).below.trans (BQ.out.mono (Gr.alloc (Gr.alloc (Gr.refl w) _) _).below.size))).mono ?_; rintro e W2 ⟨v1, rfl, ho1, bx⟩; obtain ⟨A1, c1, rfl, ho1⟩ := OwnE.eta ho1; have BX := Lib.hid bx; have HO1 := Lib.hid ho1; clear bx ho1))
    have BK := Lib.hid (And.intro (cell_k2 BX.out d0) (And.intro (cell_k2 BX.out d1) (And.intro (cell_k2 BX.out d2) (And.intro (cell_k2 BX.out d3) (And.intro (cell_k2 BX.out d4) (And.intro (cell_k2 BX.out d5) (fun o => (BX.out.frozen (p := ⟨w.heap.size + 1, o, none⟩) dz).trans (df o))))))))
    have BW := Lib.hid (((Gr.alloc (Gr.alloc (Gr.refl w) _) _).below.trans (BQ.out.mono (Gr.alloc (Gr.alloc (Gr.refl w) _) _).below.size)).trans (BX.out.mono (by omega)))
    have HOC := Lib.hid (show OwnC W2 (w.heap.size + 2) _ _ from OwnE.mono HO1.out (by omega))
    have p0 : W2.cell? ⟨w.heap.size, 0, none⟩ = some (.int .i64 k) := BK.out.1
    have D := Lib.hid BK.out
    have hz : w.heap.size + 1 < W2.heap.size := World.block_lt_of_cell? _ _ D.out.2.2.2.1
    clear p0
    (try clear d0 d1 d2 d3 d4 d5)
    go_loopw [6, 7] (fun s4 s5 wr => HRelZ k p R w W2 s4 s5 wr) (fun s4 s5 _ => lenV s4 - (intOf s5).toNat)
    case atStart => exact ⟨cs, 0, rfl, Nat.zero_le _, Q2.out, Q3.out, HR.out, HOC.out, Below.refl _ _⟩
    case round =>
      obtain ⟨cs', j, rfl, hj, h6, hall, hR, hoc, hbl⟩ := hrel
      obtain ⟨A5, c5, rfl, hoc⟩ := OwnE.eta hoc
      have szr := hbl.size
      have p0 : wr.cell? ⟨w.heap.size, 0, none⟩ = some (.int .i64 k) := (hbl.cell (by show w.heap.size < _; omega)).trans D.out.1
      have p1 : wr.cell? ⟨w.heap.size, 1, none⟩ = some (.int .i64 p) := (hbl.cell (by show w.heap.size < _; omega)).trans D.out.2.1
      have p3 : wr.cell? ⟨w.heap.size + 1, 0, none⟩ = some (.int .i64 0) := (hbl.cell (by show w.heap.size + 1 < _; omega)).trans D.out.2.2.2.1
      have p4 : wr.cell? ⟨w.heap.size + 1, 1, none⟩ = some (.int .i64 0) := (hbl.cell (by show w.heap.size + 1 < _; omega)).trans D.out.2.2.2.2.1
      have p5 : wr.cell? ⟨w.heap.size + 1, 2, none⟩ = some (.slice none 0 0) := (hbl.cell (by show w.heap.size + 1 < _; omega)).trans D.out.2.2.2.2.2.1
      have hf : ∀ o, wr.frozen? ⟨w.heap.size + 1, o, none⟩ = false := fun o => (hbl.frozen (p := ⟨w.heap.size + 1, o, none⟩) (by show w.heap.size + 1 < _; omega)).trans (D.out.2.2.2.2.2.2 o)
      have HOCr := Lib.hid hoc
      have HBL := Lib.hid hbl
      have HALL := Lib.hid hall
      have HRR := Lib.hid hR
      clear hoc hbl hall hR
      by_cases hlt : j < cs'.length
      · have z0 : (0 : Int) ≤ (j : Int) := by omega
        have z1 : (j : Int) < (cs'.length : Int) := by omega
        have HLT := Lib.hid hlt
        have H6 := Lib.hid h6
        have hwl := wout_len cs' j hlt
        have WLN := Lib.hid hwl
        cases hs : psol k p (wout cs' j)
        all_goals
          have HS := Lib.hid hs
          clear hs hwl
          go_wp2_with (first | (go_at_call 76; refine (WO.out _ _ _ cs' j HLT.out H6.out HOCr.out).mono ?_; rintro e w2 ⟨v2, rfl, ho2, b2⟩; obtain ⟨A2, c2, rfl, ho2⟩ := OwnE.eta ho2; have B2 := Lib.hid b2; have HO2 := Lib.hid ho2; have e0 := cell_k2 b2 p0; have e1 := cell_k2 b2 p1; clear b2 ho2) | (go_at_call 81; refine (SV.out _ _ _ (wout cs' j) (wout_all HALL.out j) (by have := WLN.out; have := H6.out; omega) HO2.out).mono ?_; rintro e w3 ⟨rfl, b3⟩; have B3 := Lib.hid b3; clear b3; rw [HS.out]))
          have BB := Lib.hid (B2.out.trans (B3.out.mono B2.out.size))
        · go_roundw
          case rel => exact ⟨cs', j + 1, by go_num, HLT.out, H6.out, HALL.out, hrd_keep HRR.out HLT.out HS.out, OwnE.below HOCr.out BB.out (Nat.le_refl _), HBL.out.trans (BB.out.mono (by have := HBL.out.size; omega))⟩
          case measure => simp [intOf, lenV]; have := HLT.out; omega
        · go_roundw
          case rel => exact ⟨wout cs' j, j, rfl, by have := WLN.out; have := HLT.out; omega, by have := WLN.out; have := H6.out; omega, wout_all HALL.out j, hrd_drop HRR.out HLT.out HS.out, OwnE.mono (OwnE.below HO2.out B3.out (Nat.le_refl _)) (by have := HBL.out.size; omega), HBL.out.trans (BB.out.mono (by have := HBL.out.size; omega))⟩
          case measure => simp [intOf, lenV]; have := HLT.out; have := WLN.out; omega
      · have he := hrd_end HRR.out (by omega)
        subst he
        have z1 : ¬ (j : Int) < (cs'.length : Int) := by omega
        go_wp2
        refine bodyPost_ret (v := .tuple #[.agg #[.int .i64 k, .int .i64 p, .slice A5 cs'.length c5], .bool true]) (by simp [results, Try.results55, go_sem, p3, p4, p5]) rfl ⟨_, rfl, ?_, ?_⟩
        · exact OwnE.mono (OwnE.setOther (OwnE.setOther (OwnE.setOther HOCr.out (by simp) _) (by simp) _) (by simp) _) (by omega)
        · exact (((BW.out.trans (HBL.out.mono (by omega))).setCell (by simp) _).setCell (by simp) _).setCell (by simp) _
end Go.Proofs
