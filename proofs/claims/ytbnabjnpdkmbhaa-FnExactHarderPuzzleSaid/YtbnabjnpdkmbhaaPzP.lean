/-
  Chapter 9: needless clues, houses left by clues, the best clue, both sides.
-/
import Derived.Test.YtbnabjnpdkmbhaaPzO
import Derived.Test.YtbnabjnpdkmbhaaPzK
import Derived.Test.YtbnabjnpdkmbhaaCtK
namespace Go.Proofs
open Go.RowKit
set_option linter.unusedVariables false
set_option linter.unusedSimpArgs false
def ndlP (k p : Int) (cs : List Clu) (j : Nat) : Bool := decide ((pall k p (wout cs j)).length = (pall k p cs).length)
def ndlT (k p : Int) (cs : List Clu) (q : Nat) : List Int := ((List.range q).filter (ndlP k p cs)).map (fun (j : Nat) => (j : Int))
theorem ndlT_succ (k p : Int) (cs : List Clu) (q : Nat) : ndlT k p cs (q + 1) = if ndlP k p cs q = true then ndlT k p cs q ++ [(q : Int)] else ndlT k p cs q := by
  unfold ndlT
  rw [List.range_succ, List.filter_append, List.map_append]
  cases h : ndlP k p cs q <;> simp [List.filter_cons, h]
theorem ndlT_len (k p : Int) (cs : List Clu) (q : Nat) : (ndlT k p cs q).length ≤ q := by
  unfold ndlT
  rw [List.length_map]
  exact Nat.le_trans (List.length_filter_le _ _) (by simp)
def ndl (k p : Int) (cs : List Clu) : List Int := if pgood k p cs then ndlT k p cs cs.length else []
theorem ndl_len (k p : Int) (cs : List Clu) : (ndl k p cs).length ≤ 6 := by
  unfold ndl
  cases h : pgood k p cs
  · simp
  · rw [if_pos rfl]
    have := ndlT_len k p cs cs.length
    have := (pgood_lt h).2.1
    omega
theorem wout_all {cs : List Clu} (h : cs.all cok = true) (j : Nat) : (wout cs j).all cok = true := by
  unfold wout
  rw [List.all_append, Bool.and_eq_true]
  refine ⟨List.all_eq_true.2 fun x hx => List.all_eq_true.1 h x (List.mem_of_mem_take hx), List.all_eq_true.2 fun x hx => List.all_eq_true.1 h x (List.mem_of_mem_drop hx)⟩
def NRelZ (k p : Int) (cs : List Clu) (w W0 : World) (s i : Value) (wr : World) : Prop := ∃ q : Nat, q ≤ cs.length ∧ i = .int .i64 q ∧ OwnI wr (w.heap.size + 1) s (ndlT k p cs q) ∧ Below (w.heap.size + 1) W0 wr
set_option maxRecDepth 100000 in
set_option maxHeartbeats 3200000 in
theorem Try.sNeedlessClues (w : World) (k p : Int) (v : Value) (cs : List Clu) (b : Bool) (hb : pgood k p cs = b) (h : CluRow w v cs) :
    Calls Try.prog 43 #[pzV k p v] w fun e w' => ∃ v', e = .returned (.tuple #[v', .bool b]) ∧ OwnI w' w.heap.size v' (ndl k p cs) ∧ Below w.heap.size w w' := by
  have mixed : Try.prog.follows .mixedOrders = true := by kernel_rfl
  have PG := Lib.hid (fun (W : World) (g : Gr w W) => Try.pzGood W k p v cs _ hb (h.gr g))
  have PA := Lib.hid (fun (W : World) (g : Gr w W) a b => Try.pzAll W k p v cs a b (h.gr g))
  have HRow := Lib.hid h
  obtain ⟨A, c, rfl, hlc, hm, h⟩ := h
  unfold maxLen at hm
  cases b
  · rw [show ndl k p cs = [] by simp [ndl, hb]]
    clear hb h
    go_enter Try.func43, Try.ntmps43
    go_wp2_with (first | (go_at_call 63; refine (PG.out _ (by repeat (first | exact Gr.refl _ | refine Gr.alloc ?_ _ | refine Gr.trans ?_ (by assumption) | refine Gr.drew ?_ | refine Gr.drewN ?_ _ | refine Gr.grow ?_ _ | refine Gr.setCell ?_ (by (try simp); (try omega)) _))).mono ?_; rintro e w1 ⟨rfl, hbW⟩; have hcW := (bcell hbW.below).1; have hfW := (bcell hbW.below).2; (try have hzW : w.heap.size < w1.heap.size := by have hq := hbW.below.size; (try simp at hq); omega); (try have hyW : w.heap.size + 1 < w1.heap.size := by have hq := hbW.below.size; (try simp at hq); omega); (try have hxW : w.heap.size + 2 < w1.heap.size := by have hq := hbW.below.size; (try simp at hq); omega)))
    go_ret2
    exact ⟨_, rfl, OwnI.nil2 _ _, Gr.below (by repeat (first | exact Gr.refl _ | refine Gr.alloc ?_ _ | refine Gr.trans ?_ (by assumption) | refine Gr.drew ?_ | refine Gr.drewN ?_ _ | refine Gr.grow ?_ _ | refine Gr.setCell ?_ (by (try simp); (try omega)) _))⟩
  · rw [show ndl k p cs = ndlT k p cs cs.length by simp [ndl, hb]]
    obtain ⟨q1, q2, q3⟩ := pgood_lt hb
    have Q := Lib.hid (And.intro q1 q3)
    have Q6 := Lib.hid q2
    have hsl := solL_yes hb
    have hpl := pall_len q1 cs
    have hcap : (cs.length : Int) ≤ (c : Int) := by omega
    have WO := Lib.hid (fun (W : World) (j : Nat) (hj : j < cs.length) (hr : CluRow W (.slice A cs.length c) cs) => Try.pzWithout W (.slice A cs.length c) cs j hj (by omega) hr)
    have AL := Lib.hid (fun (W : World) (j : Nat) (u : Value) (B : Nat) (ho : OwnC W B u (wout cs j)) (hj : j < cs.length) => Try.pzAll W k p u (wout cs j) q1 (wout_all q3 j) (OwnC.row ho (by have := wout_len cs j hj; unfold maxLen; omega)))
    have ES := Lib.hid (ndlT_succ k p cs)
    have EL := Lib.hid (fun q => ndlT_len k p cs q)
    have HN := Lib.hid (show ((pall k p cs).length : Int) = ((pall k p cs).length : Int) from rfl)
    clear hb h q1 q2 q3 hsl
    go_enter Try.func43, Try.ntmps43
    go_wp2_with (first | (go_at_call 63; refine (PG.out _ (by repeat (first | exact Gr.refl _ | refine Gr.alloc ?_ _ | refine Gr.trans ?_ (by assumption) | refine Gr.drew ?_ | refine Gr.drewN ?_ _ | refine Gr.grow ?_ _ | refine Gr.setCell ?_ (by (try simp); (try omega)) _))).mono ?_; rintro e w1 ⟨rfl, hbW⟩; have hcW := (bcell hbW.below).1; have hfW := (bcell hbW.below).2; (try have hzW : w.heap.size < w1.heap.size := by have hq := hbW.below.size; (try simp at hq); omega); (try have hyW : w.heap.size + 1 < w1.heap.size := by have hq := hbW.below.size; (try simp at hq); omega); (try have hxW : w.heap.size + 2 < w1.heap.size := by have hq := hbW.below.size; (try simp at hq); omega)) | (go_at_call 71; refine (PA.out _ (by repeat (first | exact Gr.refl _ | refine Gr.alloc ?_ _ | refine Gr.trans ?_ (by assumption) | refine Gr.drew ?_ | refine Gr.drewN ?_ _ | refine Gr.grow ?_ _ | refine Gr.setCell ?_ (by (try simp); (try omega)) _)) Q.out.1 Q.out.2).mono ?_; rintro e W1 ⟨v2, rfl, ho, hbq⟩; obtain ⟨A2, c2, rfl, ho⟩ := OwnI.eta ho; have G1 := Lib.hid hbW; have HBQ := Lib.hid hbq; have BW := Lib.hid (show Below w.heap.size w W1 from ((Gr.alloc (Gr.refl w) _).trans G1.out).below.trans (HBQ.out.mono ((Gr.alloc (Gr.refl w) _).trans G1.out).below.size)); have d0 : W1.cell? ⟨w.heap.size, 0, none⟩ = some (.int .i64 k) := (cell_k2 HBQ.out <| G1.out.keep0 (by simp [go_sem])); have d1 : W1.cell? ⟨w.heap.size, 1, none⟩ = some (.int .i64 p) := (cell_k2 HBQ.out <| G1.out.keep0 (by simp [go_sem])); have d2 : W1.cell? ⟨w.heap.size, 2, none⟩ = some (.slice A cs.length c) := (cell_k2 HBQ.out <| G1.out.keep0 (by simp [go_sem])); clear ho hbq hbW hcW hfW))
    have D := Lib.hid (And.intro d0 (And.intro d1 d2))
    have ZW := Lib.hid (show w.heap.size + 1 ≤ W1.heap.size from World.block_lt_of_cell? _ _ d0)
    clear d0 d1 d2
    go_loopw [4, 6, 19] (fun s _ i wr => NRelZ k p cs w W1 s i wr) (fun _ _ i _ => (cs.length - intOf i).toNat)
    case atStart => exact ⟨0, Nat.zero_le _, rfl, OwnI.nil2 _ _, Below.refl _ _⟩
    case round =>
      obtain ⟨q, hk, rfl, ho, hbl⟩ := hrel
      obtain ⟨A5, c5, rfl, ho⟩ := OwnI.eta ho
      have szr := hbl.size
      have p0 : wr.cell? ⟨w.heap.size, 0, none⟩ = some (.int .i64 k) := (hbl.cell (by show w.heap.size < _; omega)).trans D.out.1
      have p1 : wr.cell? ⟨w.heap.size, 1, none⟩ = some (.int .i64 p) := (hbl.cell (by show w.heap.size < _; omega)).trans D.out.2.1
      have p2 : wr.cell? ⟨w.heap.size, 2, none⟩ = some (.slice A cs.length c) := (hbl.cell (by show w.heap.size < _; omega)).trans D.out.2.2
      have hrow := HRow.out.below (BW.out.trans (hbl.mono (Nat.le_succ _)))
      have HROW := Lib.hid hrow
      have HOW := Lib.hid ho
      have HBL := Lib.hid hbl
      have PP := Lib.hid (And.intro p0 (And.intro p1 p2))
      clear ho hbl hrow
      by_cases hlt : q < cs.length
      · have z0 : (0 : Int) ≤ (q : Int) := by omega
        have z1 : (q : Int) < (cs.length : Int) := by omega
        have HSU := Lib.hid (ES.out q)
        have hl5 := EL.out q
        have HLT := Lib.hid hlt
        cases hf : ndlP k p cs q
        · rw [hf, if_neg (by simp)] at HSU
          have hne := of_decide_eq_false hf
          have HNE := Lib.hid (show (((pall k p (wout cs q)).length : Int) == ((pall k p cs).length : Int)) = false by simp; omega)
          clear hf hne
          go_wp2
          go_region_held3 (fun W' => W'.cell? ⟨w.heap.size, 0, none⟩ = some (.int .i64 k) ∧ W'.cell? ⟨w.heap.size, 1, none⟩ = some (.int .i64 p) ∧ W'.cell? ⟨w.heap.size, 2, none⟩ = some (.slice A cs.length c))
            (first | exact ⟨p0, p1, p2⟩ | exact keep3 (Below.drew (Below.refl _ _)) PP.out | exact keep3 b2 (by assumption) | exact keep3 b3 (by assumption))
            ((first | (go_at_call 75; refine (WO.out _ q HLT.out (HROW.out.below (by first | exact Below.refl _ _ | exact Below.drew (Below.refl _ _)))).mono ?_; rintro e w2 ⟨v2, rfl, ho2, b2⟩; obtain ⟨A2, c2, rfl, ho2⟩ := OwnE.eta ho2) | (go_at_call 71; refine (AL.out _ q _ _ (by first | exact ho2 | exact OwnE.below ho2 (Below.drew (Below.refl _ _)) (Nat.le_refl _)) HLT.out).mono ?_; rintro e w3 ⟨v3, rfl, ho3, b3⟩; obtain ⟨A3, c3, rfl, ho3⟩ := OwnI.eta ho3)))
          have hne' := HNE.out
          have b23 : Below wr.heap.size wr w3 := (show Below wr.heap.size wr w2 by first | exact b2 | exact (Below.drew (Below.refl _ _)).trans b2).trans (b3.mono (show wr.heap.size ≤ w2.heap.size by have := b2.size; (try simp at this); omega))
          have B23 := Lib.hid b23
          clear ho2 ho3 b2 b3 b23
          go_wp2
          go_roundw
          case rel => exact ⟨q + 1, by omega, by go_num, by rw [HSU.out]; exact HOW.out.below B23.out (Nat.le_refl _), HBL.out.trans (B23.out.mono (by have := HBL.out.size; have := ZW.out; omega))⟩
          case measure => simp [intOf]; omega
        · rw [hf, if_pos rfl] at HSU
          have hne := of_decide_eq_true hf
          have HNE := Lib.hid (show (((pall k p (wout cs q)).length : Int) == ((pall k p cs).length : Int)) = true by simp; omega)
          clear hf hne
          go_wp2
          go_region_held3 (fun W' => W'.cell? ⟨w.heap.size, 0, none⟩ = some (.int .i64 k) ∧ W'.cell? ⟨w.heap.size, 1, none⟩ = some (.int .i64 p) ∧ W'.cell? ⟨w.heap.size, 2, none⟩ = some (.slice A cs.length c))
            (first | exact ⟨p0, p1, p2⟩ | exact keep3 (Below.drew (Below.refl _ _)) PP.out | exact keep3 b2 (by assumption) | exact keep3 b3 (by assumption))
            ((first | (go_at_call 75; refine (WO.out _ q HLT.out (HROW.out.below (by first | exact Below.refl _ _ | exact Below.drew (Below.refl _ _)))).mono ?_; rintro e w2 ⟨v2, rfl, ho2, b2⟩; obtain ⟨A2, c2, rfl, ho2⟩ := OwnE.eta ho2) | (go_at_call 71; refine (AL.out _ q _ _ (by first | exact ho2 | exact OwnE.below ho2 (Below.drew (Below.refl _ _)) (Nat.le_refl _)) HLT.out).mono ?_; rintro e w3 ⟨v3, rfl, ho3, b3⟩; obtain ⟨A3, c3, rfl, ho3⟩ := OwnI.eta ho3)))
          have hne' := HNE.out
          have b23 : Below wr.heap.size wr w3 := (show Below wr.heap.size wr w2 by first | exact b2 | exact (Below.drew (Below.refl _ _)).trans b2).trans (b3.mono (show wr.heap.size ≤ w2.heap.size by have := b2.size; (try simp at this); omega))
          have B23 := Lib.hid b23
          clear ho2 ho3 b2 b3 b23
          go_wp2_with (at_builtin; refine wpList_app1I rfl _ _ 46 rfl Try.underlying46 Try.infoI2 (w.heap.size + 1) _ _ rfl (HOW.out.below B23.out (Nat.le_refl _)) (q : Int) rfl (by have := Q6.out; have := HLT.out; omega) (by have := B23.out.size; have := HBL.out.size; have := ZW.out; omega) ?_; intro v' w4 ho4 hb4 _ _; have HO4 := Lib.hid ho4; have HB4 := Lib.hid hb4; clear ho4 hb4)
          go_roundw
          case rel => exact ⟨q + 1, by omega, by go_num, by rw [HSU.out]; exact HO4.out, (HBL.out.trans (B23.out.mono (by have := HBL.out.size; have := ZW.out; omega))).trans HB4.out⟩
          case measure => simp [intOf]; omega
      · obtain rfl : q = cs.length := by omega
        go_wp2
        go_ret2
        exact ⟨_, rfl, HOW.out.mono (by omega), BW.out.trans (HBL.out.mono (by omega))⟩
set_option maxRecDepth 100000 in
set_option maxHeartbeats 3200000 in
theorem Try.iNeedlessClues (w : World) (k p : Int) (v : Value) (cs : List Clu) (b : Bool) (hb : pgood k p cs = b) (h : CluRow w v cs) :
    Calls Try.prog 44 #[pzV k p v] w fun e w' => ∃ v', e = .returned (.tuple #[v', .bool b]) ∧ OwnI w' w.heap.size v' (ndl k p cs) ∧ Below w.heap.size w w' := by
  have mixed : Try.prog.follows .mixedOrders = true := by kernel_rfl
  have PG := Lib.hid (fun (W : World) (g : Gr w W) => Try.iCountSolutions W k p v cs _ hb (h.gr g))
  have HRow := Lib.hid h
  obtain ⟨A, c, rfl, hlc, hm, h⟩ := h
  unfold maxLen at hm
  cases b
  · rw [show ndl k p cs = [] by simp [ndl, hb]]
    clear hb h
    go_enter Try.func44, Try.ntmps44
    go_wp2_with (first | (go_at_call 36; refine (PG.out _ (by repeat (first | exact Gr.refl _ | refine Gr.alloc ?_ _ | refine Gr.trans ?_ (by assumption) | refine Gr.drew ?_ | refine Gr.drewN ?_ _ | refine Gr.grow ?_ _ | refine Gr.setCell ?_ (by (try simp); (try omega)) _))).mono ?_; rintro e W1 ⟨rfl, hbq⟩; have HBQ := Lib.hid hbq; clear hbq))
    go_ret2
    exact ⟨_, rfl, OwnI.nil2 _ _, (Gr.alloc (Gr.refl w) _).below.trans (HBQ.out.mono (by simp))⟩
  · rw [show ndl k p cs = ndlT k p cs cs.length by simp [ndl, hb]]
    obtain ⟨q1, q2, q3⟩ := pgood_lt hb
    have Q := Lib.hid (And.intro q1 q3)
    have Q6 := Lib.hid q2
    have hsl := solL_yes hb
    have hpl := pall_len q1 cs
    have hcap : (cs.length : Int) ≤ (c : Int) := by omega
    have WO := Lib.hid (fun (W : World) (j : Nat) (hj : j < cs.length) (hr : CluRow W (.slice A cs.length c) cs) => Try.without W (.slice A cs.length c) cs j hj (by omega) hr)
    have AL := Lib.hid (fun (W : World) (j : Nat) (u : Value) (B : Nat) (ho : OwnC W B u (wout cs j)) (hj : j < cs.length) => Try.leftBy W k p u (wout cs j) q1 (wout_all q3 j) (OwnC.row ho (by have := wout_len cs j hj; unfold maxLen; omega)))
    have ES := Lib.hid (ndlT_succ k p cs)
    have EL := Lib.hid (fun q => ndlT_len k p cs q)
    obtain ⟨N, hN⟩ : ∃ N : Int, N = ((pall k p cs).length : Int) := ⟨_, rfl⟩
    have HN := Lib.hid hN
    rw [show solN k p cs = N by rw [hN]; unfold solN; rw [hsl]] at PG
    clear hN
    clear hb h q1 q2 q3 hsl
    go_enter Try.func44, Try.ntmps44
    go_wp2_with (first | (go_at_call 36; refine (PG.out _ (by repeat (first | exact Gr.refl _ | refine Gr.alloc ?_ _ | refine Gr.trans ?_ (by assumption) | refine Gr.drew ?_ | refine Gr.drewN ?_ _ | refine Gr.grow ?_ _ | refine Gr.setCell ?_ (by (try simp); (try omega)) _))).mono ?_; rintro e W1 ⟨rfl, hbq⟩; have HBQ := Lib.hid hbq; have BW := Lib.hid (show Below w.heap.size w W1 from (Gr.alloc (Gr.refl w) _).below.trans (HBQ.out.mono (by simp))); have d0 : W1.cell? ⟨w.heap.size, 0, none⟩ = some (.int .i64 k) := (cell_k2 HBQ.out (by simp [go_sem])); have d1 : W1.cell? ⟨w.heap.size, 1, none⟩ = some (.int .i64 p) := (cell_k2 HBQ.out (by simp [go_sem])); have d2 : W1.cell? ⟨w.heap.size, 2, none⟩ = some (.slice A cs.length c) := (cell_k2 HBQ.out (by simp [go_sem])); clear hbq))
    have D := Lib.hid (And.intro d0 (And.intro d1 d2))
    have ZW := Lib.hid (show w.heap.size + 1 ≤ W1.heap.size from World.block_lt_of_cell? _ _ d0)
    clear d0 d1 d2
    go_loopw [6, 7, 18] (fun s _ i wr => NRelZ k p cs w W1 s i wr) (fun _ _ i _ => (cs.length - intOf i).toNat)
    case atStart => exact ⟨0, Nat.zero_le _, rfl, OwnI.nil2 _ _, Below.refl _ _⟩
    case round =>
      obtain ⟨q, hk, rfl, ho, hbl⟩ := hrel
      obtain ⟨A5, c5, rfl, ho⟩ := OwnI.eta ho
      have szr := hbl.size
      have p0 : wr.cell? ⟨w.heap.size, 0, none⟩ = some (.int .i64 k) := (hbl.cell (by show w.heap.size < _; omega)).trans D.out.1
      have p1 : wr.cell? ⟨w.heap.size, 1, none⟩ = some (.int .i64 p) := (hbl.cell (by show w.heap.size < _; omega)).trans D.out.2.1
      have p2 : wr.cell? ⟨w.heap.size, 2, none⟩ = some (.slice A cs.length c) := (hbl.cell (by show w.heap.size < _; omega)).trans D.out.2.2
      have hrow := HRow.out.below (BW.out.trans (hbl.mono (Nat.le_succ _)))
      have HROW := Lib.hid hrow
      have HOW := Lib.hid ho
      have HBL := Lib.hid hbl
      have PP := Lib.hid (And.intro p0 (And.intro p1 p2))
      clear ho hbl hrow
      by_cases hlt : q < cs.length
      · have z0 : (0 : Int) ≤ (q : Int) := by omega
        have z1 : (q : Int) < (cs.length : Int) := by omega
        have HSU := Lib.hid (ES.out q)
        have hl5 := EL.out q
        have HLT := Lib.hid hlt
        cases hf : ndlP k p cs q
        · rw [hf, if_neg (by simp)] at HSU
          have hne := of_decide_eq_false hf
          have HNE := Lib.hid (show (((pall k p (wout cs q)).length : Int) == N) = false by rw [HN.out]; simp; omega)
          clear hf hne
          go_wp2
          go_region_held3 (fun W' => W'.cell? ⟨w.heap.size, 0, none⟩ = some (.int .i64 k) ∧ W'.cell? ⟨w.heap.size, 1, none⟩ = some (.int .i64 p) ∧ W'.cell? ⟨w.heap.size, 2, none⟩ = some (.slice A cs.length c))
            (first | exact ⟨p0, p1, p2⟩ | exact keep3 (Below.drew (Below.refl _ _)) PP.out | exact keep3 b2 (by assumption) | exact keep3 b3 (by assumption))
            ((first | (go_at_call 76; refine (WO.out _ q HLT.out (HROW.out.below (by first | exact Below.refl _ _ | exact Below.drew (Below.refl _ _)))).mono ?_; rintro e w2 ⟨v2, rfl, ho2, b2⟩; obtain ⟨A2, c2, rfl, ho2⟩ := OwnE.eta ho2) | (go_at_call 72; refine (AL.out _ q _ _ (by first | exact ho2 | exact OwnE.below ho2 (Below.drew (Below.refl _ _)) (Nat.le_refl _)) HLT.out).mono ?_; rintro e w3 ⟨v3, rfl, ho3, b3⟩; obtain ⟨A3, c3, rfl, ho3⟩ := OwnI.eta ho3)))
          have hne' := HNE.out
          have b23 : Below wr.heap.size wr w3 := (show Below wr.heap.size wr w2 by first | exact b2 | exact (Below.drew (Below.refl _ _)).trans b2).trans (b3.mono (show wr.heap.size ≤ w2.heap.size by have := b2.size; (try simp at this); omega))
          have B23 := Lib.hid b23
          clear ho2 ho3 b2 b3 b23
          go_wp2
          go_roundw
          case rel => exact ⟨q + 1, by omega, by go_num, by rw [HSU.out]; exact HOW.out.below B23.out (Nat.le_refl _), HBL.out.trans (B23.out.mono (by have := HBL.out.size; have := ZW.out; omega))⟩
          case measure => simp [intOf]; omega
        · rw [hf, if_pos rfl] at HSU
          have hne := of_decide_eq_true hf
          have HNE := Lib.hid (show (((pall k p (wout cs q)).length : Int) == N) = true by rw [HN.out]; simp; omega)
          clear hf hne
          go_wp2
          go_region_held3 (fun W' => W'.cell? ⟨w.heap.size, 0, none⟩ = some (.int .i64 k) ∧ W'.cell? ⟨w.heap.size, 1, none⟩ = some (.int .i64 p) ∧ W'.cell? ⟨w.heap.size, 2, none⟩ = some (.slice A cs.length c))
            (first | exact ⟨p0, p1, p2⟩ | exact keep3 (Below.drew (Below.refl _ _)) PP.out | exact keep3 b2 (by assumption) | exact keep3 b3 (by assumption))
            ((first | (go_at_call 76; refine (WO.out _ q HLT.out (HROW.out.below (by first | exact Below.refl _ _ | exact Below.drew (Below.refl _ _)))).mono ?_; rintro e w2 ⟨v2, rfl, ho2, b2⟩; obtain ⟨A2, c2, rfl, ho2⟩ := OwnE.eta ho2) | (go_at_call 72; refine (AL.out _ q _ _ (by first | exact ho2 | exact OwnE.below ho2 (Below.drew (Below.refl _ _)) (Nat.le_refl _)) HLT.out).mono ?_; rintro e w3 ⟨v3, rfl, ho3, b3⟩; obtain ⟨A3, c3, rfl, ho3⟩ := OwnI.eta ho3)))
          have hne' := HNE.out
          have b23 : Below wr.heap.size wr w3 := (show Below wr.heap.size wr w2 by first | exact b2 | exact (Below.drew (Below.refl _ _)).trans b2).trans (b3.mono (show wr.heap.size ≤ w2.heap.size by have := b2.size; (try simp at this); omega))
          have B23 := Lib.hid b23
          clear ho2 ho3 b2 b3 b23
          go_wp2_with (at_builtin; refine wpList_app1I rfl _ _ 46 rfl Try.underlying46 Try.infoI2 (w.heap.size + 1) _ _ rfl (HOW.out.below B23.out (Nat.le_refl _)) (q : Int) rfl (by have := Q6.out; have := HLT.out; omega) (by have := B23.out.size; have := HBL.out.size; have := ZW.out; omega) ?_; intro v' w4 ho4 hb4 _ _; have HO4 := Lib.hid ho4; have HB4 := Lib.hid hb4; clear ho4 hb4)
          go_roundw
          case rel => exact ⟨q + 1, by omega, by go_num, by rw [HSU.out]; exact HO4.out, (HBL.out.trans (B23.out.mono (by have := HBL.out.size; have := ZW.out; omega))).trans HB4.out⟩
          case measure => simp [intOf]; omega
      · obtain rfl : q = cs.length := by omega
        go_wp2
        go_ret2
        exact ⟨_, rfl, HOW.out.mono (by omega), BW.out.trans (HBL.out.mono (by omega))⟩
end Go.Proofs
