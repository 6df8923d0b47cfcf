/-
  Chapter 9: houses left by clues, both sides.
-/
import Derived.Test.YtbnabjnpdkmbhaaPzP
import Derived.Test.YtbnabjnpdkmbhaaInts3
namespace Go.Proofs
open Go.RowKit
set_option linter.unusedVariables false
set_option linter.unusedSimpArgs false
def lefT (k p : Int) (cs : List Clu) (q : Nat) : List Int := (List.range q).map (fun j => ((pall k p (cs.take j)).length : Int))
theorem lefT_succ (k p : Int) (cs : List Clu) (q : Nat) : lefT k p cs (q + 1) = lefT k p cs q ++ [((pall k p (cs.take q)).length : Int)] := by
  unfold lefT
  rw [List.range_succ, List.map_append]
  rfl
theorem lefT_len (k p : Int) (cs : List Clu) (q : Nat) : (lefT k p cs q).length = q := by simp [lefT]
def lef (k p : Int) (cs : List Clu) : List Int := if pgood k p cs then lefT k p cs (cs.length + 1) else []
theorem lef_len (k p : Int) (cs : List Clu) : (lef k p cs).length ≤ 7 := by
  unfold lef
  cases h : pgood k p cs
  · simp
  · rw [if_pos rfl, lefT_len]
    have := (pgood_lt h).2.1
    omega
theorem keep3B {C : Nat} {w w' : World} {a b c : Addr} {x y z : Value} (g : Below C w w') (ha : a.block < C) (hb : b.block < C) (hc : c.block < C) (h : w.cell? a = some x ∧ w.cell? b = some y ∧ w.cell? c = some z) : w'.cell? a = some x ∧ w'.cell? b = some y ∧ w'.cell? c = some z :=
  ⟨(g.cell ha).trans h.1, (g.cell hb).trans h.2.1, (g.cell hc).trans h.2.2⟩
theorem CluRow.sub {w : World} {g o : Nat} {cs : List Clu} (hc : ∀ j, j < cs.length → w.cell? ⟨g, o + j * 3, none⟩ = some (.int .i64 (cs.getD j cl0).1) ∧ w.cell? ⟨g, o + j * 3 + 1, none⟩ = some (.int .i64 (cs.getD j cl0).2.1) ∧ w.cell? ⟨g, o + j * 3 + 2, none⟩ = some (.int .i64 (cs.getD j cl0).2.2))
    (m l c : Nat) (hm : m + l ≤ cs.length) (hl : l ≤ c) (hcm : c ≤ maxLen) : CluRow w (.slice (some ⟨g, o + m * 3, none⟩) l c) ((cs.drop m).take l) := by
  have hlen : ((cs.drop m).take l).length = l := by simp; omega
  refine ⟨_, c, by rw [hlen], by rw [hlen]; exact hl, hcm, .inr ⟨g, o + m * 3, rfl, fun j hj => ?_⟩⟩
  rw [hlen] at hj
  have e : ((cs.drop m).take l).getD j cl0 = cs.getD (m + j) cl0 := by simp [List.getD, List.getElem?_take, hj, List.getElem?_drop]
  rw [e]
  obtain ⟨c0, c1, c2⟩ := hc (m + j) (by omega)
  rw [show o + m * 3 + j * 3 = o + (m + j) * 3 by omega]
  exact ⟨c0, c1, c2⟩
theorem take_all {cs : List Clu} (h : cs.all cok = true) (q : Nat) : (cs.take q).all cok = true := List.all_eq_true.2 fun x hx => List.all_eq_true.1 h x (List.mem_of_mem_take hx)
theorem drop_all {cs : List Clu} (h : cs.all cok = true) (q l : Nat) : ((cs.drop q).take l).all cok = true := List.all_eq_true.2 fun x hx => List.all_eq_true.1 h x (List.mem_of_mem_drop (List.mem_of_mem_take hx))
theorem ics1 {w : World} {b : Nat} {x : Int} (h : w.cell? ⟨b, 0, none⟩ = some (.int .i64 x)) : ∀ j u, (ics [x])[j]? = some u → w.cell? ((⟨b, 0, none⟩ : Addr).add j) = some u := by
  intro j u hu
  cases j with
  | zero => simp [ics] at hu; subst hu; simpa [Addr.add] using h
  | succ j => simp [ics] at hu
def VRelZ (k p : Int) (cs : List Clu) (w W0 : World) (s i : Value) (wr : World) : Prop := ∃ q : Nat, q ≤ cs.length + 1 ∧ i = .int .i64 q ∧ OwnI wr (w.heap.size + 1) s (lefT k p cs q) ∧ Below (w.heap.size + 1) W0 wr
set_option maxRecDepth 100000 in
set_option maxHeartbeats 3200000 in
theorem Try.sLeftByClues (w : World) (k p : Int) (B : Nat) (v : Value) (cs : List Clu) (b : Bool) (hb : pgood k p cs = b) (hl : cs.length ≤ 1048576) (ho : OwnC w B v cs) :
    Calls Try.prog 50 #[pzV k p v] w fun e w' => ∃ v', e = .returned (.tuple #[v', .bool b]) ∧ OwnI w' w.heap.size v' (lef k p cs) ∧ Below w.heap.size w w' := by
  have mixed : Try.prog.follows .mixedOrders = true := by kernel_rfl
  have h := OwnC.row ho (by unfold maxLen; omega)
  have PG := Lib.hid (fun (W : World) (g : Gr w W) => Try.pzGood W k p v cs _ hb (h.gr g))
  cases b
  · rw [show lef k p cs = [] by simp [lef, hb]]
    obtain ⟨A, c, rfl, hlc, hm, h⟩ := h
    clear hb h ho
    go_enter Try.func50, Try.ntmps50
    go_wp2_with (first | (go_at_call 63; refine (PG.out _ (by repeat (first | exact Gr.refl _ | refine Gr.alloc ?_ _ | refine Gr.trans ?_ (by assumption) | refine Gr.drew ?_ | refine Gr.drewN ?_ _ | refine Gr.grow ?_ _ | refine Gr.setCell ?_ (by (try simp); (try omega)) _))).mono ?_; rintro e w1 ⟨rfl, hbW⟩; have hcW := (bcell hbW.below).1; have hfW := (bcell hbW.below).2; (try have hzW : w.heap.size < w1.heap.size := by have hq := hbW.below.size; (try simp at hq); omega); (try have hyW : w.heap.size + 1 < w1.heap.size := by have hq := hbW.below.size; (try simp at hq); omega); (try have hxW : w.heap.size + 2 < w1.heap.size := by have hq := hbW.below.size; (try simp at hq); omega)))
    go_ret2
    exact ⟨_, rfl, OwnI.nil2 _ _, Gr.below (by repeat (first | exact Gr.refl _ | refine Gr.alloc ?_ _ | refine Gr.trans ?_ (by assumption) | refine Gr.drew ?_ | refine Gr.drewN ?_ _ | refine Gr.grow ?_ _ | refine Gr.setCell ?_ (by (try simp); (try omega)) _))⟩
  · rw [show lef k p cs = lefT k p cs (cs.length + 1) by simp [lef, hb]]
    obtain ⟨q1, q2, q3⟩ := pgood_lt hb
    have Q6 := Lib.hid q2
    have ES := Lib.hid (lefT_succ k p cs)
    have EL := Lib.hid (lefT_len k p cs)
    have AL := Lib.hid (fun (W : World) (u : Value) (q : Nat) (hr : CluRow W u (cs.take q)) => Try.pzAll W k p u (cs.take q) q1 (take_all q3 q) hr)
    obtain ⟨A, c, hv, hlc, hcm, SUB⟩ : ∃ A c, v = .slice A cs.length c ∧ cs.length ≤ c ∧ c ≤ maxLen ∧ ((A = none ∧ c = 0 ∧ cs = []) ∨ ∃ g, A = some ⟨g, 0, none⟩ ∧ ∀ W, Below w.heap.size w W → ∀ q c', q ≤ cs.length → q ≤ c' → c' ≤ maxLen → CluRow W (.slice (some ⟨g, 0, none⟩) q c') (cs.take q)) := by
      rcases ho.2 with ⟨rfl, hn⟩ | ⟨g, cap, cur, rfl, _, hg, hcl, hcm, _, _⟩
      · have : cs = [] := List.length_eq_zero_iff.1 hn
        subst this
        exact ⟨none, 0, rfl, Nat.le_refl _, Nat.zero_le _, .inl ⟨rfl, rfl, rfl⟩⟩
      · refine ⟨_, cap, rfl, hcl, hcm, .inr ⟨g, rfl, fun W hW q c' hq hq' hcm' => ?_⟩⟩
        obtain ⟨A', c2, e1, _, _, hcc⟩ := h.below hW
        simp only [Value.slice.injEq] at e1
        obtain ⟨rfl, _, rfl⟩ := e1
        rcases hcc with e | ⟨g', o', e, hcc⟩
        · subst e
          simp at hq
          subst hq
          exact ⟨_, c', rfl, Nat.zero_le _, hcm', .inl rfl⟩
        · simp only [Option.some.injEq, Addr.mk.injEq] at e
          obtain ⟨rfl, rfl, _⟩ := e
          have := CluRow.sub hcc 0 q c' (by omega) hq' hcm'
          simpa using this
    subst hv
    unfold maxLen at hcm
    clear hb h ho q1 q2 q3
    rcases SUB with ⟨rfl, rfl, rfl⟩ | ⟨g, rfl, SUB⟩
    · go_enter Try.func50, Try.ntmps50
      go_wp2_with (first | (go_at_call 63; refine (PG.out _ (by repeat (first | exact Gr.refl _ | refine Gr.alloc ?_ _ | refine Gr.trans ?_ (by assumption) | refine Gr.drew ?_ | refine Gr.drewN ?_ _ | refine Gr.grow ?_ _ | refine Gr.setCell ?_ (by (try simp); (try omega)) _))).mono ?_; rintro e W1 ⟨rfl, hbW⟩; have BW := Lib.hid ((Gr.alloc (Gr.refl w) _).trans hbW).below; have d0 : W1.cell? ⟨w.heap.size, 0, none⟩ = some (.int .i64 k) := hbW.keep0 (by simp [go_sem]); have d1 : W1.cell? ⟨w.heap.size, 1, none⟩ = some (.int .i64 p) := hbW.keep0 (by simp [go_sem]); have d2 : W1.cell? ⟨w.heap.size, 2, none⟩ = some (.slice none 0 0) := hbW.keep0 (by simp [go_sem]); clear hbW))
      have D := Lib.hid (And.intro d0 (And.intro d1 d2))
      have ZW := Lib.hid (show w.heap.size + 1 ≤ W1.heap.size from World.block_lt_of_cell? _ _ d0)
      clear d0 d1 d2
      go_loopw [4, 5] (fun s i wr => VRelZ k p [] w W1 s i wr) (fun _ i _ => (0 + 1 - intOf i).toNat)
      case atStart => exact ⟨0, Nat.zero_le _, rfl, OwnI.nil2 _ _, Below.refl _ _⟩
      case round =>
        obtain ⟨q, hk, rfl, ho, hbl⟩ := hrel
        obtain ⟨A5, c5, rfl, ho⟩ := OwnI.eta ho
        have hlq := EL.out q
        rw [hlq] at ho ⊢
        have szr := hbl.size
        have p0 : wr.cell? ⟨w.heap.size, 0, none⟩ = some (.int .i64 k) := (hbl.cell (by show w.heap.size < _; omega)).trans D.out.1
        have p1 : wr.cell? ⟨w.heap.size, 1, none⟩ = some (.int .i64 p) := (hbl.cell (by show w.heap.size < _; omega)).trans D.out.2.1
        have p2 : wr.cell? ⟨w.heap.size, 2, none⟩ = some (.slice none 0 0) := (hbl.cell (by show w.heap.size < _; omega)).trans D.out.2.2
        have BB := Lib.hid (BW.out.trans (hbl.mono (Nat.le_succ _)))
        have HOW := Lib.hid ho
        have HBL := Lib.hid hbl
        have PP := Lib.hid (And.intro p0 (And.intro p1 p2))
        have hzr := Lib.hid (show w.heap.size + 1 ≤ wr.heap.size by have := ZW.out; omega)
        clear ho hbl
        by_cases hlt : q ≤ 0
        · have z0 : (0 : Int) ≤ (q : Int) := by omega
          obtain rfl : q = 0 := by omega
          have HSU := Lib.hid (ES.out 0)
          have HLT := Lib.hid hlt
          clear hlt
          go_wp2
          go_region_held3 (fun W' => W'.cell? ⟨w.heap.size, 0, none⟩ = some (.int .i64 k) ∧ W'.cell? ⟨w.heap.size, 1, none⟩ = some (.int .i64 p) ∧ W'.cell? ⟨w.heap.size, 2, none⟩ = some (.slice none 0 0))
            (first | exact ⟨p0, p1, p2⟩ | exact keep3 (Below.drew (Below.refl _ _)) PP.out | exact keep3 b3 (by assumption) | exact keep3 (Gr.below (Gr.alloc (Gr.refl _) _)) (by assumption) | exact keep3 (Gr.below (Gr.alloc (Gr.refl _) _)) (keep3 b3 PP.out) | exact keep3 (Gr.below (Gr.alloc (Gr.refl _) _)) (keep3 b3 (keep3 (Below.drew (Below.refl _ _)) PP.out)) | exact keep3B hb4 (Nat.lt_succ_self _) (Nat.lt_succ_self _) (Nat.lt_succ_self _) (by assumption) | exact keep3B hb4 (Nat.lt_succ_self _) (Nat.lt_succ_self _) (Nat.lt_succ_self _) (keep3 (Gr.below (Gr.alloc (Gr.refl _) _)) (keep3 b3 PP.out)) | exact keep3 (Below.drew (Below.refl _ _)) (by assumption))
            ((first | (go_at_call 71; refine (AL.out _ _ 0 (⟨none, 0, rfl, Nat.le_refl _, Nat.zero_le _, .inl rfl⟩)).mono ?_; rintro e w3 ⟨v3, rfl, ho3, b3⟩; obtain ⟨A3, c3, rfl, ho3⟩ := OwnI.eta ho3; have B3 : Below wr.heap.size wr w3 := (by first | exact b3 | exact (Below.drew (Below.refl _ _)).trans b3)) | (refine step_appI rfl (.tmp 16) (.tmp 25) 46 rfl Try.underlying46 Try.infoI2 (w.heap.size + 1) (.slice A5 0 c5) _ rfl (HOW.out.below (B3.trans ((Gr.alloc (Gr.refl w3) _).below.mono B3.size)) (Nat.le_refl _)) ⟨w3.heap.size, 0, none⟩ 1 1 [((pall k p ([].take 0)).length : Int)] rfl rfl (ics1 (by simp [go_sem])) (by simp [lefT]) (by simp) (by have := B3.size; have := hzr.out; simp; omega) ?_; intro v4 w4 ho4 hb4 hg4)))
          have B4 := Lib.hid ((B3.mono hzr.out).trans (((Gr.alloc (Gr.refl w3) (.cells #[.int .i64 ((pall k p ([].take 0)).length : Int)] 3)).below.mono (by have := B3.size; have := hzr.out; omega)).trans hb4))
          have HO4 := Lib.hid ho4
          clear ho3 ho4 b3 hb4 hg4 B3
          go_wp2
          go_roundw
          case rel => exact ⟨0 + 1, by have := HLT.out; omega, by go_num, by rw [HSU.out]; exact HO4.out, HBL.out.trans B4.out⟩
          case measure => simp [intOf]
        · obtain rfl : q = 0 + 1 := by (try simp only [List.length_nil] at *); omega
          skip
          go_wp2
          go_ret2
          exact ⟨_, rfl, HOW.out.mono (by omega), BW.out.trans (HBL.out.mono (by omega))⟩
    · have S0 := Lib.hid SUB
      have zc : (cs.length : Int) ≤ (c : Int) := by omega
      have zc6 : cs.length ≤ 6 := Q6.out
      clear SUB
      go_enter Try.func50, Try.ntmps50
      go_wp2_with (first | (go_at_call 63; refine (PG.out _ (by repeat (first | exact Gr.refl _ | refine Gr.alloc ?_ _ | refine Gr.trans ?_ (by assumption) | refine Gr.drew ?_ | refine Gr.drewN ?_ _ | refine Gr.grow ?_ _ | refine Gr.setCell ?_ (by (try simp); (try omega)) _))).mono ?_; rintro e W1 ⟨rfl, hbW⟩; have BW := Lib.hid ((Gr.alloc (Gr.refl w) _).trans hbW).below; have d0 : W1.cell? ⟨w.heap.size, 0, none⟩ = some (.int .i64 k) := hbW.keep0 (by simp [go_sem]); have d1 : W1.cell? ⟨w.heap.size, 1, none⟩ = some (.int .i64 p) := hbW.keep0 (by simp [go_sem]); have d2 : W1.cell? ⟨w.heap.size, 2, none⟩ = some (.slice (some ⟨g, 0, none⟩) cs.length c) := hbW.keep0 (by simp [go_sem]); clear hbW))
      have D := Lib.hid (And.intro d0 (And.intro d1 d2))
      have ZW := Lib.hid (show w.heap.size + 1 ≤ W1.heap.size from World.block_lt_of_cell? _ _ d0)
      clear d0 d1 d2
      go_loopw [4, 5] (fun s i wr => VRelZ k p cs w W1 s i wr) (fun _ i _ => (cs.length + 1 - intOf i).toNat)
      case atStart => exact ⟨0, Nat.zero_le _, rfl, OwnI.nil2 _ _, Below.refl _ _⟩
      case round =>
        obtain ⟨q, hk, rfl, ho, hbl⟩ := hrel
        obtain ⟨A5, c5, rfl, ho⟩ := OwnI.eta ho
        have hlq := EL.out q
        rw [hlq] at ho ⊢
        have szr := hbl.size
        have p0 : wr.cell? ⟨w.heap.size, 0, none⟩ = some (.int .i64 k) := (hbl.cell (by show w.heap.size < _; omega)).trans D.out.1
        have p1 : wr.cell? ⟨w.heap.size, 1, none⟩ = some (.int .i64 p) := (hbl.cell (by show w.heap.size < _; omega)).trans D.out.2.1
        have p2 : wr.cell? ⟨w.heap.size, 2, none⟩ = some (.slice (some ⟨g, 0, none⟩) cs.length c) := (hbl.cell (by show w.heap.size < _; omega)).trans D.out.2.2
        have BB := Lib.hid (BW.out.trans (hbl.mono (Nat.le_succ _)))
        have HOW := Lib.hid ho
        have HBL := Lib.hid hbl
        have PP := Lib.hid (And.intro p0 (And.intro p1 p2))
        have hzr := Lib.hid (show w.heap.size + 1 ≤ wr.heap.size by have := ZW.out; omega)
        clear ho hbl
        by_cases hlt : q ≤ cs.length
        · have z0 : (0 : Int) ≤ (q : Int) := by omega
          have z1 : (q : Int) ≤ (cs.length : Int) := by omega
          have z2 : (q : Int) ≤ (c : Int) := by omega
          have z3 : (q : Int) < (cs.length : Int) + 1 := by omega
          have HSU := Lib.hid (ES.out q)
          have HLT := Lib.hid hlt
          clear hlt
          go_wp2
          go_region_held3 (fun W' => W'.cell? ⟨w.heap.size, 0, none⟩ = some (.int .i64 k) ∧ W'.cell? ⟨w.heap.size, 1, none⟩ = some (.int .i64 p) ∧ W'.cell? ⟨w.heap.size, 2, none⟩ = some (.slice (some ⟨g, 0, none⟩) cs.length c))
            (first | exact ⟨p0, p1, p2⟩ | exact keep3 (Below.drew (Below.refl _ _)) PP.out | exact keep3 b3 (by assumption) | exact keep3 (Gr.below (Gr.alloc (Gr.refl _) _)) (by assumption) | exact keep3 (Gr.below (Gr.alloc (Gr.refl _) _)) (keep3 b3 PP.out) | exact keep3 (Gr.below (Gr.alloc (Gr.refl _) _)) (keep3 b3 (keep3 (Below.drew (Below.refl _ _)) PP.out)) | exact keep3B hb4 (Nat.lt_succ_self _) (Nat.lt_succ_self _) (Nat.lt_succ_self _) (by assumption) | exact keep3B hb4 (Nat.lt_succ_self _) (Nat.lt_succ_self _) (Nat.lt_succ_self _) (keep3 (Gr.below (Gr.alloc (Gr.refl _) _)) (keep3 b3 PP.out)) | exact keep3 (Below.drew (Below.refl _ _)) (by assumption))
            ((first | (go_at_call 71; refine (AL.out _ _ q (S0.out _ (BB.out.trans (by first | exact (Below.refl _ _) | exact (Gr.drew (Gr.refl _)).below.mono BB.out.size)) q c HLT.out (by have := HLT.out; omega) (by unfold maxLen; have := HLT.out; omega))).mono ?_; rintro e w3 ⟨v3, rfl, ho3, b3⟩; obtain ⟨A3, c3, rfl, ho3⟩ := OwnI.eta ho3; have B3 : Below wr.heap.size wr w3 := (by first | exact b3 | exact (Below.drew (Below.refl _ _)).trans b3)) | (refine step_appI rfl (.tmp 16) (.tmp 25) 46 rfl Try.underlying46 Try.infoI2 (w.heap.size + 1) (.slice A5 q c5) _ rfl (HOW.out.below (B3.trans ((Gr.alloc (Gr.refl w3) _).below.mono B3.size)) (Nat.le_refl _)) ⟨w3.heap.size, 0, none⟩ 1 1 [((pall k p (cs.take q)).length : Int)] rfl rfl (ics1 (by simp [go_sem])) (by have := Q6.out; have := HLT.out; rw [EL.out]; omega) (by simp) (by have := B3.size; have := hzr.out; simp; omega) ?_; intro v4 w4 ho4 hb4 hg4)))
          have B4 := Lib.hid ((B3.mono hzr.out).trans (((Gr.alloc (Gr.refl w3) (.cells #[.int .i64 ((pall k p (cs.take q)).length : Int)] 3)).below.mono (by have := B3.size; have := hzr.out; omega)).trans hb4))
          have HO4 := Lib.hid ho4
          clear ho3 ho4 b3 hb4 hg4 B3
          go_wp2
          go_roundw
          case rel => exact ⟨q + 1, by have := HLT.out; omega, by go_num, by rw [HSU.out]; exact HO4.out, HBL.out.trans B4.out⟩
          case measure => simp [intOf]; have := HLT.out; omega
        · obtain rfl : q = cs.length + 1 := by (try simp only [List.length_nil] at *); omega
          have z4 : ¬ (cs.length : Int) + 1 ≤ (cs.length : Int) := by omega
          go_wp2
          go_ret2
          exact ⟨_, rfl, HOW.out.mono (by omega), BW.out.trans (HBL.out.mono (by omega))⟩
set_option maxRecDepth 100000 in
set_option maxHeartbeats 3200000 in
theorem Try.iLeftByClues (w : World) (k p : Int) (B : Nat) (v : Value) (cs : List Clu) (b : Bool) (hb : pgood k p cs = b) (hl : cs.length ≤ 1048576) (ho : OwnC w B v cs) :
    Calls Try.prog 51 #[pzV k p v] w fun e w' => ∃ v', e = .returned (.tuple #[v', .bool b]) ∧ OwnI w' w.heap.size v' (lef k p cs) ∧ Below w.heap.size w w' := by
  have mixed : Try.prog.follows .mixedOrders = true := by kernel_rfl
  have h := OwnC.row ho (by unfold maxLen; omega)
  have PG := Lib.hid (fun (W : World) (g : Gr w W) => Try.iIsPuzzle W k p v cs _ hb (h.gr g))
  cases b
  · rw [show lef k p cs = [] by simp [lef, hb]]
    obtain ⟨A, c, rfl, hlc, hm, h⟩ := h
    clear hb h ho
    go_enter Try.func51, Try.ntmps51
    go_wp2_with (first | (go_at_call 25; refine (PG.out _ (by repeat (first | exact Gr.refl _ | refine Gr.alloc ?_ _ | refine Gr.trans ?_ (by assumption) | refine Gr.drew ?_ | refine Gr.drewN ?_ _ | refine Gr.grow ?_ _ | refine Gr.setCell ?_ (by (try simp); (try omega)) _))).mono ?_; rintro e w1 ⟨rfl, hbW⟩; have hcW := (bcell hbW.below).1; have hfW := (bcell hbW.below).2; (try have hzW : w.heap.size < w1.heap.size := by have hq := hbW.below.size; (try simp at hq); omega); (try have hyW : w.heap.size + 1 < w1.heap.size := by have hq := hbW.below.size; (try simp at hq); omega); (try have hxW : w.heap.size + 2 < w1.heap.size := by have hq := hbW.below.size; (try simp at hq); omega)))
    go_ret2
    exact ⟨_, rfl, OwnI.nil2 _ _, Gr.below (by repeat (first | exact Gr.refl _ | refine Gr.alloc ?_ _ | refine Gr.trans ?_ (by assumption) | refine Gr.drew ?_ | refine Gr.drewN ?_ _ | refine Gr.grow ?_ _ | refine Gr.setCell ?_ (by (try simp); (try omega)) _))⟩
  · rw [show lef k p cs = lefT k p cs (cs.length + 1) by simp [lef, hb]]
    obtain ⟨q1, q2, q3⟩ := pgood_lt hb
    have Q6 := Lib.hid q2
    have ES := Lib.hid (lefT_succ k p cs)
    have EL := Lib.hid (lefT_len k p cs)
    have AL := Lib.hid (fun (W : World) (u : Value) (q : Nat) (hr : CluRow W u (cs.take q)) => Try.leftBy W k p u (cs.take q) q1 (take_all q3 q) hr)
    obtain ⟨A, c, hv, hlc, hcm, SUB⟩ : ∃ A c, v = .slice A cs.length c ∧ cs.length ≤ c ∧ c ≤ maxLen ∧ ((A = none ∧ c = 0 ∧ cs = []) ∨ ∃ g, A = some ⟨g, 0, none⟩ ∧ ∀ W, Below w.heap.size w W → ∀ q c', q ≤ cs.length → q ≤ c' → c' ≤ maxLen → CluRow W (.slice (some ⟨g, 0, none⟩) q c') (cs.take q)) := by
      rcases ho.2 with ⟨rfl, hn⟩ | ⟨g, cap, cur, rfl, _, hg, hcl, hcm, _, _⟩
      · have : cs = [] := List.length_eq_zero_iff.1 hn
        subst this
        exact ⟨none, 0, rfl, Nat.le_refl _, Nat.zero_le _, .inl ⟨rfl, rfl, rfl⟩⟩
      · refine ⟨_, cap, rfl, hcl, hcm, .inr ⟨g, rfl, fun W hW q c' hq hq' hcm' => ?_⟩⟩
        obtain ⟨A', c2, e1, _, _, hcc⟩ := h.below hW
        simp only [Value.slice.injEq] at e1
        obtain ⟨rfl, _, rfl⟩ := e1
        rcases hcc with e | ⟨g', o', e, hcc⟩
        · subst e
          simp at hq
          subst hq
          exact ⟨_, c', rfl, Nat.zero_le _, hcm', .inl rfl⟩
        · simp only [Option.some.injEq, Addr.mk.injEq] at e
          obtain ⟨rfl, rfl, _⟩ := e
          have := CluRow.sub hcc 0 q c' (by omega) hq' hcm'
          simpa using this
    subst hv
    unfold maxLen at hcm
    clear hb h ho q1 q2 q3
    rcases SUB with ⟨rfl, rfl, rfl⟩ | ⟨g, rfl, SUB⟩
    · go_enter Try.func51, Try.ntmps51
      go_wp2_with (first | (go_at_call 25; refine (PG.out _ (by repeat (first | exact Gr.refl _ | refine Gr.alloc ?_ _ | refine Gr.trans ?_ (by assumption) | refine Gr.drew ?_ | refine Gr.drewN ?_ _ | refine Gr.grow ?_ _ | refine Gr.setCell ?_ (by (try simp); (try omega)) _))).mono ?_; rintro e W1 ⟨rfl, hbW⟩; have BW := Lib.hid ((Gr.alloc (Gr.refl w) _).trans hbW).below; have d0 : W1.cell? ⟨w.heap.size, 0, none⟩ = some (.int .i64 k) := hbW.keep0 (by simp [go_sem]); have d1 : W1.cell? ⟨w.heap.size, 1, none⟩ = some (.int .i64 p) := hbW.keep0 (by simp [go_sem]); have d2 : W1.cell? ⟨w.heap.size, 2, none⟩ = some (.slice none 0 0) := hbW.keep0 (by simp [go_sem]); clear hbW))
      have D := Lib.hid (And.intro d0 (And.intro d1 d2))
      have ZW := Lib.hid (show w.heap.size + 1 ≤ W1.heap.size from World.block_lt_of_cell? _ _ d0)
      clear d0 d1 d2
      go_loopw [4, 13] (fun s i wr => VRelZ k p [] w W1 s i wr) (fun _ i _ => (0 + 1 - intOf i).toNat)
      case atStart => exact ⟨0, Nat.zero_le _, rfl, OwnI.nil2 _ _, Below.refl _ _⟩
      case round =>
        obtain ⟨q, hk, rfl, ho, hbl⟩ := hrel
        obtain ⟨A5, c5, rfl, ho⟩ := OwnI.eta ho
        have hlq := EL.out q
        rw [hlq] at ho ⊢
        have szr := hbl.size
        have p0 : wr.cell? ⟨w.heap.size, 0, none⟩ = some (.int .i64 k) := (hbl.cell (by show w.heap.size < _; omega)).trans D.out.1
        have p1 : wr.cell? ⟨w.heap.size, 1, none⟩ = some (.int .i64 p) := (hbl.cell (by show w.heap.size < _; omega)).trans D.out.2.1
        have p2 : wr.cell? ⟨w.heap.size, 2, none⟩ = some (.slice none 0 0) := (hbl.cell (by show w.heap.size < _; omega)).trans D.out.2.2
        have BB := Lib.hid (BW.out.trans (hbl.mono (Nat.le_succ _)))
        have HOW := Lib.hid ho
        have HBL := Lib.hid hbl
        have PP := Lib.hid (And.intro p0 (And.intro p1 p2))
        have hzr := Lib.hid (show w.heap.size + 1 ≤ wr.heap.size by have := ZW.out; omega)
        clear ho hbl
        by_cases hlt : q ≤ 0
        · have z0 : (0 : Int) ≤ (q : Int) := by omega
          obtain rfl : q = 0 := by omega
          have HSU := Lib.hid (ES.out 0)
          have HLT := Lib.hid hlt
          clear hlt
          go_wp2
          go_region_held3 (fun W' => W'.cell? ⟨w.heap.size, 0, none⟩ = some (.int .i64 k) ∧ W'.cell? ⟨w.heap.size, 1, none⟩ = some (.int .i64 p) ∧ W'.cell? ⟨w.heap.size, 2, none⟩ = some (.slice none 0 0))
            (first | exact ⟨p0, p1, p2⟩ | exact keep3 (Below.drew (Below.refl _ _)) PP.out | exact keep3 b3 (by assumption) | exact keep3 (Gr.below (Gr.alloc (Gr.refl _) _)) (by assumption) | exact keep3 (Gr.below (Gr.alloc (Gr.refl _) _)) (keep3 b3 PP.out) | exact keep3 (Gr.below (Gr.alloc (Gr.refl _) _)) (keep3 b3 (keep3 (Below.drew (Below.refl _ _)) PP.out)) | exact keep3B hb4 (Nat.lt_succ_self _) (Nat.lt_succ_self _) (Nat.lt_succ_self _) (by assumption) | exact keep3B hb4 (Nat.lt_succ_self _) (Nat.lt_succ_self _) (Nat.lt_succ_self _) (keep3 (Gr.below (Gr.alloc (Gr.refl _) _)) (keep3 b3 PP.out)) | exact keep3 (Below.drew (Below.refl _ _)) (by assumption))
            ((first | (go_at_call 72; refine (AL.out _ _ 0 (⟨none, 0, rfl, Nat.le_refl _, Nat.zero_le _, .inl rfl⟩)).mono ?_; rintro e w3 ⟨v3, rfl, ho3, b3⟩; obtain ⟨A3, c3, rfl, ho3⟩ := OwnI.eta ho3; have B3 : Below wr.heap.size wr w3 := (by first | exact b3 | exact (Below.drew (Below.refl _ _)).trans b3)) | (refine step_appI rfl (.tmp 16) (.tmp 26) 46 rfl Try.underlying46 Try.infoI2 (w.heap.size + 1) (.slice A5 0 c5) _ rfl (HOW.out.below (B3.trans ((Gr.alloc (Gr.refl w3) _).below.mono B3.size)) (Nat.le_refl _)) ⟨w3.heap.size, 0, none⟩ 1 1 [((pall k p ([].take 0)).length : Int)] rfl rfl (ics1 (by simp [go_sem])) (by simp [lefT]) (by simp) (by have := B3.size; have := hzr.out; simp; omega) ?_; intro v4 w4 ho4 hb4 hg4)))
          have B4 := Lib.hid ((B3.mono hzr.out).trans (((Gr.alloc (Gr.refl w3) (.cells #[.int .i64 ((pall k p ([].take 0)).length : Int)] 3)).below.mono (by have := B3.size; have := hzr.out; omega)).trans hb4))
          have HO4 := Lib.hid ho4
          clear ho3 ho4 b3 hb4 hg4 B3
          go_wp2
          go_roundw
          case rel => exact ⟨0 + 1, by have := HLT.out; omega, by go_num, by rw [HSU.out]; exact HO4.out, HBL.out.trans B4.out⟩
          case measure => simp [intOf]
        · obtain rfl : q = 0 + 1 := by (try simp only [List.length_nil] at *); omega
          skip
          go_wp2
          go_ret2
          exact ⟨_, rfl, HOW.out.mono (by omega), BW.out.trans (HBL.out.mono (by omega))⟩
    · have S0 := Lib.hid SUB
      have zc : (cs.length : Int) ≤ (c : Int) := by omega
      have zc6 : cs.length ≤ 6 := Q6.out
      clear SUB
      go_enter Try.func51, Try.ntmps51
      go_wp2_with (first | (go_at_call 25; refine (PG.out _ (by repeat (first | exact Gr.refl _ | refine Gr.alloc ?_ _ | refine Gr.trans ?_ (by assumption) | refine Gr.drew ?_ | refine Gr.drewN ?_ _ | refine Gr.grow ?_ _ | refine Gr.setCell ?_ (by (try simp); (try omega)) _))).mono ?_; rintro e W1 ⟨rfl, hbW⟩; have BW := Lib.hid ((Gr.alloc (Gr.refl w) _).trans hbW).below; have d0 : W1.cell? ⟨w.heap.size, 0, none⟩ = some (.int .i64 k) := hbW.keep0 (by simp [go_sem]); have d1 : W1.cell? ⟨w.heap.size, 1, none⟩ = some (.int .i64 p) := hbW.keep0 (by simp [go_sem]); have d2 : W1.cell? ⟨w.heap.size, 2, none⟩ = some (.slice (some ⟨g, 0, none⟩) cs.length c) := hbW.keep0 (by simp [go_sem]); clear hbW))
      have D := Lib.hid (And.intro d0 (And.intro d1 d2))
      have ZW := Lib.hid (show w.heap.size + 1 ≤ W1.heap.size from World.block_lt_of_cell? _ _ d0)
      clear d0 d1 d2
      go_loopw [4, 13] (fun s i wr => VRelZ k p cs w W1 s i wr) (fun _ i _ => (cs.length + 1 - intOf i).toNat)
      case atStart => exact ⟨0, Nat.zero_le _, rfl, OwnI.nil2 _ _, Below.refl _ _⟩
      case round =>
        obtain ⟨q, hk, rfl, ho, hbl⟩ := hrel
        obtain ⟨A5, c5, rfl, ho⟩ := OwnI.eta ho
        have hlq := EL.out q
        rw [hlq] at ho ⊢
        have szr := hbl.size
        have p0 : wr.cell? ⟨w.heap.size, 0, none⟩ = some (.int .i64 k) := (hbl.cell (by show w.heap.size < _; omega)).trans D.out.1
        have p1 : wr.cell? ⟨w.heap.size, 1, none⟩ = some (.int .i64 p) := (hbl.cell (by show w.heap.size < _; omega)).trans D.out.2.1
        have p2 : wr.cell? ⟨w.heap.size, 2, none⟩ = some (.slice (some ⟨g, 0, none⟩) cs.length c) := (hbl.cell (by show w.heap.size < _; omega)).trans D.out.2.2
        have BB := Lib.hid (BW.out.trans (hbl.mono (Nat.le_succ _)))
        have HOW := Lib.hid ho
        have HBL := Lib.hid hbl
        have PP := Lib.hid (And.intro p0 (And.intro p1 p2))
        have hzr := Lib.hid (show w.heap.size + 1 ≤ wr.heap.size by have := ZW.out; omega)
        clear ho hbl
        by_cases hlt : q ≤ cs.length
        · have z0 : (0 : Int) ≤ (q : Int) := by omega
          have z1 : (q : Int) ≤ (cs.length : Int) := by omega
          have z2 : (q : Int) ≤ (c : Int) := by omega
          have z3 : (q : Int) < (cs.length : Int) + 1 := by omega
          have HSU := Lib.hid (ES.out q)
          have HLT := Lib.hid hlt
          clear hlt
          go_wp2
          go_region_held3 (fun W' => W'.cell? ⟨w.heap.size, 0, none⟩ = some (.int .i64 k) ∧ W'.cell? ⟨w.heap.size, 1, none⟩ = some (.int .i64 p) ∧ W'.cell? ⟨w.heap.size, 2, none⟩ = some (.slice (some ⟨g, 0, none⟩) cs.length c))
            (first | exact ⟨p0, p1, p2⟩ | exact keep3 (Below.drew (Below.refl _ _)) PP.out | exact keep3 b3 (by assumption) | exact keep3 (Gr.below (Gr.alloc (Gr.refl _) _)) (by assumption) | exact keep3 (Gr.below (Gr.alloc (Gr.refl _) _)) (keep3 b3 PP.out) | exact keep3 (Gr.below (Gr.alloc (Gr.refl _) _)) (keep3 b3 (keep3 (Below.drew (Below.refl _ _)) PP.out)) | exact keep3B hb4 (Nat.lt_succ_self _) (Nat.lt_succ_self _) (Nat.lt_succ_self _) (by assumption) | exact keep3B hb4 (Nat.lt_succ_self _) (Nat.lt_succ_self _) (Nat.lt_succ_self _) (keep3 (Gr.below (Gr.alloc (Gr.refl _) _)) (keep3 b3 PP.out)) | exact keep3 (Below.drew (Below.refl _ _)) (by assumption))
            ((first | (go_at_call 72; refine (AL.out _ _ q (S0.out _ (BB.out.trans (by first | exact (Below.refl _ _) | exact (Gr.drew (Gr.refl _)).below.mono BB.out.size)) q q HLT.out (by have := HLT.out; omega) (by unfold maxLen; have := HLT.out; omega))).mono ?_; rintro e w3 ⟨v3, rfl, ho3, b3⟩; obtain ⟨A3, c3, rfl, ho3⟩ := OwnI.eta ho3; have B3 : Below wr.heap.size wr w3 := (by first | exact b3 | exact (Below.drew (Below.refl _ _)).trans b3)) | (refine step_appI rfl (.tmp 16) (.tmp 26) 46 rfl Try.underlying46 Try.infoI2 (w.heap.size + 1) (.slice A5 q c5) _ rfl (HOW.out.below (B3.trans ((Gr.alloc (Gr.refl w3) _).below.mono B3.size)) (Nat.le_refl _)) ⟨w3.heap.size, 0, none⟩ 1 1 [((pall k p (cs.take q)).length : Int)] rfl rfl (ics1 (by simp [go_sem])) (by have := Q6.out; have := HLT.out; rw [EL.out]; omega) (by simp) (by have := B3.size; have := hzr.out; simp; omega) ?_; intro v4 w4 ho4 hb4 hg4)))
          have B4 := Lib.hid ((B3.mono hzr.out).trans (((Gr.alloc (Gr.refl w3) (.cells #[.int .i64 ((pall k p (cs.take q)).length : Int)] 3)).below.mono (by have := B3.size; have := hzr.out; omega)).trans hb4))
          have HO4 := Lib.hid ho4
          clear ho3 ho4 b3 hb4 hg4 B3
          go_wp2
          go_roundw
          case rel => exact ⟨q + 1, by have := HLT.out; omega, by go_num, by rw [HSU.out]; exact HO4.out, HBL.out.trans B4.out⟩
          case measure => simp [intOf]; have := HLT.out; omega
        · obtain rfl : q = cs.length + 1 := by (try simp only [List.length_nil] at *); omega
          have z4 : ¬ (cs.length : Int) + 1 ≤ (cs.length : Int) := by omega
          go_wp2
          go_ret2
          exact ⟨_, rfl, HOW.out.mono (by omega), BW.out.trans (HBL.out.mono (by omega))⟩
end Go.Proofs
