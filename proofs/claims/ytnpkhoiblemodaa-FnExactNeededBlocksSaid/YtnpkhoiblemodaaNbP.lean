/-
  Chapter 4: the blocks that each way needs, the program's.
-/
import Derived.Test.YtnpkhoiblemodaaNbS
import Derived.Test.YtnpkhoiblemodaaSrB
import Derived.Test.YtnpkhoiblemodaaAvV
import Derived.Test.YtnpkhoiblemodaaRbZ
import Derived.Deep.DeepCutAuto
namespace Go.Proofs
open Go.RowKit Av Gm Go.Maps
set_option linter.unusedVariables false
set_option linter.unusedSimpArgs false
theorem cell_gb {w w' : World} {row : Option Nat} (d : w.grownBy w' row) {b o : Nat} {v : Value} (h : w.cell? ⟨b, o, none⟩ = some v) (hne : some b ≠ row) : w'.cell? ⟨b, o, none⟩ = some v := d.cell h hne
theorem q4 {w w' : World} {a b c d : Addr} {x y z u : Value} (h : (w.cell? a = some x ∧ w.cell? b = some y) ∧ w.cell? c = some z ∧ w.cell? d = some u) (g : Below w.heap.size w w') : w'.cell? a = some x ∧ w'.cell? b = some y ∧ w'.cell? c = some z ∧ w'.cell? d = some u :=
  ⟨cell_k2 g h.1.1, cell_k2 g h.1.2, cell_k2 g h.2.1, cell_k2 g h.2.2⟩
/-- two cells of a box -/
def Tw (w : World) (n : Nat) (a b : Value) : Prop := w.cell? ⟨n, 0, none⟩ = some a ∧ w.cell? ⟨n, 1, none⟩ = some b
theorem Tw.bel {w w' : World} {n m : Nat} {a b : Value} (h : Tw w n a b) (g : Below m w w') (hn : n < m) : Tw w' n a b := ⟨(g.cell (p := ⟨n, 0, none⟩) hn).trans h.1, (g.cell (p := ⟨n, 1, none⟩) hn).trans h.2⟩
theorem Tw.gr {w w' : World} {n : Nat} {a b : Value} (h : Tw w n a b) (g : Gr w w') : Tw w' n a b := ⟨g.keep0 h.1, g.keep0 h.2⟩
theorem Tw.lt {w : World} {n : Nat} {a b : Value} (h : Tw w n a b) : n < w.heap.size := World.block_lt_of_cell? _ _ h.1
theorem Bx.gr {w w' : World} {n : Nat} {a b c : Value} (h : Bx w n a b c) (g : Gr w w') : Bx w' n a b c := h.bel g.below h.lt
theorem s10 {w w' : World} {a0 a1 a2 b0 b1 b2 c0 c1 d0 d1 : Addr} {x0 x1 x2 y0 y1 y2 z0 z1 u0 u1 : Value}
    (h : w.cell? a0 = some x0 ∧ w.cell? a1 = some x1 ∧ w.cell? a2 = some x2 ∧ w.cell? b0 = some y0 ∧ w.cell? b1 = some y1 ∧ w.cell? b2 = some y2 ∧ w.cell? c0 = some z0 ∧ w.cell? c1 = some z1 ∧ w.cell? d0 = some u0 ∧ w.cell? d1 = some u1) (g : Below w.heap.size w w') :
    w'.cell? a0 = some x0 ∧ w'.cell? a1 = some x1 ∧ w'.cell? a2 = some x2 ∧ w'.cell? b0 = some y0 ∧ w'.cell? b1 = some y1 ∧ w'.cell? b2 = some y2 ∧ w'.cell? c0 = some z0 ∧ w'.cell? c1 = some z1 ∧ w'.cell? d0 = some u0 ∧ w'.cell? d1 = some u1 :=
  ⟨cell_k2 g h.1, cell_k2 g h.2.1, cell_k2 g h.2.2.1, cell_k2 g h.2.2.2.1, cell_k2 g h.2.2.2.2.1, cell_k2 g h.2.2.2.2.2.1, cell_k2 g h.2.2.2.2.2.2.1, cell_k2 g h.2.2.2.2.2.2.2.1, cell_k2 g h.2.2.2.2.2.2.2.2.1, cell_k2 g h.2.2.2.2.2.2.2.2.2⟩
theorem way_list {Wn Hn : Nat} {ps : List Blk} {s0 t0 : Nat} (hs : s0 < Wn * Hn) (ht : t0 < Wn * Hn) : ∀ k : Nat, (k : Int) ≤ fT Wn Hn ps t0 s0 → (stW (nbC Wn Hn ps) (fT Wn Hn ps t0) s0 k).2 = (List.range k).map (jsW Wn Hn ps s0 t0) := by
  intro k
  induction k with
  | zero => intro _; rfl
  | succ k ih =>
    intro h
    rw [(way_step hs ht k (by omega)).2.2, ih (by omega), List.range_succ, List.map_append]
    rfl
theorem nbL_len (W H : Int) (ps : List Blk) (xs ys : List Int) : (nbL W H ps xs ys).length ≤ 128 := by
  unfold nbL
  cases hb : cdB W H ps xs ys
  · simp
  · rw [if_pos rfl]
    unfold cdB at hb
    simp only [Bool.and_eq_true, decide_eq_true_eq] at hb
    obtain ⟨o1, o2, o3, o4, _⟩ := of_decide_eq_true hb.1.1.1
    have h7 : W.toNat * H.toNat ≤ 64 := Nat.mul_le_mul (show W.toNat ≤ 8 by omega) (show H.toNat ≤ 8 by omega)
    have := nTo_len (Wn := W.toNat) (Hn := H.toNat) (ps := ps) (s0 := (xs.getD 0 0 * H + xs.getD 1 0).toNat) (t0 := (ys.getD 0 0 * H + ys.getD 1 0).toNat) (2 * (W.toNat * H.toNat))
    omega
theorem sgU_sgn {j : Nat} (h : j < 4) : (((sgU j).toNat : Nat) : Int) = sgn j ∧ (sgU j).toNat < 128 := by
  have : j = 0 ∨ j = 1 ∨ j = 2 ∨ j = 3 := by omega
  rcases this with rfl | rfl | rfl | rfl <;> decide
theorem ws_at (l : List Nat) (i : Nat) (h : i < (wsB l).size) : (wsB l)[i] = sgU (l.getD i 0) := by
  have hi : i < l.length := by rw [wsB_size] at h; exact h
  unfold wsB
  show ((l.map sgU).toArray)[i]'(by simpa using hi) = _
  simp [List.getD, hi]
set_option maxRecDepth 100000 in
set_option maxHeartbeats 3200000 in
theorem Try.iNeededBlocks (w : World) (W H : Int) (B : Nat) (a : Value) (ps : List Blk) (Ba : Nat) (la : Value) (xs : List Int) (Bb : Nat) (lb : Value) (ys : List Int) (v : List Blk) (b : Bool) (hv : nbL W H ps xs ys = v) (hb : cdB W H ps xs ys = b) (hl : ps.length ≤ 1048576) (h : OwnB w B a ps) (hla : OwnI w Ba la xs) (hlb : OwnI w Bb lb ys) :
    Calls Try.prog 19 #[.agg #[.int .i64 W, .int .i64 H, a], la, lb] w (RetJ w v b) := by
  have mixed : Try.prog.follows .mixedOrders = true := by kernel_rfl
  subst hv
  obtain ⟨A, c, rfl, h⟩ := OwnE.eta h
  have HFW := Lib.hid (fun (X : World) (g : Gr w X) => Try.iFirstShortestWay X W H B _ ps Ba la xs Bb lb ys _ b rfl hb hl (h.gr g) (hla.gr g) (hlb.gr g))
  cases b
  · have e2 : nbL W H ps xs ys = [] := by unfold nbL; rw [hb]; rfl
    rw [e2]
    generalize fwV W H ps xs ys = word at *
    clear h hla hlb hb e2
    go_enter Try.func19, Try.ntmps19
    go_wp2_with (first | (go_at_call 41; refine (HFW.out _ (by repeat (first | exact Gr.refl _ | refine Gr.alloc ?_ _ | refine Gr.trans ?_ (by assumption) | refine Gr.drew ?_ | refine Gr.drewN ?_ _ | refine Gr.grow ?_ _ | refine Gr.setCell ?_ (by (try simp); (try omega)) _))).mono ?_; rintro e w1 ⟨rfl, hb1⟩))
    go_ret2
    exact ⟨_, rfl, OwnE.nil _ _ _ _ _, Below.trans (show Below w.heap.size w _ from Gr.below (by repeat (first | exact Gr.refl _ | refine Gr.alloc ?_ _ | refine Gr.trans ?_ (by assumption) | refine Gr.drew ?_ | refine Gr.drewN ?_ _ | refine Gr.grow ?_ _ | refine Gr.setCell ?_ (by (try simp); (try omega)) _))) (hb1.mono (Gr.below (show Gr w _ from (by repeat (first | exact Gr.refl _ | refine Gr.alloc ?_ _ | refine Gr.trans ?_ (by assumption) | refine Gr.drew ?_ | refine Gr.drewN ?_ _ | refine Gr.grow ?_ _ | refine Gr.setCell ?_ (by (try simp); (try omega)) _)))).size)⟩
  · have hb' := hb
    unfold cdB at hb'
    simp only [Bool.and_eq_true, decide_eq_true_eq] at hb'
    obtain ⟨⟨⟨h1, h2⟩, h3⟩, h4⟩ := hb'
    obtain ⟨o1, o2, o3, o4, o5, _, o7⟩ := of_decide_eq_true h1
    obtain ⟨p1, p2⟩ := isC_vtx h2 ⟨o1, o2⟩ ⟨o3, o4⟩
    obtain ⟨r1, r2⟩ := isC_vtx h3 ⟨o1, o2⟩ ⟨o3, o4⟩
    have hd : cdI W H ps xs ys = dst W.toNat H.toNat ps (xs.getD 0 0 * H + xs.getD 1 0).toNat (ys.getD 0 0 * H + ys.getD 1 0).toNat := rfl
    have e2 : fwV W H ps xs ys = fwW W H ps xs ys := by unfold fwV; rw [hb]; rfl
    rw [e2] at HFW
    unfold fwW at HFW
    unfold nbL
    rw [hb, if_pos rfl]
    rw [hd] at h4 HFW
    generalize (xs.getD 0 0 * H + xs.getD 1 0).toNat = s0 at *
    generalize (ys.getD 0 0 * H + ys.getD 1 0).toNat = t0 at *
    obtain ⟨Wn, rfl⟩ : ∃ Wn : Nat, W = Wn := ⟨W.toNat, by omega⟩
    obtain ⟨Hn, rfl⟩ : ∃ Hn : Nat, H = Hn := ⟨H.toNat, by omega⟩
    simp only [Int.toNat_natCast] at *
    subst p2 r2
    have hsym : dst Wn Hn ps s0 t0 = fT Wn Hn ps t0 s0 := by rw [dst_sym p1 r1]; rfl
    rw [hsym] at h4 HFW
    change Hid (∀ (X : World), Gr w X → Calls Try.prog 41 _ X fun e w' => e = .returned (.tuple #[.string (wsB (stW (nbC Wn Hn ps) (fT Wn Hn ps t0) s0 (fT Wn Hn ps t0 s0).toNat).2), .bool true]) ∧ Below X.heap.size X w') at HFW
    rw [way_list p1 r1 _ (by omega)] at HFW
    rw [← needed p1 r1 h4]
    have hdN : (fT Wn Hn ps t0 s0).toNat ≤ 64 := by
      have h6 := (dst_bd (ps := ps) p1 r1).2
      have h7 : Wn * Hn ≤ 64 := Nat.mul_le_mul (show Wn ≤ 8 by omega) (show Hn ≤ 8 by omega)
      rw [hsym] at h6
      have h8 : (Wn : Int) * Hn = ((Wn * Hn : Nat) : Int) := by push_cast; rfl
      omega
    have HWS := Lib.hid (fun (i : Nat) (hi : i < (fT Wn Hn ps t0 s0).toNat) => way_step (ps := ps) p1 r1 i (by omega))
    have HWI := Lib.hid (fun (i : Nat) (hi : i ≤ (fT Wn Hn ps t0 s0).toNat) => (way_inv (ps := ps) p1 r1 i (by omega)).1)
    obtain ⟨d, hdd⟩ : ∃ d, (fT Wn Hn ps t0 s0).toNat = d := ⟨_, rfl⟩
    rw [hdd] at HFW hdN HWS HWI ⊢
    have HCL := Lib.hid (fun (X : World) (g : Below w.heap.size w X) (x y : Int) (u : Bool) => Try.closing X Wn Hn B _ ps x y u o7 (by omega) (OwnE.below h g (Nat.le_refl _)))
    have HRF := Lib.hid (fun (X : World) (v : Value) (B' : Nat) (b : Blk) (hu : Up (ins ps b)) (ho : OwnB X B' v (ins ps b)) => Try.reachedFrom X Wn Hn B' v (ins ps b) s0 (by omega) (by omega) hu p1 (by rw [ins_len]; omega) ho)
    have HLK := Lib.hid (fun (X : World) (b : Blk) bm n D (hown : X.ownsMap Try.prog 66 rElem bm n D) (hM : MapIs Hn (Wn * Hn) D (fin (nbC Wn Hn (ins ps b)) (Wn * Hn) s0)) (W' : World) (g : Gr X W') => Try.lookOk (w := X) (Wn := Wn) (by omega) (by omega) hown hM r1 W' g)
    have HST := Lib.hid (fun (X : World) (g : Below w.heap.size w X) (u j : Nat) (hj : j < 4) (hu : onC Wn Hn (((u / Hn : Nat) : Int), ((u % Hn : Nat) : Int))) => Try.iStep X Wn Hn B _ ps _ _ j hj (by omega) (by omega) o7 hu hl (OwnE.below h g (Nat.le_refl _)))
    have HON := Lib.hid (fun (u : Nat) hu => @on_idx Wn Hn u hu)
    have HUP := Lib.hid (fun (b : Blk) (hn : b ∉ ps) => ins_up o7 b hn)
    have HBI := Lib.hid (fun (i : Nat) (hi : i < d) => bs_is (ps := ps) p1 r1 (i := i) (by omega))
    rcases hla.view with ⟨hx, _⟩ | ⟨_, ga, ca, rfl, _, ga2, _, _, _⟩
    · cases hx
    rcases hlb.view with ⟨hx, _⟩ | ⟨_, gb, cb, rfl, _, gb2, _, _, _⟩
    · cases hx
    obtain ⟨l0, _⟩ := hla.at rfl 0 (by simp)
    obtain ⟨l1, _⟩ := hla.at rfl 1 (by simp)
    obtain ⟨m0, _⟩ := hlb.at rfl 0 (by simp)
    obtain ⟨m1, _⟩ := hlb.at rfl 1 (by simp)
    simp only [List.getD_cons_zero, List.getD_cons_succ, List.length_cons, List.length_nil, Nat.zero_add, Nat.reduceAdd] at l0 l1 m0 m1 HFW ⊢
    have HLM := Lib.hid (And.intro (And.intro l0 l1) (And.intro m0 m1))
    have hws : (wsB ((List.range d).map (jsW Wn Hn ps s0 t0))).size = d := by rw [wsB_size]; simp
    have HAT := Lib.hid (fun (i : Nat) (hi : i < (wsB ((List.range d).map (jsW Wn Hn ps s0 t0))).size) => ws_at ((List.range d).map (jsW Wn Hn ps s0 t0)) i hi)
    have HGD := Lib.hid (fun (i : Nat) (hi : i < d) => show ((List.range d).map (jsW Wn Hn ps s0 t0)).getD i 0 = jsW Wn Hn ps s0 t0 i by simp [List.getD, hi])
    have HSR := Lib.hid (show ∀ i, (pTo Wn Hn ps s0 t0 i).length ≤ i from fun i => pTo_len i)
    have HSU := Lib.hid (fun i => pTo_succ (Wn := Wn) (Hn := Hn) (ps := ps) (s0 := s0) (t0 := t0) i)
    have HS0 := Lib.hid (show psW Wn Hn ps s0 t0 0 = s0 from rfl)
    generalize wsB ((List.range d).map (jsW Wn Hn ps s0 t0)) = word at *
    have HWZ := Lib.hid hws
    clear h hla hlb hb h1 h2 h3 h4 e2 hd hsym hdd l0 l1 m0 m1 hws
    go_enter Try.func19, Try.ntmps19
    go_upto_region 4 with (first | (go_at_call 41; refine (HFW.out _ (by repeat (first | exact Gr.refl _ | refine Gr.alloc ?_ _ | refine Gr.trans ?_ (by assumption) | refine Gr.drew ?_ | refine Gr.drewN ?_ _ | refine Gr.grow ?_ _ | refine Gr.setCell ?_ (by (try simp); (try omega)) _))).mono ?_; rintro e w1 ⟨rfl, hb1⟩))
    have BW := Lib.hid (show Below w.heap.size w w1 from Below.trans (show Below w.heap.size w _ from Gr.below (by repeat (first | exact Gr.refl _ | refine Gr.alloc ?_ _ | refine Gr.trans ?_ (by assumption) | refine Gr.drew ?_ | refine Gr.drewN ?_ _ | refine Gr.grow ?_ _ | refine Gr.setCell ?_ (by (try simp); (try omega)) _))) (hb1.mono (Gr.below (show Gr w _ from (by repeat (first | exact Gr.refl _ | refine Gr.alloc ?_ _ | refine Gr.trans ?_ (by assumption) | refine Gr.drew ?_ | refine Gr.drewN ?_ _ | refine Gr.grow ?_ _ | refine Gr.setCell ?_ (by (try simp); (try omega)) _)))).size))
    have KC := Lib.hid (show Bx w1 w.heap.size (.int .i64 Wn) (.int .i64 Hn) (.slice A ps.length c) from ⟨cell_k2 hb1 (by simp [go_sem]), cell_k2 hb1 (by simp [go_sem]), cell_k2 hb1 (by simp [go_sem]), fun o => ((bcell hb1).2 _ _ (by simp)).trans (by simp [go_sem])⟩)
    have LL := Lib.hid (show (w1.cell? ⟨ga, 0, none⟩ = some (.int .i64 (crn Hn s0).1) ∧ w1.cell? ⟨ga, 1, none⟩ = some (.int .i64 (crn Hn s0).2)) ∧ w1.cell? ⟨gb, 0, none⟩ = some (.int .i64 (crn Hn t0).1) ∧ w1.cell? ⟨gb, 1, none⟩ = some (.int .i64 (crn Hn t0).2) from ⟨⟨cell_k2 BW.out HLM.out.1.1, cell_k2 BW.out HLM.out.1.2⟩, cell_k2 BW.out HLM.out.2.1, cell_k2 BW.out HLM.out.2.2⟩)
    have hA1 := fun W => Try.arrAt ga ca W
    have hA2 := fun W => Try.arrAt gb cb W
    clear hb1
    refine wp_region_held_drew (S := fun W' => W'.cell? ⟨ga, 0, none⟩ = some (.int .i64 (crn Hn s0).1) ∧ W'.cell? ⟨ga, 1, none⟩ = some (.int .i64 (crn Hn s0).2) ∧ W'.cell? ⟨gb, 0, none⟩ = some (.int .i64 (crn Hn t0).1) ∧ W'.cell? ⟨gb, 1, none⟩ = some (.int .i64 (crn Hn t0).2)) (by kernel_rfl) (q4 LL.out (show Gr w1 _ from (by repeat (first | exact Gr.refl _ | refine Gr.alloc ?_ _ | refine Gr.trans ?_ (by assumption) | refine Gr.drew ?_ | refine Gr.drewN ?_ _ | refine Gr.grow ?_ _ | refine Gr.setCell ?_ (by (try simp); (try omega)) _))).below) (fun hHeld => ?_)
    (refine wpAnyH_take (i := 0) (v := ?_) (by simp only [List.getElem?_toArray, List.getElem?_cons_succ, List.getElem?_cons_zero]; exact rfl) (by kernel_rfl) (by kernel_rfl) (by kernel_rfl) (by intro _ _ _ h; exact h) (Or.inl ⟨by rfl, ?_⟩) (by assumption) ?_; rotate_left; (focus (intro w' hSw; (try dsimp only at hSw); go_simp; (try with_reducible rfl))); try simp only [Act.put, List.setIfInBounds_toArray, List.set_cons_zero, List.set_cons_succ])
    (refine wpAnyH_take (i := 1) (v := ?_) (by simp only [List.getElem?_toArray, List.getElem?_cons_succ, List.getElem?_cons_zero]; exact rfl) (by kernel_rfl) (by kernel_rfl) (by kernel_rfl) (by intro _ _ _ h; exact h) (Or.inl ⟨by rfl, ?_⟩) (by assumption) ?_; rotate_left; (focus (intro w' hSw; (try dsimp only at hSw); go_simp; (try with_reducible rfl))); try simp only [Act.put, List.setIfInBounds_toArray, List.set_cons_zero, List.set_cons_succ])
    (refine wpAnyH_take (i := 2) (v := ?_) (by simp only [List.getElem?_toArray, List.getElem?_cons_succ, List.getElem?_cons_zero]; exact rfl) (by kernel_rfl) (by kernel_rfl) (by kernel_rfl) (by intro _ _ _ h; exact h) (Or.inl ⟨by rfl, ?_⟩) (by assumption) ?_; rotate_left; (focus (intro w' hSw; (try dsimp only at hSw); go_simp; (try with_reducible rfl))); try simp only [Act.put, List.setIfInBounds_toArray, List.set_cons_zero, List.set_cons_succ])
    (refine wpAnyH_take (i := 3) (v := ?_) (by simp only [List.getElem?_toArray, List.getElem?_cons_succ, List.getElem?_cons_zero]; exact rfl) (by kernel_rfl) (by kernel_rfl) (by kernel_rfl) (by intro _ _ _ h; exact h) (Or.inl ⟨by rfl, ?_⟩) (by assumption) ?_; rotate_left; (focus (intro w' hSw; (try dsimp only at hSw); go_simp; (try with_reducible rfl))); try simp only [Act.put, List.setIfInBounds_toArray, List.set_cons_zero, List.set_cons_succ])
    (refine wpAnyH_take (i := 4) (v := ?_) (by simp only [List.getElem?_toArray, List.getElem?_cons_succ, List.getElem?_cons_zero]; exact rfl) (by kernel_rfl) (by kernel_rfl) (by kernel_rfl) (by intro _ _ _ h; exact h) (Or.inl ⟨by rfl, ?_⟩) (by assumption) ?_; rotate_left; (focus (intro w' hSw; (try dsimp only at hSw); go_simp; (try with_reducible rfl))); try simp only [Act.put, List.setIfInBounds_toArray, List.set_cons_zero, List.set_cons_succ])
    (refine wpAnyH_take (i := 5) (v := ?_) (by simp only [List.getElem?_toArray, List.getElem?_cons_succ, List.getElem?_cons_zero]; exact rfl) (by kernel_rfl) (by kernel_rfl) (by kernel_rfl) (by intro _ _ _ h; exact h) (Or.inl ⟨by rfl, ?_⟩) (by assumption) ?_; rotate_left; (focus (intro w' hSw; (try dsimp only at hSw); go_simp; (try with_reducible rfl))); try simp only [Act.put, List.setIfInBounds_toArray, List.set_cons_zero, List.set_cons_succ])
    refine wpAnyH_ready (rs := [6, 7]) (by kernel_rfl) (by simp) (AllReadyH.cons (by first | (simp only [List.getElem?_toArray, List.getElem?_cons_succ, List.getElem?_cons_zero]; exact rfl) | rfl) (fun K' hK => ?_) (AllReadyH.cons (by first | (simp only [List.getElem?_toArray, List.getElem?_cons_succ, List.getElem?_cons_zero]; exact rfl) | rfl) (fun K' hK => ?_) AllReadyH.nil))
    · go_simp
      (refine hK.out _ _ (q4 LL.out (show Gr w1 _ from (by repeat (first | exact Gr.refl _ | refine Gr.alloc ?_ _ | refine Gr.trans ?_ (by assumption) | refine Gr.drew ?_ | refine Gr.drewN ?_ _ | refine Gr.grow ?_ _ | refine Gr.setCell ?_ (by (try simp); (try omega)) _))).below) (fun hHeld => ?_); clear hK K'; try simp only [Act.put, List.setIfInBounds_toArray, List.set_cons_zero, List.set_cons_succ])
      refine wpAnyH_ready (rs := [7]) (by kernel_rfl) (by simp) (AllReadyH.cons (by first | (simp only [List.getElem?_toArray, List.getElem?_cons_succ, List.getElem?_cons_zero]; exact rfl) | rfl) (fun K' hK => ?_) AllReadyH.nil)
      go_simp
      (refine hK.out _ _ (q4 LL.out (show Gr w1 _ from (by repeat (first | exact Gr.refl _ | refine Gr.alloc ?_ _ | refine Gr.trans ?_ (by assumption) | refine Gr.drew ?_ | refine Gr.drewN ?_ _ | refine Gr.grow ?_ _ | refine Gr.setCell ?_ (by (try simp); (try omega)) _))).below) (fun hHeld => ?_); clear hK K'; try simp only [Act.put, List.setIfInBounds_toArray, List.set_cons_zero, List.set_cons_succ])
      refine wpAnyH_ready (rs := [8]) (by kernel_rfl) (by simp) (AllReadyH.cons (by first | (simp only [List.getElem?_toArray, List.getElem?_cons_succ, List.getElem?_cons_zero]; exact rfl) | rfl) (fun K' hK => ?_) AllReadyH.nil)
      go_simp
      (refine hK.out _ _ (q4 LL.out (show Gr w1 _ from (by repeat (first | exact Gr.refl _ | refine Gr.alloc ?_ _ | refine Gr.trans ?_ (by assumption) | refine Gr.drew ?_ | refine Gr.drewN ?_ _ | refine Gr.grow ?_ _ | refine Gr.setCell ?_ (by (try simp); (try omega)) _))).below) (fun hHeld => ?_); clear hK K'; try simp only [Act.put, List.setIfInBounds_toArray, List.set_cons_zero, List.set_cons_succ])
      refine wpAnyH_ready (rs := [9]) (by kernel_rfl) (by simp) (AllReadyH.cons (by first | (simp only [List.getElem?_toArray, List.getElem?_cons_succ, List.getElem?_cons_zero]; exact rfl) | rfl) (fun K' hK => ?_) AllReadyH.nil)
      go_simp
      (refine hK.out _ _ (q4 LL.out (show Gr w1 _ from (by repeat (first | exact Gr.refl _ | refine Gr.alloc ?_ _ | refine Gr.trans ?_ (by assumption) | refine Gr.drew ?_ | refine Gr.drewN ?_ _ | refine Gr.grow ?_ _ | refine Gr.setCell ?_ (by (try simp); (try omega)) _))).below) (fun hHeld => ?_); clear hK K'; try simp only [Act.put, List.setIfInBounds_toArray, List.set_cons_zero, List.set_cons_succ])
      refine wpAnyH_done (by kernel_rfl) ?_ _
      go_upto_region 5 with fail
      obtain ⟨V, hV⟩ : ∃ V, ((w1.alloc (.cells #[.int .i64 (crn Hn s0).1, .int .i64 (crn Hn s0).2] 66)).alloc (.cells #[.int .i64 (crn Hn t0).1, .int .i64 (crn Hn t0).2] 66)).drew = V := ⟨_, rfl⟩
      rw [hV]
      have gV : Gr w1 V := by rw [← hV]; exact Gr.drew (Gr.alloc (Gr.alloc (Gr.refl _) _) _)
      obtain ⟨fb, hfb⟩ : ∃ fb, w1.heap.size = fb := ⟨_, rfl⟩
      obtain ⟨tb, htb⟩ : ∃ tb, w1.heap.size + 1 = tb := ⟨_, rfl⟩
      have FB := Lib.hid (show Tw V fb (.int .i64 (crn Hn s0).1) (.int .i64 (crn Hn s0).2) from by rw [← hV, ← hfb]; exact ⟨by simp [go_sem], by simp [go_sem]⟩)
      have TB := Lib.hid (show Tw V tb (.int .i64 (crn Hn t0).1) (.int .i64 (crn Hn t0).2) from by rw [← hV, ← htb]; exact ⟨by simp [go_sem], by simp [go_sem]⟩)
      have CB := Lib.hid (KC.out.gr gV)
      have BV := Lib.hid (BW.out.trans (gV.below.mono BW.out.size))
      rw [htb, hfb]
      have hbV : Below w.heap.size w V := BV.out
      have kf0 := FB.out.1
      have kf1 := FB.out.2
      have zfV := FB.out.lt
      have ztV := TB.out.lt
      have zwV := CB.out.lt
      clear hV gV KC BW hfb htb hbV LL
      go_wp2_with fail
      obtain ⟨wo, hwo⟩ : ∃ wo, V.alloc (.cells #[.int .i64 (crn Hn s0).1, .int .i64 (crn Hn s0).2] 66) = wo := ⟨_, rfl⟩
      rw [hwo]
      have hws : wo.heap.size = V.heap.size + 1 := by rw [← hwo]; simp
      have gwo : Gr V wo := by rw [← hwo]; exact Gr.alloc (Gr.refl _) _
      have A0 : Tw wo V.heap.size (.int .i64 (crn Hn s0).1) (.int .i64 (crn Hn s0).2) := by rw [← hwo]; exact ⟨by simp [go_sem], by simp [go_sem]⟩
      have A0f : ∀ o, wo.frozen? ⟨V.heap.size, o, none⟩ = false := fun o => by rw [← hwo]; simp [go_sem]
      clear hwo
      generalize hab : V.heap.size = ab at *
      have GI : Gr wo (wo.iter word 0) := Gr.alloc (Gr.refl _) _
      have BI := Lib.hid (show Below ab V (wo.iter word 0) from by rw [← hab]; exact (gwo.trans GI).below)
      have hih : (wo.iter word 0).heap[ab + 1]? = some (.stringIter word 0) := by rw [← hws]; exact World.iter_heap wo word 0
      have A1 := A0.gr GI
      have A1f : ∀ o, (wo.iter word 0).frozen? ⟨ab, o, none⟩ = false := fun o => ((bcell GI.below).2 _ _ (by omega)).trans (A0f o)
      have HAB := Lib.hid hab
      clear hab gwo A0 A0f GI kf0 kf1
      go_loopg [12, 15, 16, 17, 18, 19, 20] d (fun gk nv _ _ _ _ _ _ wr => ∃ (i : Nat) (A4 : Option Addr) (n4 c4 : Nat), i + gk = d ∧ nv = .slice A4 n4 c4 ∧ OwnB wr (ab + 2) (.slice A4 n4 c4) (pTo Wn Hn ps s0 t0 i) ∧ wr.heap[ab + 1]? = some (.stringIter word i) ∧ Tw wr ab (.int .i64 (crn Hn (psW Wn Hn ps s0 t0 i)).1) (.int .i64 (crn Hn (psW Wn Hn ps s0 t0 i)).2) ∧ (∀ o, wr.frozen? ⟨ab, o, none⟩ = false) ∧ Below ab V wr)
      case atStart => exact ⟨0, none, 0, 0, by omega, rfl, OwnE.nil _ _ _ _ _, hih, by rw [HS0.out]; exact A1, A1f, BI.out⟩
      case round =>
        obtain ⟨i, A4, n4, c4, hig, rfl, ho, hit, hat, haf, hb⟩ := hrel
        by_cases hi : i < d
        · have hwz : i < word.size := by rw [HWZ.out]; exact hi
          obtain ⟨j4, hnb, _⟩ := HWS.out i hi
          have hb0 : word[i] = sgU (jsW Wn Hn ps s0 t0 i) := by rw [HAT.out i hwz, HGD.out i hi]
          have hnx : ∀ ty, (Instr.next (.pointer (some ⟨ab + 1, 0, none⟩)) true ty).run Try.prog wr = .ok (.tuple #[.bool true, .int .i64 i, .int .i32 (sgn (jsW Wn Hn ps s0 t0 i))]) (wr.iterAt (ab + 1) word (i + 1)) := fun ty => by
            have := Go.Lib.run_next_ascii_at (P := Try.prog) wr (ab + 1) word i ty hit hwz (by rw [hb0]; exact (sgU_sgn j4).2)
            rw [this, hb0]
            exact congrArg (fun z => Result.ok (Value.tuple #[.bool true, .int .i64 i, .int .i32 z]) (wr.iterAt (ab + 1) word (i + 1))) (sgU_sgn j4).1
          obtain ⟨wi, hwi⟩ : ∃ wi, wr.iterAt (ab + 1) word (i + 1) = wi := ⟨_, rfl⟩
          have hitw : wi.heap[ab + 1]? = some (.stringIter word (i + 1)) := by rw [← hwi]; exact Go.Lib.iterAt_heap wr _ word i (i + 1) hit
          have hgi : wr.grownBy wi (some (ab + 1)) := by rw [← hwi]; exact iter_grown
          have hbi : Below ab V wi := by rw [← hwi]; exact Go.Lib.below_iterAt hb (by omega) _ _
          rw [hwi] at hnx
          have IT := Lib.hid hitw
          have AT : Tw wi ab (.int .i64 (crn Hn (psW Wn Hn ps s0 t0 i)).1) (.int .i64 (crn Hn (psW Wn Hn ps s0 t0 i)).2) := ⟨hgi.cell hat.1 (by simp), hgi.cell hat.2 (by simp)⟩
          have ATF := Lib.hid (fun o => (World.frozen?_of_block (a := ⟨ab, o, none⟩) (hgi.block ab hat.lt (by simp))).trans (haf o))
          have OW := Lib.hid (OwnE.grown ho hgi (.inr (fun e => by have := (World.ownsRow.lt ho (ab + 1) e).1; omega)))
          have BVI := Lib.hid hbi
          have BWI := Lib.hid (BV.out.trans (hbi.mono (by omega)))
          obtain ⟨e4, eu, em, ec, eb, en⟩ := nb_edge hnb
          have hstp : stp Wn Hn ps (((psW Wn Hn ps s0 t0 i / Hn : Nat) : Int), ((psW Wn Hn ps s0 t0 i % Hn : Nat) : Int)) (jsW Wn Hn ps s0 t0 i) = true := by
            cases hs : stp Wn Hn ps (((psW Wn Hn ps s0 t0 i / Hn : Nat) : Int), ((psW Wn Hn ps s0 t0 i % Hn : Nat) : Int)) (jsW Wn Hn ps s0 t0 i)
            · rw [nb_none hs] at hnb; cases hnb
            · rfl
          have HSTEP := Lib.hid (show ∀ (X : World), Gr wi X → Calls Try.prog 42 #[.agg #[.int .i64 Wn, .int .i64 Hn, .slice A ps.length c], .agg #[.int .i64 (crn Hn (psW Wn Hn ps s0 t0 i)).1, .int .i64 (crn Hn (psW Wn Hn ps s0 t0 i)).2], .int .i32 (sgn (jsW Wn Hn ps s0 t0 i))] X fun e w' => e = .returned (.tuple #[.agg #[.int .i64 (crn Hn (psW Wn Hn ps s0 t0 (i + 1))).1, .int .i64 (crn Hn (psW Wn Hn ps s0 t0 (i + 1))).2], .bool true]) ∧ Gr X w' from fun X hX => by
            have q := HST.out X (BWI.out.trans (hX.below.mono BWI.out.size)) (psW Wn Hn ps s0 t0 i) (jsW Wn Hn ps s0 t0 i) j4 (HON.out _ eu)
            rw [itV_some hstp] at q
            rw [ec]
            exact q)
          obtain ⟨p, q, t, hbs⟩ : ∃ p q t, bsW Wn Hn ps s0 t0 i = (p, q, t) := ⟨_, _, _, rfl⟩
          have HBB := Lib.hid (fun (X : World) => Try.blockBetween X (crn Hn (psW Wn Hn ps s0 t0 i)).1 (crn Hn (psW Wn Hn ps s0 t0 i)).2 (crn Hn (psW Wn Hn ps s0 t0 (i + 1))).1 (crn Hn (psW Wn Hn ps s0 t0 (i + 1))).2 p q t hbs)
          have hsu := HSU.out i
          rw [hbs] at hsu
          have hbi2 := (HBI.out i hi).2
          rw [hbs] at hbi2
          have HUPP := Lib.hid (HUP.out (p, q, t) hbi2)
          have HLEN := Lib.hid (show (pTo Wn Hn ps s0 t0 i).length ≤ 1000000000 by have := HSR.out i; omega)
          obtain ⟨dn, hdn⟩ : ∃ dn, f (fin (nbC Wn Hn (ins ps (p, q, t))) (Wn * Hn) s0) t0 = dn := ⟨_, rfl⟩
          have hnl : nlB Wn Hn ps s0 t0 (p, q, t) = decide (dn < 0) := by rw [← hdn]; rfl
          rw [hnl] at hsu
          have HSUU := Lib.hid hsu
          have HLK1 := Lib.hid (fun (X : World) bm n D (hown : X.ownsMap Try.prog 66 rElem bm n D) hM (W' : World) (g : Gr X W') => HLK.out X (p, q, t) bm n D hown hM W' g)
          rw [hdn] at HLK1
          obtain ⟨sj, hsj⟩ : ∃ s, sgn (jsW Wn Hn ps s0 t0 i) = s := ⟨_, rfl⟩
          rw [hsj] at hnx HSTEP
          have HNEXT := Lib.hid (show ∃ mx my, (crn Hn (psW Wn Hn ps s0 t0 (i + 1))).1 = mx ∧ (crn Hn (psW Wn Hn ps s0 t0 (i + 1))).2 = my from ⟨_, _, rfl, rfl⟩)
          obtain ⟨mx, my, hmx, hmy⟩ := HNEXT.out
          rw [hmx, hmy] at HSTEP HBB
          have HMX := Lib.hid (And.intro hmx hmy)
          generalize (crn Hn (psW Wn Hn ps s0 t0 i)).1 = ux at *
          generalize (crn Hn (psW Wn Hn ps s0 t0 i)).2 = uy at *
          clear hat haf hb ho hit hwi hitw hgi hbi hb0 hnb hstp hbs hsu hbi2 hdn hnl hsj hmx hmy e4 eu em ec eb en j4 hwz
          have zab : ab < wi.heap.size := AT.lt
          obtain ⟨c0, c1, c2, cf⟩ := CB.out.bel BVI.out (by omega)
          obtain ⟨a0, a1⟩ := AT
          have HA := Lib.hid (And.intro a0 a1)
          go_upto_region 12 with (first | (go_at_call 42; refine (HSTEP.out _ (Gr.refl _)).mono ?_; rintro e w6 ⟨rfl, hg6⟩; obtain ⟨a0, a1⟩ := (show Tw wi ab _ _ from HA.out).gr hg6; have zab6 : ab < w6.heap.size := World.block_lt_of_cell? _ _ a0) | (go_at_call 43; refine (HBB.out _).mono ?_; rintro e w7 ⟨rfl, hg7⟩))
          have g68 : Gr wi (w6.alloc (.cells #[.int .i64 mx, .int .i64 my] 66)) := Gr.alloc hg6 _
          obtain ⟨V8, hV8⟩ : ∃ V8, w7.alloc (.cells #[.int .i64 p, .int .i64 q, .bool t] 34) = V8 := ⟨_, rfl⟩
          rw [hV8]
          have g78 : Gr w7 V8 := by rw [← hV8]; exact Gr.alloc (Gr.refl _) _
          have g8 : Gr wi V8 := (g68.trans hg7).trans g78
          have NXT := Lib.hid (show Tw V8 w6.heap.size (.int .i64 mx) (.int .i64 my) from Tw.gr (show Tw (w6.alloc (.cells #[.int .i64 mx, .int .i64 my] 66)) w6.heap.size _ _ from ⟨by simp [go_sem], by simp [go_sem]⟩) (hg7.trans g78))
          have BLK := Lib.hid (show V8.cell? ⟨w7.heap.size, 0, none⟩ = some (.int .i64 p) ∧ V8.cell? ⟨w7.heap.size, 1, none⟩ = some (.int .i64 q) ∧ V8.cell? ⟨w7.heap.size, 2, none⟩ = some (.bool t) from by rw [← hV8]; exact ⟨by simp [go_sem], by simp [go_sem], by simp [go_sem]⟩)
          have HNB0 : some w6.heap.size ≠ (Value.slice A4 n4 c4).ownBlock := fun e => by have h1 := (World.ownsRow.lt OW.out _ e.symm).2; have h2 := hg6.below.size; omega
          have HNB := Lib.hid HNB0
          clear HNB0
          generalize hnb : w6.heap.size = nb at *
          generalize hkb : w7.heap.size = kb at *
          have BV8 := Lib.hid (BVI.out.trans (g8.below.mono (by omega)))
          have BW8 := Lib.hid (BWI.out.trans (g8.below.mono BWI.out.size))
          have AT8 := Lib.hid ((show Tw wi ab _ _ from HA.out).gr g8)
          have AF8 := Lib.hid (fun o => (g8.below.frozen (p := ⟨ab, o, none⟩) zab).trans (ATF.out o))
          have IT8 := Lib.hid ((g8.below.block (ab + 1) (Array.getElem?_eq_some_iff.1 IT.out).1).trans IT.out)
          have OW8 := Lib.hid (OwnE.gr OW.out g8)
          have C8 := CB.out.bel BV8.out (by omega)
          have F8 := FB.out.bel BV8.out (by omega)
          have T8 := TB.out.bel BV8.out (by omega)
          have SS := Lib.hid (And.intro C8.1 (And.intro C8.2.1 (And.intro C8.2.2.1 (And.intro BLK.out.1 (And.intro BLK.out.2.1 (And.intro BLK.out.2.2 (And.intro F8.1 (And.intro F8.2 (And.intro T8.1 T8.2)))))))))
          have z8 : ab + 1 < V8.heap.size := (Array.getElem?_eq_some_iff.1 IT8.out).1
          clear hV8 g68 g78 g8 hg6 hg7 hnb hkb C8 F8 T8 c0 c1 c2 cf a0 a1 zab6 zab ATF IT OW BVI BWI HA HSTEP HBB HNEXT hnx
          refine wp_region_held_drew (S := fun W' => W'.cell? ⟨w.heap.size, 0, none⟩ = some (.int .i64 Wn) ∧ W'.cell? ⟨w.heap.size, 1, none⟩ = some (.int .i64 Hn) ∧ W'.cell? ⟨w.heap.size, 2, none⟩ = some (.slice A ps.length c) ∧ W'.cell? ⟨kb, 0, none⟩ = some (.int .i64 p) ∧ W'.cell? ⟨kb, 1, none⟩ = some (.int .i64 q) ∧ W'.cell? ⟨kb, 2, none⟩ = some (.bool t) ∧ W'.cell? ⟨fb, 0, none⟩ = some (.int .i64 (crn Hn s0).1) ∧ W'.cell? ⟨fb, 1, none⟩ = some (.int .i64 (crn Hn s0).2) ∧ W'.cell? ⟨tb, 0, none⟩ = some (.int .i64 (crn Hn t0).1) ∧ W'.cell? ⟨tb, 1, none⟩ = some (.int .i64 (crn Hn t0).2)) (by kernel_rfl) (s10 SS.out (Below.drew (Below.refl V8.heap.size V8))) (fun hHeld => ?_)
          (refine wpAnyH_take (i := 0) (v := ?_) (by simp only [List.getElem?_toArray, List.getElem?_cons_succ, List.getElem?_cons_zero]; exact rfl) (by kernel_rfl) (by kernel_rfl) (by kernel_rfl) (by intro _ _ _ h; exact h) (Or.inl ⟨by rfl, ?_⟩) (by assumption) ?_; rotate_left; (focus (intro w' hSw; (try dsimp only at hSw); go_simp; (try with_reducible rfl))); try simp only [Act.put, List.setIfInBounds_toArray, List.set_cons_zero, List.set_cons_succ])
          (refine wpAnyH_take (i := 1) (v := ?_) (by simp only [List.getElem?_toArray, List.getElem?_cons_succ, List.getElem?_cons_zero]; exact rfl) (by kernel_rfl) (by kernel_rfl) (by kernel_rfl) (by intro _ _ _ h; exact h) (Or.inl ⟨by rfl, ?_⟩) (by assumption) ?_; rotate_left; (focus (intro w' hSw; (try dsimp only at hSw); go_simp; (try with_reducible rfl))); try simp only [Act.put, List.setIfInBounds_toArray, List.set_cons_zero, List.set_cons_succ])
          (refine wpAnyH_take (i := 3) (v := ?_) (by simp only [List.getElem?_toArray, List.getElem?_cons_succ, List.getElem?_cons_zero]; exact rfl) (by kernel_rfl) (by kernel_rfl) (by kernel_rfl) (by intro _ _ _ h; exact h) (Or.inl ⟨by rfl, ?_⟩) (by assumption) ?_; rotate_left; (focus (intro w' hSw; (try dsimp only at hSw); go_simp; (try with_reducible rfl))); try simp only [Act.put, List.setIfInBounds_toArray, List.set_cons_zero, List.set_cons_succ])
          (refine wpAnyH_take (i := 5) (v := ?_) (by simp only [List.getElem?_toArray, List.getElem?_cons_succ, List.getElem?_cons_zero]; exact rfl) (by kernel_rfl) (by kernel_rfl) (by kernel_rfl) (by intro _ _ _ h; exact h) (Or.inl ⟨by rfl, ?_⟩) (by assumption) ?_; rotate_left; (focus (intro w' hSw; (try dsimp only at hSw); go_simp; (try with_reducible rfl))); try simp only [Act.put, List.setIfInBounds_toArray, List.set_cons_zero, List.set_cons_succ])
          refine wpAnyH_ready (rs := [2, 10]) (by kernel_rfl) (by simp) (AllReadyH.cons (by first | (simp only [List.getElem?_toArray, List.getElem?_cons_succ, List.getElem?_cons_zero]; exact rfl) | rfl) (fun K' hK => ?_) (AllReadyH.cons (by first | (simp only [List.getElem?_toArray, List.getElem?_cons_succ, List.getElem?_cons_zero]; exact rfl) | rfl) (fun K' hK => ?_) AllReadyH.nil))
          · go_simp
            (go_at_call 36; refine (HCL.out _ (BW8.out.trans (Below.mono (Below.drew (Below.refl V8.heap.size V8)) BW8.out.size)) _ _ _).mono ?_; rintro e w3 ⟨v5, rfl, ho5, hb5⟩; have h3 := Below.trans (Below.drew (Below.refl V8.heap.size V8)) (hb5.mono (Below.size (Below.drew (Below.refl V8.heap.size V8)))))
            (refine hK.out _ _ (s10 SS.out h3) (fun hHeld => ?_); clear hK K'; try simp only [Act.put, List.setIfInBounds_toArray, List.set_cons_zero, List.set_cons_succ])
            refine wpAnyH_ready (rs := [4, 10]) (by kernel_rfl) (by simp) (AllReadyH.cons (by first | (simp only [List.getElem?_toArray, List.getElem?_cons_succ, List.getElem?_cons_zero]; exact rfl) | rfl) (fun K' hK => ?_) (AllReadyH.cons (by first | (simp only [List.getElem?_toArray, List.getElem?_cons_succ, List.getElem?_cons_zero]; exact rfl) | rfl) (fun K' hK => ?_) AllReadyH.nil))
            · go_simp
              (go_at_call 44; refine (HRF.out _ _ _ _ HUPP.out ho5).mono ?_; rintro e w4 ⟨bm, nm, D, rfl, hown, hM, hb4⟩; have h4 := Below.trans (h3) (hb4.mono (Below.size (h3))); have hk1 := HLK1.out _ bm nm D hown hM w4 (Gr.refl _); have hk2 := HLK1.out _ bm nm D hown hM (w4.alloc (.cells #[.int .i64 0, .int .i64 0] 71)) (Gr.alloc (Gr.refl _) _))
              (refine hK.out _ _ (s10 SS.out h4) (fun hHeld => ?_); clear hK K'; try simp only [Act.put, List.setIfInBounds_toArray, List.set_cons_zero, List.set_cons_succ])
              refine wpAnyH_ready (rs := [6, 10]) (by kernel_rfl) (by simp) (AllReadyH.cons (by first | (simp only [List.getElem?_toArray, List.getElem?_cons_succ, List.getElem?_cons_zero]; exact rfl) | rfl) (fun K' hK => ?_) (AllReadyH.cons (by first | (simp only [List.getElem?_toArray, List.getElem?_cons_succ, List.getElem?_cons_zero]; exact rfl) | rfl) (fun K' hK => ?_) AllReadyH.nil))
              · go_simp
                (refine hK.out _ _ (s10 SS.out (h4)) (fun hHeld => ?_); clear hK K'; try simp only [Act.put, List.setIfInBounds_toArray, List.set_cons_zero, List.set_cons_succ])
                (refine wpAnyH_take (i := 7) (v := ?_) (by simp only [List.getElem?_toArray, List.getElem?_cons_succ, List.getElem?_cons_zero]; exact rfl) (by kernel_rfl) (by kernel_rfl) (by kernel_rfl) (by intro _ _ _ h; exact h) (Or.inl ⟨by rfl, ?_⟩) (by assumption) ?_; rotate_left; (focus (intro w' hSw; (try dsimp only at hSw); go_simp; (try with_reducible rfl))); try simp only [Act.put, List.setIfInBounds_toArray, List.set_cons_zero, List.set_cons_succ])
                (refine wpAnyH_take (i := 8) (v := ?_) (by simp only [List.getElem?_toArray, List.getElem?_cons_succ, List.getElem?_cons_zero]; exact rfl) (by kernel_rfl) (by kernel_rfl) (by kernel_rfl) (by intro _ _ _ h; exact h) (Or.inl ⟨by rfl, ?_⟩) (by assumption) ?_; rotate_left; (focus (intro w' hSw; (try dsimp only at hSw); go_simp; (try with_reducible rfl))); try simp only [Act.put, List.setIfInBounds_toArray, List.set_cons_zero, List.set_cons_succ])
                (refine wpAnyH_take (i := 9) (v := ?_) (by simp only [List.getElem?_toArray, List.getElem?_cons_succ, List.getElem?_cons_zero]; exact rfl) (by kernel_rfl) (by kernel_rfl) (by kernel_rfl) (by intro _ _ _ h; exact h) (Or.inl ⟨by rfl, ?_⟩) (by assumption) ?_; rotate_left; (focus (intro w' hSw; (try dsimp only at hSw); go_simp; (try with_reducible rfl))); try simp only [Act.put, List.setIfInBounds_toArray, List.set_cons_zero, List.set_cons_succ])
                refine wpAnyH_ready (rs := [10]) (by kernel_rfl) (by simp) (AllReadyH.cons (by first | (simp only [List.getElem?_toArray, List.getElem?_cons_succ, List.getElem?_cons_zero]; exact rfl) | rfl) (fun K' hK => ?_) AllReadyH.nil)
                go_simp
                (refine hK.out _ _ (s10 SS.out (Below.alloc (h4) (Below.size (h4)) _)) (fun hHeld => ?_); clear hK K'; try simp only [Act.put, List.setIfInBounds_toArray, List.set_cons_zero, List.set_cons_succ])
                refine wpAnyH_ready (rs := [11]) (by kernel_rfl) (by simp) (AllReadyH.cons (by first | (simp only [List.getElem?_toArray, List.getElem?_cons_succ, List.getElem?_cons_zero]; exact rfl) | rfl) (fun K' hK => ?_) AllReadyH.nil)
                go_simp
                (refine hK.out _ _ (s10 SS.out (Below.alloc h4 h4.size _)) (fun hHeld => ?_); clear hK K'; try simp only [Act.put, List.setIfInBounds_toArray, List.set_cons_zero, List.set_cons_succ])
                refine wpAnyH_ready (rs := [12]) (by kernel_rfl) (by simp) (AllReadyH.cons (by first | (simp only [List.getElem?_toArray, List.getElem?_cons_succ, List.getElem?_cons_zero]; exact rfl) | rfl) (fun K' hK => ?_) AllReadyH.nil)
                go_simp
                (refine hK.out _ _ (s10 SS.out (Below.alloc h4 h4.size _)) (fun hHeld => ?_); clear hK K'; try simp only [Act.put, List.setIfInBounds_toArray, List.set_cons_zero, List.set_cons_succ])
                refine wpAnyH_done (by kernel_rfl) ?_ _
                go_upto_region 13 with fail
                obtain ⟨Wz, hWz⟩ : ∃ Wz, w4.alloc (.cells #[.int .i64 (if 0 ≤ dn then dn else 0), .int .i64 (if 0 ≤ dn then g (fin (nbC Wn Hn (ins ps (p, q, t))) (Wn * Hn) s0) t0 else 0)] 71) = Wz := ⟨_, rfl⟩
                rw [hWz]
                have BZ : Below V8.heap.size V8 Wz := by rw [← hWz]; exact Below.alloc h4 h4.size _
                have zz8 := BZ.size
                have zz2 : ab + 2 ≤ Wz.heap.size := by omega
                have NZ := Lib.hid (NXT.out.bel BZ NXT.out.lt)
                have AZ := Lib.hid (AT8.out.bel BZ AT8.out.lt)
                have AFZ := Lib.hid (fun o => (BZ.frozen (p := ⟨ab, o, none⟩) AT8.out.lt).trans (AF8.out o))
                have ITZ := Lib.hid ((BZ.block (ab + 1) z8).trans IT8.out)
                have OWZ := Lib.hid (OwnE.below OW8.out BZ (Nat.le_refl _))
                have BVZ := Lib.hid (BV8.out.trans (BZ.mono (by omega)))
                obtain ⟨b0, b1, b2⟩ := (show Wz.cell? ⟨kb, 0, none⟩ = some (.int .i64 p) ∧ Wz.cell? ⟨kb, 1, none⟩ = some (.int .i64 q) ∧ Wz.cell? ⟨kb, 2, none⟩ = some (.bool t) from ⟨cell_k2 BZ BLK.out.1, cell_k2 BZ BLK.out.2.1, cell_k2 BZ BLK.out.2.2⟩)
                obtain ⟨n0, n1⟩ := NZ.out
                obtain ⟨a0, a1⟩ := AZ.out
                have af0 := AFZ.out 0
                have af1 := AFZ.out 1
                clear hWz BZ h3 h4 hk1 hk2 hown hM hb4 hb5 ho5
                by_cases hz : dn < 0
                · have hz2 : ¬ (0 ≤ dn) := by omega
                  have hz3 : decide (0 ≤ dn) = false := decide_eq_false hz2
                  go_wp2_with (first | (at_builtin; refine wpList_appE bcs_len bcs_one rfl _ _ 28 rfl 34 Try.underlying28 Try.infoB rfl (by decide) (by decide) (ab + 2) _ _ rfl (OwnE.gr OWZ.out (Gr.alloc (Gr.refl _) _)) ⟨Wz.heap.size, 0, none⟩ 1 1 [(p, q, t)] rfl rfl (fun j u hu => alloc_cells (by simpa [ecs, bcs] using hu)) HLEN.out (by simp) (by simp; omega) ?_; intro v7 w9 ho7 hb7 gb7 _; obtain ⟨A7, c7, rfl, ho7⟩ := OwnE.eta ho7; have N9 := Lib.hid (show Tw w9 nb _ _ from ⟨gb7.cell ((Gr.alloc (Gr.refl _) _).keep0 NZ.out.1) HNB.out, gb7.cell ((Gr.alloc (Gr.refl _) _).keep0 NZ.out.2) HNB.out⟩); obtain ⟨n0, n1⟩ := N9.out; have G9 := ((Gr.alloc (Gr.refl Wz) (.cells #[.int .i64 p, .int .i64 q, .bool t] 34)).below.mono zz2).trans hb7; have A9 := Lib.hid (AZ.out.bel G9 (by omega)); have AF9 := Lib.hid (fun o => (G9.frozen (p := ⟨ab, o, none⟩) (by show ab < ab + 2; omega)).trans (AFZ.out o)); have IT9 := Lib.hid ((G9.block (ab + 1) (by omega)).trans ITZ.out); have BV9 := Lib.hid (BVZ.out.trans (G9.mono (by omega))); have OW9 := Lib.hid ho7; obtain ⟨a0, a1⟩ := A9.out; have af0 := AF9.out 0; have af1 := AF9.out 1; have zn9 := World.block_lt_of_cell? _ _ n0; clear ho7 hb7 gb7 G9))
                  go_roundg (gk - 1)
                  case rel =>
                    refine ⟨i + 1, A7, _, c7, by omega, rfl, ?_, ?_, ?_, fun o => ?_, ?_⟩
                    · rw [HSUU.out, if_pos (decide_eq_true hz)]; have h := OW9.out; simp only [List.length_append, List.length_cons, List.length_nil, Nat.zero_add] at h; exact OwnE.setOther (a := ⟨ab, 1, none⟩) (OwnE.setOther (a := ⟨ab, 0, none⟩) h (by simp) _) (by simp) _
                    · exact (heap_setCell_other _ ⟨ab, 1, none⟩ (ab + 1) _ (fun e => by first | (simp at e; done) | omega)).trans ((heap_setCell_other _ ⟨ab, 0, none⟩ (ab + 1) _ (fun e => by first | (simp at e; done) | omega)).trans IT9.out)
                    · rw [HMX.out.1, HMX.out.2]; exact ⟨(World.cell?_setCell_other _ _ _ _ (by simp)).trans (World.cell?_setCell_same _ _ _ A9.out.1), World.cell?_setCell_same _ _ _ ((World.cell?_setCell_other _ _ _ _ (by simp)).trans A9.out.2)⟩
                    · exact (World.frozen?_setCell _ _ _ _).trans ((World.frozen?_setCell _ _ _ _).trans (AF9.out o))
                    · exact (BV9.out.setCell (p := ⟨ab, 0, none⟩) (Nat.le_refl _) _).setCell (p := ⟨ab, 1, none⟩) (Nat.le_refl _) _
                  case measure => omega
                · have hz2 : 0 ≤ dn := by omega
                  have hz3 : decide (0 ≤ dn) = true := decide_eq_true hz2
                  go_wp2
                  go_roundg (gk - 1)
                  case rel =>
                    refine ⟨i + 1, A4, n4, c4, by omega, rfl, ?_, ?_, ?_, fun o => ?_, ?_⟩
                    · rw [HSUU.out, if_neg (by simp; omega)]; exact OwnE.setOther (a := ⟨ab, 1, none⟩) (OwnE.setOther (a := ⟨ab, 0, none⟩) OWZ.out (by simp) _) (by simp) _
                    · exact (heap_setCell_other _ ⟨ab, 1, none⟩ (ab + 1) _ (fun e => by first | (simp at e; done) | omega)).trans ((heap_setCell_other _ ⟨ab, 0, none⟩ (ab + 1) _ (fun e => by first | (simp at e; done) | omega)).trans ITZ.out)
                    · rw [HMX.out.1, HMX.out.2]; exact ⟨(World.cell?_setCell_other _ _ _ _ (by simp)).trans (World.cell?_setCell_same _ _ _ AZ.out.1), World.cell?_setCell_same _ _ _ ((World.cell?_setCell_other _ _ _ _ (by simp)).trans AZ.out.2)⟩
                    · exact (World.frozen?_setCell _ _ _ _).trans ((World.frozen?_setCell _ _ _ _).trans (AFZ.out o))
                    · exact (BVZ.out.setCell (p := ⟨ab, 0, none⟩) (Nat.le_refl _) _).setCell (p := ⟨ab, 1, none⟩) (Nat.le_refl _) _
                  case measure => omega
              · go_simp
                (refine hK.out _ _ (s10 SS.out (Below.alloc (h4) (Below.size (h4)) _)) (fun hHeld => ?_); clear hK K'; try simp only [Act.put, List.setIfInBounds_toArray, List.set_cons_zero, List.set_cons_succ])
                refine wpAnyH_ready (rs := [6]) (by kernel_rfl) (by simp) (AllReadyH.cons (by first | (simp only [List.getElem?_toArray, List.getElem?_cons_succ, List.getElem?_cons_zero]; exact rfl) | rfl) (fun K' hK => ?_) AllReadyH.nil)
                go_simp
                (refine hK.out _ _ (s10 SS.out (Below.alloc (h4) (Below.size (h4)) _)) (fun hHeld => ?_); clear hK K'; try simp only [Act.put, List.setIfInBounds_toArray, List.set_cons_zero, List.set_cons_succ])
                (refine wpAnyH_take (i := 7) (v := ?_) (by simp only [List.getElem?_toArray, List.getElem?_cons_succ, List.getElem?_cons_zero]; exact rfl) (by kernel_rfl) (by kernel_rfl) (by kernel_rfl) (by intro _ _ _ h; exact h) (Or.inl ⟨by rfl, ?_⟩) (by assumption) ?_; rotate_left; (focus (intro w' hSw; (try dsimp only at hSw); go_simp; (try with_reducible rfl))); try simp only [Act.put, List.setIfInBounds_toArray, List.set_cons_zero, List.set_cons_succ])
                (refine wpAnyH_take (i := 8) (v := ?_) (by simp only [List.getElem?_toArray, List.getElem?_cons_succ, List.getElem?_cons_zero]; exact rfl) (by kernel_rfl) (by kernel_rfl) (by kernel_rfl) (by intro _ _ _ h; exact h) (Or.inl ⟨by rfl, ?_⟩) (by assumption) ?_; rotate_left; (focus (intro w' hSw; (try dsimp only at hSw); go_simp; (try with_reducible rfl))); try simp only [Act.put, List.setIfInBounds_toArray, List.set_cons_zero, List.set_cons_succ])
                (refine wpAnyH_take (i := 9) (v := ?_) (by simp only [List.getElem?_toArray, List.getElem?_cons_succ, List.getElem?_cons_zero]; exact rfl) (by kernel_rfl) (by kernel_rfl) (by kernel_rfl) (by intro _ _ _ h; exact h) (Or.inl ⟨by rfl, ?_⟩) (by assumption) ?_; rotate_left; (focus (intro w' hSw; (try dsimp only at hSw); go_simp; (try with_reducible rfl))); try simp only [Act.put, List.setIfInBounds_toArray, List.set_cons_zero, List.set_cons_succ])
                refine wpAnyH_ready (rs := [11]) (by kernel_rfl) (by simp) (AllReadyH.cons (by first | (simp only [List.getElem?_toArray, List.getElem?_cons_succ, List.getElem?_cons_zero]; exact rfl) | rfl) (fun K' hK => ?_) AllReadyH.nil)
                go_simp
                (refine hK.out _ _ (s10 SS.out (Below.alloc h4 h4.size _)) (fun hHeld => ?_); clear hK K'; try simp only [Act.put, List.setIfInBounds_toArray, List.set_cons_zero, List.set_cons_succ])
                refine wpAnyH_ready (rs := [12]) (by kernel_rfl) (by simp) (AllReadyH.cons (by first | (simp only [List.getElem?_toArray, List.getElem?_cons_succ, List.getElem?_cons_zero]; exact rfl) | rfl) (fun K' hK => ?_) AllReadyH.nil)
                go_simp
                (refine hK.out _ _ (s10 SS.out (Below.alloc h4 h4.size _)) (fun hHeld => ?_); clear hK K'; try simp only [Act.put, List.setIfInBounds_toArray, List.set_cons_zero, List.set_cons_succ])
                refine wpAnyH_done (by kernel_rfl) ?_ _
                go_upto_region 13 with fail
                obtain ⟨Wz, hWz⟩ : ∃ Wz, w4.alloc (.cells #[.int .i64 (if 0 ≤ dn then dn else 0), .int .i64 (if 0 ≤ dn then g (fin (nbC Wn Hn (ins ps (p, q, t))) (Wn * Hn) s0) t0 else 0)] 71) = Wz := ⟨_, rfl⟩
                rw [hWz]
                have BZ : Below V8.heap.size V8 Wz := by rw [← hWz]; exact Below.alloc h4 h4.size _
                have zz8 := BZ.size
                have zz2 : ab + 2 ≤ Wz.heap.size := by omega
                have NZ := Lib.hid (NXT.out.bel BZ NXT.out.lt)
                have AZ := Lib.hid (AT8.out.bel BZ AT8.out.lt)
                have AFZ := Lib.hid (fun o => (BZ.frozen (p := ⟨ab, o, none⟩) AT8.out.lt).trans (AF8.out o))
                have ITZ := Lib.hid ((BZ.block (ab + 1) z8).trans IT8.out)
                have OWZ := Lib.hid (OwnE.below OW8.out BZ (Nat.le_refl _))
                have BVZ := Lib.hid (BV8.out.trans (BZ.mono (by omega)))
                obtain ⟨b0, b1, b2⟩ := (show Wz.cell? ⟨kb, 0, none⟩ = some (.int .i64 p) ∧ Wz.cell? ⟨kb, 1, none⟩ = some (.int .i64 q) ∧ Wz.cell? ⟨kb, 2, none⟩ = some (.bool t) from ⟨cell_k2 BZ BLK.out.1, cell_k2 BZ BLK.out.2.1, cell_k2 BZ BLK.out.2.2⟩)
                obtain ⟨n0, n1⟩ := NZ.out
                obtain ⟨a0, a1⟩ := AZ.out
                have af0 := AFZ.out 0
                have af1 := AFZ.out 1
                clear hWz BZ h3 h4 hk1 hk2 hown hM hb4 hb5 ho5
                by_cases hz : dn < 0
                · have hz2 : ¬ (0 ≤ dn) := by omega
                  have hz3 : decide (0 ≤ dn) = false := decide_eq_false hz2
                  go_wp2_with (first | (at_builtin; refine wpList_appE bcs_len bcs_one rfl _ _ 28 rfl 34 Try.underlying28 Try.infoB rfl (by decide) (by decide) (ab + 2) _ _ rfl (OwnE.gr OWZ.out (Gr.alloc (Gr.refl _) _)) ⟨Wz.heap.size, 0, none⟩ 1 1 [(p, q, t)] rfl rfl (fun j u hu => alloc_cells (by simpa [ecs, bcs] using hu)) HLEN.out (by simp) (by simp; omega) ?_; intro v7 w9 ho7 hb7 gb7 _; obtain ⟨A7, c7, rfl, ho7⟩ := OwnE.eta ho7; have N9 := Lib.hid (show Tw w9 nb _ _ from ⟨gb7.cell ((Gr.alloc (Gr.refl _) _).keep0 NZ.out.1) HNB.out, gb7.cell ((Gr.alloc (Gr.refl _) _).keep0 NZ.out.2) HNB.out⟩); obtain ⟨n0, n1⟩ := N9.out; have G9 := ((Gr.alloc (Gr.refl Wz) (.cells #[.int .i64 p, .int .i64 q, .bool t] 34)).below.mono zz2).trans hb7; have A9 := Lib.hid (AZ.out.bel G9 (by omega)); have AF9 := Lib.hid (fun o => (G9.frozen (p := ⟨ab, o, none⟩) (by show ab < ab + 2; omega)).trans (AFZ.out o)); have IT9 := Lib.hid ((G9.block (ab + 1) (by omega)).trans ITZ.out); have BV9 := Lib.hid (BVZ.out.trans (G9.mono (by omega))); have OW9 := Lib.hid ho7; obtain ⟨a0, a1⟩ := A9.out; have af0 := AF9.out 0; have af1 := AF9.out 1; have zn9 := World.block_lt_of_cell? _ _ n0; clear ho7 hb7 gb7 G9))
                  go_roundg (gk - 1)
                  case rel =>
                    refine ⟨i + 1, A7, _, c7, by omega, rfl, ?_, ?_, ?_, fun o => ?_, ?_⟩
                    · rw [HSUU.out, if_pos (decide_eq_true hz)]; have h := OW9.out; simp only [List.length_append, List.length_cons, List.length_nil, Nat.zero_add] at h; exact OwnE.setOther (a := ⟨ab, 1, none⟩) (OwnE.setOther (a := ⟨ab, 0, none⟩) h (by simp) _) (by simp) _
                    · exact (heap_setCell_other _ ⟨ab, 1, none⟩ (ab + 1) _ (fun e => by first | (simp at e; done) | omega)).trans ((heap_setCell_other _ ⟨ab, 0, none⟩ (ab + 1) _ (fun e => by first | (simp at e; done) | omega)).trans IT9.out)
                    · rw [HMX.out.1, HMX.out.2]; exact ⟨(World.cell?_setCell_other _ _ _ _ (by simp)).trans (World.cell?_setCell_same _ _ _ A9.out.1), World.cell?_setCell_same _ _ _ ((World.cell?_setCell_other _ _ _ _ (by simp)).trans A9.out.2)⟩
                    · exact (World.frozen?_setCell _ _ _ _).trans ((World.frozen?_setCell _ _ _ _).trans (AF9.out o))
                    · exact (BV9.out.setCell (p := ⟨ab, 0, none⟩) (Nat.le_refl _) _).setCell (p := ⟨ab, 1, none⟩) (Nat.le_refl _) _
                  case measure => omega
                · have hz2 : 0 ≤ dn := by omega
                  have hz3 : decide (0 ≤ dn) = true := decide_eq_true hz2
                  go_wp2
                  go_roundg (gk - 1)
                  case rel =>
                    refine ⟨i + 1, A4, n4, c4, by omega, rfl, ?_, ?_, ?_, fun o => ?_, ?_⟩
                    · rw [HSUU.out, if_neg (by simp; omega)]; exact OwnE.setOther (a := ⟨ab, 1, none⟩) (OwnE.setOther (a := ⟨ab, 0, none⟩) OWZ.out (by simp) _) (by simp) _
                    · exact (heap_setCell_other _ ⟨ab, 1, none⟩ (ab + 1) _ (fun e => by first | (simp at e; done) | omega)).trans ((heap_setCell_other _ ⟨ab, 0, none⟩ (ab + 1) _ (fun e => by first | (simp at e; done) | omega)).trans ITZ.out)
                    · rw [HMX.out.1, HMX.out.2]; exact ⟨(World.cell?_setCell_other _ _ _ _ (by simp)).trans (World.cell?_setCell_same _ _ _ AZ.out.1), World.cell?_setCell_same _ _ _ ((World.cell?_setCell_other _ _ _ _ (by simp)).trans AZ.out.2)⟩
                    · exact (World.frozen?_setCell _ _ _ _).trans ((World.frozen?_setCell _ _ _ _).trans (AFZ.out o))
                    · exact (BVZ.out.setCell (p := ⟨ab, 0, none⟩) (Nat.le_refl _) _).setCell (p := ⟨ab, 1, none⟩) (Nat.le_refl _) _
                  case measure => omega
            · go_simp
              (refine hK.out _ _ (s10 SS.out (Below.alloc (h3) (Below.size (h3)) _)) (fun hHeld => ?_); clear hK K'; try simp only [Act.put, List.setIfInBounds_toArray, List.set_cons_zero, List.set_cons_succ])
              refine wpAnyH_ready (rs := [4]) (by kernel_rfl) (by simp) (AllReadyH.cons (by first | (simp only [List.getElem?_toArray, List.getElem?_cons_succ, List.getElem?_cons_zero]; exact rfl) | rfl) (fun K' hK => ?_) AllReadyH.nil)
              go_simp
              (go_at_call 44; refine (HRF.out _ _ _ _ HUPP.out (OwnE.gr ho5 (Gr.alloc (Gr.refl _) _))).mono ?_; rintro e w4 ⟨bm, nm, D, rfl, hown, hM, hb4⟩; have h4 := Below.trans (Below.alloc (h3) (Below.size (h3)) _) (hb4.mono (Below.size (Below.alloc (h3) (Below.size (h3)) _))); have hk1 := HLK1.out _ bm nm D hown hM w4 (Gr.refl _); have hk2 := HLK1.out _ bm nm D hown hM (w4.alloc (.cells #[.int .i64 0, .int .i64 0] 71)) (Gr.alloc (Gr.refl _) _); have s0' := cell_k2 hb4 (show (w3.alloc (.cells #[.int .i64 0, .int .i64 0] 71)).cell? ⟨w3.heap.size, 0, none⟩ = some (.int .i64 0) by simp [go_sem]); have s1' := cell_k2 hb4 (show (w3.alloc (.cells #[.int .i64 0, .int .i64 0] 71)).cell? ⟨w3.heap.size, 1, none⟩ = some (.int .i64 0) by simp [go_sem]); have sz' : ∀ o, w4.frozen? ⟨w3.heap.size, o, none⟩ = false := (fun o => (hb4.frozen (p := ⟨w3.heap.size, o, none⟩) (by simp)).trans (by simp [go_sem])))
              (refine hK.out _ _ (s10 SS.out h4) (fun hHeld => ?_); clear hK K'; try simp only [Act.put, List.setIfInBounds_toArray, List.set_cons_zero, List.set_cons_succ])
              refine wpAnyH_ready (rs := [6]) (by kernel_rfl) (by simp) (AllReadyH.cons (by first | (simp only [List.getElem?_toArray, List.getElem?_cons_succ, List.getElem?_cons_zero]; exact rfl) | rfl) (fun K' hK => ?_) AllReadyH.nil)
              go_simp
              (refine hK.out _ _ (s10 SS.out (h4)) (fun hHeld => ?_); clear hK K'; try simp only [Act.put, List.setIfInBounds_toArray, List.set_cons_zero, List.set_cons_succ])
              (refine wpAnyH_take (i := 7) (v := ?_) (by simp only [List.getElem?_toArray, List.getElem?_cons_succ, List.getElem?_cons_zero]; exact rfl) (by kernel_rfl) (by kernel_rfl) (by kernel_rfl) (by intro _ _ _ h; exact h) (Or.inl ⟨by rfl, ?_⟩) (by assumption) ?_; rotate_left; (focus (intro w' hSw; (try dsimp only at hSw); go_simp; (try with_reducible rfl))); try simp only [Act.put, List.setIfInBounds_toArray, List.set_cons_zero, List.set_cons_succ])
              (refine wpAnyH_take (i := 8) (v := ?_) (by simp only [List.getElem?_toArray, List.getElem?_cons_succ, List.getElem?_cons_zero]; exact rfl) (by kernel_rfl) (by kernel_rfl) (by kernel_rfl) (by intro _ _ _ h; exact h) (Or.inl ⟨by rfl, ?_⟩) (by assumption) ?_; rotate_left; (focus (intro w' hSw; (try dsimp only at hSw); go_simp; (try with_reducible rfl))); try simp only [Act.put, List.setIfInBounds_toArray, List.set_cons_zero, List.set_cons_succ])
              (refine wpAnyH_take (i := 9) (v := ?_) (by simp only [List.getElem?_toArray, List.getElem?_cons_succ, List.getElem?_cons_zero]; exact rfl) (by kernel_rfl) (by kernel_rfl) (by kernel_rfl) (by intro _ _ _ h; exact h) (Or.inl ⟨by rfl, ?_⟩) (by assumption) ?_; rotate_left; (focus (intro w' hSw; (try dsimp only at hSw); go_simp; (try with_reducible rfl))); try simp only [Act.put, List.setIfInBounds_toArray, List.set_cons_zero, List.set_cons_succ])
              refine wpAnyH_ready (rs := [11]) (by kernel_rfl) (by simp) (AllReadyH.cons (by first | (simp only [List.getElem?_toArray, List.getElem?_cons_succ, List.getElem?_cons_zero]; exact rfl) | rfl) (fun K' hK => ?_) AllReadyH.nil)
              go_simp
              (refine hK.out _ _ (s10 SS.out ((h4.setCell h3.size _).setCell h3.size _)) (fun hHeld => ?_); clear hK K'; try simp only [Act.put, List.setIfInBounds_toArray, List.set_cons_zero, List.set_cons_succ])
              refine wpAnyH_ready (rs := [12]) (by kernel_rfl) (by simp) (AllReadyH.cons (by first | (simp only [List.getElem?_toArray, List.getElem?_cons_succ, List.getElem?_cons_zero]; exact rfl) | rfl) (fun K' hK => ?_) AllReadyH.nil)
              go_simp
              (refine hK.out _ _ (s10 SS.out ((h4.setCell h3.size _).setCell h3.size _)) (fun hHeld => ?_); clear hK K'; try simp only [Act.put, List.setIfInBounds_toArray, List.set_cons_zero, List.set_cons_succ])
              refine wpAnyH_done (by kernel_rfl) ?_ _
              go_upto_region 13 with fail
              obtain ⟨Wz, hWz⟩ : ∃ Wz, (w4.setCell ⟨w3.heap.size, 0, none⟩ (.int .i64 (if 0 ≤ dn then dn else 0))).setCell ⟨w3.heap.size, 1, none⟩ (.int .i64 (if 0 ≤ dn then g (fin (nbC Wn Hn (ins ps (p, q, t))) (Wn * Hn) s0) t0 else 0)) = Wz := ⟨_, rfl⟩
              rw [hWz]
              have BZ : Below V8.heap.size V8 Wz := by rw [← hWz]; exact (h4.setCell h3.size _).setCell h3.size _
              have zz8 := BZ.size
              have zz2 : ab + 2 ≤ Wz.heap.size := by omega
              have NZ := Lib.hid (NXT.out.bel BZ NXT.out.lt)
              have AZ := Lib.hid (AT8.out.bel BZ AT8.out.lt)
              have AFZ := Lib.hid (fun o => (BZ.frozen (p := ⟨ab, o, none⟩) AT8.out.lt).trans (AF8.out o))
              have ITZ := Lib.hid ((BZ.block (ab + 1) z8).trans IT8.out)
              have OWZ := Lib.hid (OwnE.below OW8.out BZ (Nat.le_refl _))
              have BVZ := Lib.hid (BV8.out.trans (BZ.mono (by omega)))
              obtain ⟨b0, b1, b2⟩ := (show Wz.cell? ⟨kb, 0, none⟩ = some (.int .i64 p) ∧ Wz.cell? ⟨kb, 1, none⟩ = some (.int .i64 q) ∧ Wz.cell? ⟨kb, 2, none⟩ = some (.bool t) from ⟨cell_k2 BZ BLK.out.1, cell_k2 BZ BLK.out.2.1, cell_k2 BZ BLK.out.2.2⟩)
              obtain ⟨n0, n1⟩ := NZ.out
              obtain ⟨a0, a1⟩ := AZ.out
              have af0 := AFZ.out 0
              have af1 := AFZ.out 1
              clear hWz BZ h3 h4 hk1 hk2 hown hM hb4 hb5 ho5
              by_cases hz : dn < 0
              · have hz2 : ¬ (0 ≤ dn) := by omega
                have hz3 : decide (0 ≤ dn) = false := decide_eq_false hz2
                go_wp2_with (first | (at_builtin; refine wpList_appE bcs_len bcs_one rfl _ _ 28 rfl 34 Try.underlying28 Try.infoB rfl (by decide) (by decide) (ab + 2) _ _ rfl (OwnE.gr OWZ.out (Gr.alloc (Gr.refl _) _)) ⟨Wz.heap.size, 0, none⟩ 1 1 [(p, q, t)] rfl rfl (fun j u hu => alloc_cells (by simpa [ecs, bcs] using hu)) HLEN.out (by simp) (by simp; omega) ?_; intro v7 w9 ho7 hb7 gb7 _; obtain ⟨A7, c7, rfl, ho7⟩ := OwnE.eta ho7; have N9 := Lib.hid (show Tw w9 nb _ _ from ⟨gb7.cell ((Gr.alloc (Gr.refl _) _).keep0 NZ.out.1) HNB.out, gb7.cell ((Gr.alloc (Gr.refl _) _).keep0 NZ.out.2) HNB.out⟩); obtain ⟨n0, n1⟩ := N9.out; have G9 := ((Gr.alloc (Gr.refl Wz) (.cells #[.int .i64 p, .int .i64 q, .bool t] 34)).below.mono zz2).trans hb7; have A9 := Lib.hid (AZ.out.bel G9 (by omega)); have AF9 := Lib.hid (fun o => (G9.frozen (p := ⟨ab, o, none⟩) (by show ab < ab + 2; omega)).trans (AFZ.out o)); have IT9 := Lib.hid ((G9.block (ab + 1) (by omega)).trans ITZ.out); have BV9 := Lib.hid (BVZ.out.trans (G9.mono (by omega))); have OW9 := Lib.hid ho7; obtain ⟨a0, a1⟩ := A9.out; have af0 := AF9.out 0; have af1 := AF9.out 1; have zn9 := World.block_lt_of_cell? _ _ n0; clear ho7 hb7 gb7 G9))
                go_roundg (gk - 1)
                case rel =>
                  refine ⟨i + 1, A7, _, c7, by omega, rfl, ?_, ?_, ?_, fun o => ?_, ?_⟩
                  · rw [HSUU.out, if_pos (decide_eq_true hz)]; have h := OW9.out; simp only [List.length_append, List.length_cons, List.length_nil, Nat.zero_add] at h; exact OwnE.setOther (a := ⟨ab, 1, none⟩) (OwnE.setOther (a := ⟨ab, 0, none⟩) h (by simp) _) (by simp) _
                  · exact (heap_setCell_other _ ⟨ab, 1, none⟩ (ab + 1) _ (fun e => by first | (simp at e; done) | omega)).trans ((heap_setCell_other _ ⟨ab, 0, none⟩ (ab + 1) _ (fun e => by first | (simp at e; done) | omega)).trans IT9.out)
                  · rw [HMX.out.1, HMX.out.2]; exact ⟨(World.cell?_setCell_other _ _ _ _ (by simp)).trans (World.cell?_setCell_same _ _ _ A9.out.1), World.cell?_setCell_same _ _ _ ((World.cell?_setCell_other _ _ _ _ (by simp)).trans A9.out.2)⟩
                  · exact (World.frozen?_setCell _ _ _ _).trans ((World.frozen?_setCell _ _ _ _).trans (AF9.out o))
                  · exact (BV9.out.setCell (p := ⟨ab, 0, none⟩) (Nat.le_refl _) _).setCell (p := ⟨ab, 1, none⟩) (Nat.le_refl _) _
                case measure => omega
              · have hz2 : 0 ≤ dn := by omega
                have hz3 : decide (0 ≤ dn) = true := decide_eq_true hz2
                go_wp2
                go_roundg (gk - 1)
                case rel =>
                  refine ⟨i + 1, A4, n4, c4, by omega, rfl, ?_, ?_, ?_, fun o => ?_, ?_⟩
                  · rw [HSUU.out, if_neg (by simp; omega)]; exact OwnE.setOther (a := ⟨ab, 1, none⟩) (OwnE.setOther (a := ⟨ab, 0, none⟩) OWZ.out (by simp) _) (by simp) _
                  · exact (heap_setCell_other _ ⟨ab, 1, none⟩ (ab + 1) _ (fun e => by first | (simp at e; done) | omega)).trans ((heap_setCell_other _ ⟨ab, 0, none⟩ (ab + 1) _ (fun e => by first | (simp at e; done) | omega)).trans ITZ.out)
                  · rw [HMX.out.1, HMX.out.2]; exact ⟨(World.cell?_setCell_other _ _ _ _ (by simp)).trans (World.cell?_setCell_same _ _ _ AZ.out.1), World.cell?_setCell_same _ _ _ ((World.cell?_setCell_other _ _ _ _ (by simp)).trans AZ.out.2)⟩
                  · exact (World.frozen?_setCell _ _ _ _).trans ((World.frozen?_setCell _ _ _ _).trans (AFZ.out o))
                  · exact (BVZ.out.setCell (p := ⟨ab, 0, none⟩) (Nat.le_refl _) _).setCell (p := ⟨ab, 1, none⟩) (Nat.le_refl _) _
                case measure => omega
          · go_simp
            (refine hK.out _ _ (s10 SS.out (Below.alloc (Below.drew (Below.refl V8.heap.size V8)) (Below.size (Below.drew (Below.refl V8.heap.size V8))) _)) (fun hHeld => ?_); clear hK K'; try simp only [Act.put, List.setIfInBounds_toArray, List.set_cons_zero, List.set_cons_succ])
            refine wpAnyH_ready (rs := [2]) (by kernel_rfl) (by simp) (AllReadyH.cons (by first | (simp only [List.getElem?_toArray, List.getElem?_cons_succ, List.getElem?_cons_zero]; exact rfl) | rfl) (fun K' hK => ?_) AllReadyH.nil)
            go_simp
            (go_at_call 36; refine (HCL.out _ (BW8.out.trans (Below.mono (Below.alloc (Below.drew (Below.refl V8.heap.size V8)) (Below.size (Below.drew (Below.refl V8.heap.size V8))) _) BW8.out.size)) _ _ _).mono ?_; rintro e w3 ⟨v5, rfl, ho5, hb5⟩; have h3 := Below.trans (Below.alloc (Below.drew (Below.refl V8.heap.size V8)) (Below.size (Below.drew (Below.refl V8.heap.size V8))) _) (hb5.mono (Below.size (Below.alloc (Below.drew (Below.refl V8.heap.size V8)) (Below.size (Below.drew (Below.refl V8.heap.size V8))) _))); have r0 := cell_k2 hb5 (show (V8.drew.alloc (.cells #[.int .i64 0, .int .i64 0] 71)).cell? ⟨V8.heap.size, 0, none⟩ = some (.int .i64 0) by simp [go_sem]); have r1 := cell_k2 hb5 (show (V8.drew.alloc (.cells #[.int .i64 0, .int .i64 0] 71)).cell? ⟨V8.heap.size, 1, none⟩ = some (.int .i64 0) by simp [go_sem]); have rz : ∀ o, w3.frozen? ⟨V8.heap.size, o, none⟩ = false := (fun o => (hb5.frozen (p := ⟨V8.heap.size, o, none⟩) (by simp)).trans (by simp [go_sem])))
            (refine hK.out _ _ (s10 SS.out h3) (fun hHeld => ?_); clear hK K'; try simp only [Act.put, List.setIfInBounds_toArray, List.set_cons_zero, List.set_cons_succ])
            refine wpAnyH_ready (rs := [4]) (by kernel_rfl) (by simp) (AllReadyH.cons (by first | (simp only [List.getElem?_toArray, List.getElem?_cons_succ, List.getElem?_cons_zero]; exact rfl) | rfl) (fun K' hK => ?_) AllReadyH.nil)
            go_simp
            (go_at_call 44; refine (HRF.out _ _ _ _ HUPP.out ho5).mono ?_; rintro e w4 ⟨bm, nm, D, rfl, hown, hM, hb4⟩; have h4 := Below.trans (h3) (hb4.mono (Below.size (h3))); have hk1 := HLK1.out _ bm nm D hown hM w4 (Gr.refl _); have hk2 := HLK1.out _ bm nm D hown hM (w4.alloc (.cells #[.int .i64 0, .int .i64 0] 71)) (Gr.alloc (Gr.refl _) _); have s0' := cell_k2 hb4 r0; have s1' := cell_k2 hb4 r1; have sz' : ∀ o, w4.frozen? ⟨V8.heap.size, o, none⟩ = false := (fun o => (hb4.frozen (p := ⟨V8.heap.size, o, none⟩) (show V8.heap.size < w3.heap.size from World.block_lt_of_cell? _ _ r0)).trans (rz o)))
            (refine hK.out _ _ (s10 SS.out h4) (fun hHeld => ?_); clear hK K'; try simp only [Act.put, List.setIfInBounds_toArray, List.set_cons_zero, List.set_cons_succ])
            refine wpAnyH_ready (rs := [6]) (by kernel_rfl) (by simp) (AllReadyH.cons (by first | (simp only [List.getElem?_toArray, List.getElem?_cons_succ, List.getElem?_cons_zero]; exact rfl) | rfl) (fun K' hK => ?_) AllReadyH.nil)
            go_simp
            (refine hK.out _ _ (s10 SS.out (h4)) (fun hHeld => ?_); clear hK K'; try simp only [Act.put, List.setIfInBounds_toArray, List.set_cons_zero, List.set_cons_succ])
            (refine wpAnyH_take (i := 7) (v := ?_) (by simp only [List.getElem?_toArray, List.getElem?_cons_succ, List.getElem?_cons_zero]; exact rfl) (by kernel_rfl) (by kernel_rfl) (by kernel_rfl) (by intro _ _ _ h; exact h) (Or.inl ⟨by rfl, ?_⟩) (by assumption) ?_; rotate_left; (focus (intro w' hSw; (try dsimp only at hSw); go_simp; (try with_reducible rfl))); try simp only [Act.put, List.setIfInBounds_toArray, List.set_cons_zero, List.set_cons_succ])
            (refine wpAnyH_take (i := 8) (v := ?_) (by simp only [List.getElem?_toArray, List.getElem?_cons_succ, List.getElem?_cons_zero]; exact rfl) (by kernel_rfl) (by kernel_rfl) (by kernel_rfl) (by intro _ _ _ h; exact h) (Or.inl ⟨by rfl, ?_⟩) (by assumption) ?_; rotate_left; (focus (intro w' hSw; (try dsimp only at hSw); go_simp; (try with_reducible rfl))); try simp only [Act.put, List.setIfInBounds_toArray, List.set_cons_zero, List.set_cons_succ])
            (refine wpAnyH_take (i := 9) (v := ?_) (by simp only [List.getElem?_toArray, List.getElem?_cons_succ, List.getElem?_cons_zero]; exact rfl) (by kernel_rfl) (by kernel_rfl) (by kernel_rfl) (by intro _ _ _ h; exact h) (Or.inl ⟨by rfl, ?_⟩) (by assumption) ?_; rotate_left; (focus (intro w' hSw; (try dsimp only at hSw); go_simp; (try with_reducible rfl))); try simp only [Act.put, List.setIfInBounds_toArray, List.set_cons_zero, List.set_cons_succ])
            refine wpAnyH_ready (rs := [11]) (by kernel_rfl) (by simp) (AllReadyH.cons (by first | (simp only [List.getElem?_toArray, List.getElem?_cons_succ, List.getElem?_cons_zero]; exact rfl) | rfl) (fun K' hK => ?_) AllReadyH.nil)
            go_simp
            (refine hK.out _ _ (s10 SS.out ((h4.setCell (Nat.le_refl _) _).setCell (Nat.le_refl _) _)) (fun hHeld => ?_); clear hK K'; try simp only [Act.put, List.setIfInBounds_toArray, List.set_cons_zero, List.set_cons_succ])
            refine wpAnyH_ready (rs := [12]) (by kernel_rfl) (by simp) (AllReadyH.cons (by first | (simp only [List.getElem?_toArray, List.getElem?_cons_succ, List.getElem?_cons_zero]; exact rfl) | rfl) (fun K' hK => ?_) AllReadyH.nil)
            go_simp
            (refine hK.out _ _ (s10 SS.out ((h4.setCell (Nat.le_refl _) _).setCell (Nat.le_refl _) _)) (fun hHeld => ?_); clear hK K'; try simp only [Act.put, List.setIfInBounds_toArray, List.set_cons_zero, List.set_cons_succ])
            refine wpAnyH_done (by kernel_rfl) ?_ _
            go_upto_region 13 with fail
            obtain ⟨Wz, hWz⟩ : ∃ Wz, (w4.setCell ⟨V8.heap.size, 0, none⟩ (.int .i64 (if 0 ≤ dn then dn else 0))).setCell ⟨V8.heap.size, 1, none⟩ (.int .i64 (if 0 ≤ dn then g (fin (nbC Wn Hn (ins ps (p, q, t))) (Wn * Hn) s0) t0 else 0)) = Wz := ⟨_, rfl⟩
            rw [hWz]
            have BZ : Below V8.heap.size V8 Wz := by rw [← hWz]; exact (h4.setCell (Nat.le_refl _) _).setCell (Nat.le_refl _) _
            have zz8 := BZ.size
            have zz2 : ab + 2 ≤ Wz.heap.size := by omega
            have NZ := Lib.hid (NXT.out.bel BZ NXT.out.lt)
            have AZ := Lib.hid (AT8.out.bel BZ AT8.out.lt)
            have AFZ := Lib.hid (fun o => (BZ.frozen (p := ⟨ab, o, none⟩) AT8.out.lt).trans (AF8.out o))
            have ITZ := Lib.hid ((BZ.block (ab + 1) z8).trans IT8.out)
            have OWZ := Lib.hid (OwnE.below OW8.out BZ (Nat.le_refl _))
            have BVZ := Lib.hid (BV8.out.trans (BZ.mono (by omega)))
            obtain ⟨b0, b1, b2⟩ := (show Wz.cell? ⟨kb, 0, none⟩ = some (.int .i64 p) ∧ Wz.cell? ⟨kb, 1, none⟩ = some (.int .i64 q) ∧ Wz.cell? ⟨kb, 2, none⟩ = some (.bool t) from ⟨cell_k2 BZ BLK.out.1, cell_k2 BZ BLK.out.2.1, cell_k2 BZ BLK.out.2.2⟩)
            obtain ⟨n0, n1⟩ := NZ.out
            obtain ⟨a0, a1⟩ := AZ.out
            have af0 := AFZ.out 0
            have af1 := AFZ.out 1
            clear hWz BZ h3 h4 hk1 hk2 hown hM hb4 hb5 ho5
            by_cases hz : dn < 0
            · have hz2 : ¬ (0 ≤ dn) := by omega
              have hz3 : decide (0 ≤ dn) = false := decide_eq_false hz2
              go_wp2_with (first | (at_builtin; refine wpList_appE bcs_len bcs_one rfl _ _ 28 rfl 34 Try.underlying28 Try.infoB rfl (by decide) (by decide) (ab + 2) _ _ rfl (OwnE.gr OWZ.out (Gr.alloc (Gr.refl _) _)) ⟨Wz.heap.size, 0, none⟩ 1 1 [(p, q, t)] rfl rfl (fun j u hu => alloc_cells (by simpa [ecs, bcs] using hu)) HLEN.out (by simp) (by simp; omega) ?_; intro v7 w9 ho7 hb7 gb7 _; obtain ⟨A7, c7, rfl, ho7⟩ := OwnE.eta ho7; have N9 := Lib.hid (show Tw w9 nb _ _ from ⟨gb7.cell ((Gr.alloc (Gr.refl _) _).keep0 NZ.out.1) HNB.out, gb7.cell ((Gr.alloc (Gr.refl _) _).keep0 NZ.out.2) HNB.out⟩); obtain ⟨n0, n1⟩ := N9.out; have G9 := ((Gr.alloc (Gr.refl Wz) (.cells #[.int .i64 p, .int .i64 q, .bool t] 34)).below.mono zz2).trans hb7; have A9 := Lib.hid (AZ.out.bel G9 (by omega)); have AF9 := Lib.hid (fun o => (G9.frozen (p := ⟨ab, o, none⟩) (by show ab < ab + 2; omega)).trans (AFZ.out o)); have IT9 := Lib.hid ((G9.block (ab + 1) (by omega)).trans ITZ.out); have BV9 := Lib.hid (BVZ.out.trans (G9.mono (by omega))); have OW9 := Lib.hid ho7; obtain ⟨a0, a1⟩ := A9.out; have af0 := AF9.out 0; have af1 := AF9.out 1; have zn9 := World.block_lt_of_cell? _ _ n0; clear ho7 hb7 gb7 G9))
              go_roundg (gk - 1)
              case rel =>
                refine ⟨i + 1, A7, _, c7, by omega, rfl, ?_, ?_, ?_, fun o => ?_, ?_⟩
                · rw [HSUU.out, if_pos (decide_eq_true hz)]; have h := OW9.out; simp only [List.length_append, List.length_cons, List.length_nil, Nat.zero_add] at h; exact OwnE.setOther (a := ⟨ab, 1, none⟩) (OwnE.setOther (a := ⟨ab, 0, none⟩) h (by simp) _) (by simp) _
                · exact (heap_setCell_other _ ⟨ab, 1, none⟩ (ab + 1) _ (fun e => by first | (simp at e; done) | omega)).trans ((heap_setCell_other _ ⟨ab, 0, none⟩ (ab + 1) _ (fun e => by first | (simp at e; done) | omega)).trans IT9.out)
                · rw [HMX.out.1, HMX.out.2]; exact ⟨(World.cell?_setCell_other _ _ _ _ (by simp)).trans (World.cell?_setCell_same _ _ _ A9.out.1), World.cell?_setCell_same _ _ _ ((World.cell?_setCell_other _ _ _ _ (by simp)).trans A9.out.2)⟩
                · exact (World.frozen?_setCell _ _ _ _).trans ((World.frozen?_setCell _ _ _ _).trans (AF9.out o))
                · exact (BV9.out.setCell (p := ⟨ab, 0, none⟩) (Nat.le_refl _) _).setCell (p := ⟨ab, 1, none⟩) (Nat.le_refl _) _
              case measure => omega
            · have hz2 : 0 ≤ dn := by omega
              have hz3 : decide (0 ≤ dn) = true := decide_eq_true hz2
              go_wp2
              go_roundg (gk - 1)
              case rel =>
                refine ⟨i + 1, A4, n4, c4, by omega, rfl, ?_, ?_, ?_, fun o => ?_, ?_⟩
                · rw [HSUU.out, if_neg (by simp; omega)]; exact OwnE.setOther (a := ⟨ab, 1, none⟩) (OwnE.setOther (a := ⟨ab, 0, none⟩) OWZ.out (by simp) _) (by simp) _
                · exact (heap_setCell_other _ ⟨ab, 1, none⟩ (ab + 1) _ (fun e => by first | (simp at e; done) | omega)).trans ((heap_setCell_other _ ⟨ab, 0, none⟩ (ab + 1) _ (fun e => by first | (simp at e; done) | omega)).trans ITZ.out)
                · rw [HMX.out.1, HMX.out.2]; exact ⟨(World.cell?_setCell_other _ _ _ _ (by simp)).trans (World.cell?_setCell_same _ _ _ AZ.out.1), World.cell?_setCell_same _ _ _ ((World.cell?_setCell_other _ _ _ _ (by simp)).trans AZ.out.2)⟩
                · exact (World.frozen?_setCell _ _ _ _).trans ((World.frozen?_setCell _ _ _ _).trans (AFZ.out o))
                · exact (BVZ.out.setCell (p := ⟨ab, 0, none⟩) (Nat.le_refl _) _).setCell (p := ⟨ab, 1, none⟩) (Nat.le_refl _) _
              case measure => omega
        · obtain rfl : i = d := by omega
          have hnx : ∀ ty, (Instr.next (.pointer (some ⟨ab + 1, 0, none⟩)) true ty).run Try.prog wr = .ok (.tuple #[.bool false]) wr := fun ty => Go.Lib.run_next_end_at (P := Try.prog) wr (ab + 1) word i ty hit (by rw [HWZ.out]; exact Nat.lt_irrefl _)
          have OWE := Lib.hid ho
          have HLE := Lib.hid (show (pTo Wn Hn ps s0 t0 i).length ≤ 1000000 by have := HSR.out i; omega)
          have zit : ab + 1 < wr.heap.size := (Array.getElem?_eq_some_iff.1 hit).1
          have BVE := Lib.hid (BV.out.trans (hb.mono (by omega)))
          clear ho hb hat haf
          go_wp2_with (first | (go_at_call 45; refine (Try.sortB wr (ab + 2) _ _ (by omega) HLE.out OWE.out).mono ?_; rintro e w5 ⟨rfl, ho5, hb5⟩))
          go_ret2
          exact ⟨_, rfl, OwnE.mono ho5 (by omega), BVE.out.trans (hb5.mono (by omega))⟩
    · go_simp
      (refine hK.out _ _ (q4 LL.out (show Gr w1 _ from (by repeat (first | exact Gr.refl _ | refine Gr.alloc ?_ _ | refine Gr.trans ?_ (by assumption) | refine Gr.drew ?_ | refine Gr.drewN ?_ _ | refine Gr.grow ?_ _ | refine Gr.setCell ?_ (by (try simp); (try omega)) _))).below) (fun hHeld => ?_); clear hK K'; try simp only [Act.put, List.setIfInBounds_toArray, List.set_cons_zero, List.set_cons_succ])
      refine wpAnyH_ready (rs := [6]) (by kernel_rfl) (by simp) (AllReadyH.cons (by first | (simp only [List.getElem?_toArray, List.getElem?_cons_succ, List.getElem?_cons_zero]; exact rfl) | rfl) (fun K' hK => ?_) AllReadyH.nil)
      go_simp
      (refine hK.out _ _ (q4 LL.out (show Gr w1 _ from (by repeat (first | exact Gr.refl _ | refine Gr.alloc ?_ _ | refine Gr.trans ?_ (by assumption) | refine Gr.drew ?_ | refine Gr.drewN ?_ _ | refine Gr.grow ?_ _ | refine Gr.setCell ?_ (by (try simp); (try omega)) _))).below) (fun hHeld => ?_); clear hK K'; try simp only [Act.put, List.setIfInBounds_toArray, List.set_cons_zero, List.set_cons_succ])
      refine wpAnyH_ready (rs := [8]) (by kernel_rfl) (by simp) (AllReadyH.cons (by first | (simp only [List.getElem?_toArray, List.getElem?_cons_succ, List.getElem?_cons_zero]; exact rfl) | rfl) (fun K' hK => ?_) AllReadyH.nil)
      go_simp
      (refine hK.out _ _ (q4 LL.out (show Gr w1 _ from (by repeat (first | exact Gr.refl _ | refine Gr.alloc ?_ _ | refine Gr.trans ?_ (by assumption) | refine Gr.drew ?_ | refine Gr.drewN ?_ _ | refine Gr.grow ?_ _ | refine Gr.setCell ?_ (by (try simp); (try omega)) _))).below) (fun hHeld => ?_); clear hK K'; try simp only [Act.put, List.setIfInBounds_toArray, List.set_cons_zero, List.set_cons_succ])
      refine wpAnyH_ready (rs := [9]) (by kernel_rfl) (by simp) (AllReadyH.cons (by first | (simp only [List.getElem?_toArray, List.getElem?_cons_succ, List.getElem?_cons_zero]; exact rfl) | rfl) (fun K' hK => ?_) AllReadyH.nil)
      go_simp
      (refine hK.out _ _ (q4 LL.out (show Gr w1 _ from (by repeat (first | exact Gr.refl _ | refine Gr.alloc ?_ _ | refine Gr.trans ?_ (by assumption) | refine Gr.drew ?_ | refine Gr.drewN ?_ _ | refine Gr.grow ?_ _ | refine Gr.setCell ?_ (by (try simp); (try omega)) _))).below) (fun hHeld => ?_); clear hK K'; try simp only [Act.put, List.setIfInBounds_toArray, List.set_cons_zero, List.set_cons_succ])
      refine wpAnyH_done (by kernel_rfl) ?_ _
      go_upto_region 5 with fail
      obtain ⟨V, hV⟩ : ∃ V, ((w1.alloc (.cells #[.int .i64 (crn Hn t0).1, .int .i64 (crn Hn t0).2] 66)).alloc (.cells #[.int .i64 (crn Hn s0).1, .int .i64 (crn Hn s0).2] 66)).drew = V := ⟨_, rfl⟩
      rw [hV]
      have gV : Gr w1 V := by rw [← hV]; exact Gr.drew (Gr.alloc (Gr.alloc (Gr.refl _) _) _)
      obtain ⟨fb, hfb⟩ : ∃ fb, w1.heap.size + 1 = fb := ⟨_, rfl⟩
      obtain ⟨tb, htb⟩ : ∃ tb, w1.heap.size = tb := ⟨_, rfl⟩
      have FB := Lib.hid (show Tw V fb (.int .i64 (crn Hn s0).1) (.int .i64 (crn Hn s0).2) from by rw [← hV, ← hfb]; exact ⟨by simp [go_sem], by simp [go_sem]⟩)
      have TB := Lib.hid (show Tw V tb (.int .i64 (crn Hn t0).1) (.int .i64 (crn Hn t0).2) from by rw [← hV, ← htb]; exact ⟨by simp [go_sem], by simp [go_sem]⟩)
      have CB := Lib.hid (KC.out.gr gV)
      have BV := Lib.hid (BW.out.trans (gV.below.mono BW.out.size))
      rw [hfb, htb]
      have hbV : Below w.heap.size w V := BV.out
      have kf0 := FB.out.1
      have kf1 := FB.out.2
      have zfV := FB.out.lt
      have ztV := TB.out.lt
      have zwV := CB.out.lt
      clear hV gV KC BW hfb htb hbV LL
      go_wp2_with fail
      obtain ⟨wo, hwo⟩ : ∃ wo, V.alloc (.cells #[.int .i64 (crn Hn s0).1, .int .i64 (crn Hn s0).2] 66) = wo := ⟨_, rfl⟩
      rw [hwo]
      have hws : wo.heap.size = V.heap.size + 1 := by rw [← hwo]; simp
      have gwo : Gr V wo := by rw [← hwo]; exact Gr.alloc (Gr.refl _) _
      have A0 : Tw wo V.heap.size (.int .i64 (crn Hn s0).1) (.int .i64 (crn Hn s0).2) := by rw [← hwo]; exact ⟨by simp [go_sem], by simp [go_sem]⟩
      have A0f : ∀ o, wo.frozen? ⟨V.heap.size, o, none⟩ = false := fun o => by rw [← hwo]; simp [go_sem]
      clear hwo
      generalize hab : V.heap.size = ab at *
      have GI : Gr wo (wo.iter word 0) := Gr.alloc (Gr.refl _) _
      have BI := Lib.hid (show Below ab V (wo.iter word 0) from by rw [← hab]; exact (gwo.trans GI).below)
      have hih : (wo.iter word 0).heap[ab + 1]? = some (.stringIter word 0) := by rw [← hws]; exact World.iter_heap wo word 0
      have A1 := A0.gr GI
      have A1f : ∀ o, (wo.iter word 0).frozen? ⟨ab, o, none⟩ = false := fun o => ((bcell GI.below).2 _ _ (by omega)).trans (A0f o)
      have HAB := Lib.hid hab
      clear hab gwo A0 A0f GI kf0 kf1
      go_loopg [12, 15, 16, 17, 18, 19, 20] d (fun gk nv _ _ _ _ _ _ wr => ∃ (i : Nat) (A4 : Option Addr) (n4 c4 : Nat), i + gk = d ∧ nv = .slice A4 n4 c4 ∧ OwnB wr (ab + 2) (.slice A4 n4 c4) (pTo Wn Hn ps s0 t0 i) ∧ wr.heap[ab + 1]? = some (.stringIter word i) ∧ Tw wr ab (.int .i64 (crn Hn (psW Wn Hn ps s0 t0 i)).1) (.int .i64 (crn Hn (psW Wn Hn ps s0 t0 i)).2) ∧ (∀ o, wr.frozen? ⟨ab, o, none⟩ = false) ∧ Below ab V wr)
      case atStart => exact ⟨0, none, 0, 0, by omega, rfl, OwnE.nil _ _ _ _ _, hih, by rw [HS0.out]; exact A1, A1f, BI.out⟩
      case round =>
        obtain ⟨i, A4, n4, c4, hig, rfl, ho, hit, hat, haf, hb⟩ := hrel
        by_cases hi : i < d
        · have hwz : i < word.size := by rw [HWZ.out]; exact hi
          obtain ⟨j4, hnb, _⟩ := HWS.out i hi
          have hb0 : word[i] = sgU (jsW Wn Hn ps s0 t0 i) := by rw [HAT.out i hwz, HGD.out i hi]
          have hnx : ∀ ty, (Instr.next (.pointer (some ⟨ab + 1, 0, none⟩)) true ty).run Try.prog wr = .ok (.tuple #[.bool true, .int .i64 i, .int .i32 (sgn (jsW Wn Hn ps s0 t0 i))]) (wr.iterAt (ab + 1) word (i + 1)) := fun ty => by
            have := Go.Lib.run_next_ascii_at (P := Try.prog) wr (ab + 1) word i ty hit hwz (by rw [hb0]; exact (sgU_sgn j4).2)
            rw [this, hb0]
            exact congrArg (fun z => Result.ok (Value.tuple #[.bool true, .int .i64 i, .int .i32 z]) (wr.iterAt (ab + 1) word (i + 1))) (sgU_sgn j4).1
          obtain ⟨wi, hwi⟩ : ∃ wi, wr.iterAt (ab + 1) word (i + 1) = wi := ⟨_, rfl⟩
          have hitw : wi.heap[ab + 1]? = some (.stringIter word (i + 1)) := by rw [← hwi]; exact Go.Lib.iterAt_heap wr _ word i (i + 1) hit
          have hgi : wr.grownBy wi (some (ab + 1)) := by rw [← hwi]; exact iter_grown
          have hbi : Below ab V wi := by rw [← hwi]; exact Go.Lib.below_iterAt hb (by omega) _ _
          rw [hwi] at hnx
          have IT := Lib.hid hitw
          have AT : Tw wi ab (.int .i64 (crn Hn (psW Wn Hn ps s0 t0 i)).1) (.int .i64 (crn Hn (psW Wn Hn ps s0 t0 i)).2) := ⟨hgi.cell hat.1 (by simp), hgi.cell hat.2 (by simp)⟩
          have ATF := Lib.hid (fun o => (World.frozen?_of_block (a := ⟨ab, o, none⟩) (hgi.block ab hat.lt (by simp))).trans (haf o))
          have OW := Lib.hid (OwnE.grown ho hgi (.inr (fun e => by have := (World.ownsRow.lt ho (ab + 1) e).1; omega)))
          have BVI := Lib.hid hbi
          have BWI := Lib.hid (BV.out.trans (hbi.mono (by omega)))
          obtain ⟨e4, eu, em, ec, eb, en⟩ := nb_edge hnb
          have hstp : stp Wn Hn ps (((psW Wn Hn ps s0 t0 i / Hn : Nat) : Int), ((psW Wn Hn ps s0 t0 i % Hn : Nat) : Int)) (jsW Wn Hn ps s0 t0 i) = true := by
            cases hs : stp Wn Hn ps (((psW Wn Hn ps s0 t0 i / Hn : Nat) : Int), ((psW Wn Hn ps s0 t0 i % Hn : Nat) : Int)) (jsW Wn Hn ps s0 t0 i)
            · rw [nb_none hs] at hnb; cases hnb
            · rfl
          have HSTEP := Lib.hid (show ∀ (X : World), Gr wi X → Calls Try.prog 42 #[.agg #[.int .i64 Wn, .int .i64 Hn, .slice A ps.length c], .agg #[.int .i64 (crn Hn (psW Wn Hn ps s0 t0 i)).1, .int .i64 (crn Hn (psW Wn Hn ps s0 t0 i)).2], .int .i32 (sgn (jsW Wn Hn ps s0 t0 i))] X fun e w' => e = .returned (.tuple #[.agg #[.int .i64 (crn Hn (psW Wn Hn ps s0 t0 (i + 1))).1, .int .i64 (crn Hn (psW Wn Hn ps s0 t0 (i + 1))).2], .bool true]) ∧ Gr X w' from fun X hX => by
            have q := HST.out X (BWI.out.trans (hX.below.mono BWI.out.size)) (psW Wn Hn ps s0 t0 i) (jsW Wn Hn ps s0 t0 i) j4 (HON.out _ eu)
            rw [itV_some hstp] at q
            rw [ec]
            exact q)
          obtain ⟨p, q, t, hbs⟩ : ∃ p q t, bsW Wn Hn ps s0 t0 i = (p, q, t) := ⟨_, _, _, rfl⟩
          have HBB := Lib.hid (fun (X : World) => Try.blockBetween X (crn Hn (psW Wn Hn ps s0 t0 i)).1 (crn Hn (psW Wn Hn ps s0 t0 i)).2 (crn Hn (psW Wn Hn ps s0 t0 (i + 1))).1 (crn Hn (psW Wn Hn ps s0 t0 (i + 1))).2 p q t hbs)
          have hsu := HSU.out i
          rw [hbs] at hsu
          have hbi2 := (HBI.out i hi).2
          rw [hbs] at hbi2
          have HUPP := Lib.hid (HUP.out (p, q, t) hbi2)
          have HLEN := Lib.hid (show (pTo Wn Hn ps s0 t0 i).length ≤ 1000000000 by have := HSR.out i; omega)
          obtain ⟨dn, hdn⟩ : ∃ dn, f (fin (nbC Wn Hn (ins ps (p, q, t))) (Wn * Hn) s0) t0 = dn := ⟨_, rfl⟩
          have hnl : nlB Wn Hn ps s0 t0 (p, q, t) = decide (dn < 0) := by rw [← hdn]; rfl
          rw [hnl] at hsu
          have HSUU := Lib.hid hsu
          have HLK1 := Lib.hid (fun (X : World) bm n D (hown : X.ownsMap Try.prog 66 rElem bm n D) hM (W' : World) (g : Gr X W') => HLK.out X (p, q, t) bm n D hown hM W' g)
          rw [hdn] at HLK1
          obtain ⟨sj, hsj⟩ : ∃ s, sgn (jsW Wn Hn ps s0 t0 i) = s := ⟨_, rfl⟩
          rw [hsj] at hnx HSTEP
          have HNEXT := Lib.hid (show ∃ mx my, (crn Hn (psW Wn Hn ps s0 t0 (i + 1))).1 = mx ∧ (crn Hn (psW Wn Hn ps s0 t0 (i + 1))).2 = my from ⟨_, _, rfl, rfl⟩)
          obtain ⟨mx, my, hmx, hmy⟩ := HNEXT.out
          rw [hmx, hmy] at HSTEP HBB
          have HMX := Lib.hid (And.intro hmx hmy)
          generalize (crn Hn (psW Wn Hn ps s0 t0 i)).1 = ux at *
          generalize (crn Hn (psW Wn Hn ps s0 t0 i)).2 = uy at *
          clear hat haf hb ho hit hwi hitw hgi hbi hb0 hnb hstp hbs hsu hbi2 hdn hnl hsj hmx hmy e4 eu em ec eb en j4 hwz
          have zab : ab < wi.heap.size := AT.lt
          obtain ⟨c0, c1, c2, cf⟩ := CB.out.bel BVI.out (by omega)
          obtain ⟨a0, a1⟩ := AT
          have HA := Lib.hid (And.intro a0 a1)
          go_upto_region 12 with (first | (go_at_call 42; refine (HSTEP.out _ (Gr.refl _)).mono ?_; rintro e w6 ⟨rfl, hg6⟩; obtain ⟨a0, a1⟩ := (show Tw wi ab _ _ from HA.out).gr hg6; have zab6 : ab < w6.heap.size := World.block_lt_of_cell? _ _ a0) | (go_at_call 43; refine (HBB.out _).mono ?_; rintro e w7 ⟨rfl, hg7⟩))
          have g68 : Gr wi (w6.alloc (.cells #[.int .i64 mx, .int .i64 my] 66)) := Gr.alloc hg6 _
          obtain ⟨V8, hV8⟩ : ∃ V8, w7.alloc (.cells #[.int .i64 p, .int .i64 q, .bool t] 34) = V8 := ⟨_, rfl⟩
          rw [hV8]
          have g78 : Gr w7 V8 := by rw [← hV8]; exact Gr.alloc (Gr.refl _) _
          have g8 : Gr wi V8 := (g68.trans hg7).trans g78
          have NXT := Lib.hid (show Tw V8 w6.heap.size (.int .i64 mx) (.int .i64 my) from Tw.gr (show Tw (w6.alloc (.cells #[.int .i64 mx, .int .i64 my] 66)) w6.heap.size _ _ from ⟨by simp [go_sem], by simp [go_sem]⟩) (hg7.trans g78))
          have BLK := Lib.hid (show V8.cell? ⟨w7.heap.size, 0, none⟩ = some (.int .i64 p) ∧ V8.cell? ⟨w7.heap.size, 1, none⟩ = some (.int .i64 q) ∧ V8.cell? ⟨w7.heap.size, 2, none⟩ = some (.bool t) from by rw [← hV8]; exact ⟨by simp [go_sem], by simp [go_sem], by simp [go_sem]⟩)
          have HNB0 : some w6.heap.size ≠ (Value.slice A4 n4 c4).ownBlock := fun e => by have h1 := (World.ownsRow.lt OW.out _ e.symm).2; have h2 := hg6.below.size; omega
          have HNB := Lib.hid HNB0
          clear HNB0
          generalize hnb : w6.heap.size = nb at *
          generalize hkb : w7.heap.size = kb at *
          have BV8 := Lib.hid (BVI.out.trans (g8.below.mono (by omega)))
          have BW8 := Lib.hid (BWI.out.trans (g8.below.mono BWI.out.size))
          have AT8 := Lib.hid ((show Tw wi ab _ _ from HA.out).gr g8)
          have AF8 := Lib.hid (fun o => (g8.below.frozen (p := ⟨ab, o, none⟩) zab).trans (ATF.out o))
          have IT8 := Lib.hid ((g8.below.block (ab + 1) (Array.getElem?_eq_some_iff.1 IT.out).1).trans IT.out)
          have OW8 := Lib.hid (OwnE.gr OW.out g8)
          have C8 := CB.out.bel BV8.out (by omega)
          have F8 := FB.out.bel BV8.out (by omega)
          have T8 := TB.out.bel BV8.out (by omega)
          have SS := Lib.hid (And.intro C8.1 (And.intro C8.2.1 (And.intro C8.2.2.1 (And.intro BLK.out.1 (And.intro BLK.out.2.1 (And.intro BLK.out.2.2 (And.intro F8.1 (And.intro F8.2 (And.intro T8.1 T8.2)))))))))
          have z8 : ab + 1 < V8.heap.size := (Array.getElem?_eq_some_iff.1 IT8.out).1
          clear hV8 g68 g78 g8 hg6 hg7 hnb hkb C8 F8 T8 c0 c1 c2 cf a0 a1 zab6 zab ATF IT OW BVI BWI HA HSTEP HBB HNEXT hnx
          refine wp_region_held_drew (S := fun W' => W'.cell? ⟨w.heap.size, 0, none⟩ = some (.int .i64 Wn) ∧ W'.cell? ⟨w.heap.size, 1, none⟩ = some (.int .i64 Hn) ∧ W'.cell? ⟨w.heap.size, 2, none⟩ = some (.slice A ps.length c) ∧ W'.cell? ⟨kb, 0, none⟩ = some (.int .i64 p) ∧ W'.cell? ⟨kb, 1, none⟩ = some (.int .i64 q) ∧ W'.cell? ⟨kb, 2, none⟩ = some (.bool t) ∧ W'.cell? ⟨fb, 0, none⟩ = some (.int .i64 (crn Hn s0).1) ∧ W'.cell? ⟨fb, 1, none⟩ = some (.int .i64 (crn Hn s0).2) ∧ W'.cell? ⟨tb, 0, none⟩ = some (.int .i64 (crn Hn t0).1) ∧ W'.cell? ⟨tb, 1, none⟩ = some (.int .i64 (crn Hn t0).2)) (by kernel_rfl) (s10 SS.out (Below.drew (Below.refl V8.heap.size V8))) (fun hHeld => ?_)
          (refine wpAnyH_take (i := 0) (v := ?_) (by simp only [List.getElem?_toArray, List.getElem?_cons_succ, List.getElem?_cons_zero]; exact rfl) (by kernel_rfl) (by kernel_rfl) (by kernel_rfl) (by intro _ _ _ h; exact h) (Or.inl ⟨by rfl, ?_⟩) (by assumption) ?_; rotate_left; (focus (intro w' hSw; (try dsimp only at hSw); go_simp; (try with_reducible rfl))); try simp only [Act.put, List.setIfInBounds_toArray, List.set_cons_zero, List.set_cons_succ])
          (refine wpAnyH_take (i := 1) (v := ?_) (by simp only [List.getElem?_toArray, List.getElem?_cons_succ, List.getElem?_cons_zero]; exact rfl) (by kernel_rfl) (by kernel_rfl) (by kernel_rfl) (by intro _ _ _ h; exact h) (Or.inl ⟨by rfl, ?_⟩) (by assumption) ?_; rotate_left; (focus (intro w' hSw; (try dsimp only at hSw); go_simp; (try with_reducible rfl))); try simp only [Act.put, List.setIfInBounds_toArray, List.set_cons_zero, List.set_cons_succ])
          (refine wpAnyH_take (i := 3) (v := ?_) (by simp only [List.getElem?_toArray, List.getElem?_cons_succ, List.getElem?_cons_zero]; exact rfl) (by kernel_rfl) (by kernel_rfl) (by kernel_rfl) (by intro _ _ _ h; exact h) (Or.inl ⟨by rfl, ?_⟩) (by assumption) ?_; rotate_left; (focus (intro w' hSw; (try dsimp only at hSw); go_simp; (try with_reducible rfl))); try simp only [Act.put, List.setIfInBounds_toArray, List.set_cons_zero, List.set_cons_succ])
          (refine wpAnyH_take (i := 5) (v := ?_) (by simp only [List.getElem?_toArray, List.getElem?_cons_succ, List.getElem?_cons_zero]; exact rfl) (by kernel_rfl) (by kernel_rfl) (by kernel_rfl) (by intro _ _ _ h; exact h) (Or.inl ⟨by rfl, ?_⟩) (by assumption) ?_; rotate_left; (focus (intro w' hSw; (try dsimp only at hSw); go_simp; (try with_reducible rfl))); try simp only [Act.put, List.setIfInBounds_toArray, List.set_cons_zero, List.set_cons_succ])
          refine wpAnyH_ready (rs := [2, 10]) (by kernel_rfl) (by simp) (AllReadyH.cons (by first | (simp only [List.getElem?_toArray, List.getElem?_cons_succ, List.getElem?_cons_zero]; exact rfl) | rfl) (fun K' hK => ?_) (AllReadyH.cons (by first | (simp only [List.getElem?_toArray, List.getElem?_cons_succ, List.getElem?_cons_zero]; exact rfl) | rfl) (fun K' hK => ?_) AllReadyH.nil))
          · go_simp
            (go_at_call 36; refine (HCL.out _ (BW8.out.trans (Below.mono (Below.drew (Below.refl V8.heap.size V8)) BW8.out.size)) _ _ _).mono ?_; rintro e w3 ⟨v5, rfl, ho5, hb5⟩; have h3 := Below.trans (Below.drew (Below.refl V8.heap.size V8)) (hb5.mono (Below.size (Below.drew (Below.refl V8.heap.size V8)))))
            (refine hK.out _ _ (s10 SS.out h3) (fun hHeld => ?_); clear hK K'; try simp only [Act.put, List.setIfInBounds_toArray, List.set_cons_zero, List.set_cons_succ])
            refine wpAnyH_ready (rs := [4, 10]) (by kernel_rfl) (by simp) (AllReadyH.cons (by first | (simp only [List.getElem?_toArray, List.getElem?_cons_succ, List.getElem?_cons_zero]; exact rfl) | rfl) (fun K' hK => ?_) (AllReadyH.cons (by first | (simp only [List.getElem?_toArray, List.getElem?_cons_succ, List.getElem?_cons_zero]; exact rfl) | rfl) (fun K' hK => ?_) AllReadyH.nil))
            · go_simp
              (go_at_call 44; refine (HRF.out _ _ _ _ HUPP.out ho5).mono ?_; rintro e w4 ⟨bm, nm, D, rfl, hown, hM, hb4⟩; have h4 := Below.trans (h3) (hb4.mono (Below.size (h3))); have hk1 := HLK1.out _ bm nm D hown hM w4 (Gr.refl _); have hk2 := HLK1.out _ bm nm D hown hM (w4.alloc (.cells #[.int .i64 0, .int .i64 0] 71)) (Gr.alloc (Gr.refl _) _))
              (refine hK.out _ _ (s10 SS.out h4) (fun hHeld => ?_); clear hK K'; try simp only [Act.put, List.setIfInBounds_toArray, List.set_cons_zero, List.set_cons_succ])
              refine wpAnyH_ready (rs := [6, 10]) (by kernel_rfl) (by simp) (AllReadyH.cons (by first | (simp only [List.getElem?_toArray, List.getElem?_cons_succ, List.getElem?_cons_zero]; exact rfl) | rfl) (fun K' hK => ?_) (AllReadyH.cons (by first | (simp only [List.getElem?_toArray, List.getElem?_cons_succ, List.getElem?_cons_zero]; exact rfl) | rfl) (fun K' hK => ?_) AllReadyH.nil))
              · go_simp
                (refine hK.out _ _ (s10 SS.out (h4)) (fun hHeld => ?_); clear hK K'; try simp only [Act.put, List.setIfInBounds_toArray, List.set_cons_zero, List.set_cons_succ])
                (refine wpAnyH_take (i := 7) (v := ?_) (by simp only [List.getElem?_toArray, List.getElem?_cons_succ, List.getElem?_cons_zero]; exact rfl) (by kernel_rfl) (by kernel_rfl) (by kernel_rfl) (by intro _ _ _ h; exact h) (Or.inl ⟨by rfl, ?_⟩) (by assumption) ?_; rotate_left; (focus (intro w' hSw; (try dsimp only at hSw); go_simp; (try with_reducible rfl))); try simp only [Act.put, List.setIfInBounds_toArray, List.set_cons_zero, List.set_cons_succ])
                (refine wpAnyH_take (i := 8) (v := ?_) (by simp only [List.getElem?_toArray, List.getElem?_cons_succ, List.getElem?_cons_zero]; exact rfl) (by kernel_rfl) (by kernel_rfl) (by kernel_rfl) (by intro _ _ _ h; exact h) (Or.inl ⟨by rfl, ?_⟩) (by assumption) ?_; rotate_left; (focus (intro w' hSw; (try dsimp only at hSw); go_simp; (try with_reducible rfl))); try simp only [Act.put, List.setIfInBounds_toArray, List.set_cons_zero, List.set_cons_succ])
                (refine wpAnyH_take (i := 9) (v := ?_) (by simp only [List.getElem?_toArray, List.getElem?_cons_succ, List.getElem?_cons_zero]; exact rfl) (by kernel_rfl) (by kernel_rfl) (by kernel_rfl) (by intro _ _ _ h; exact h) (Or.inl ⟨by rfl, ?_⟩) (by assumption) ?_; rotate_left; (focus (intro w' hSw; (try dsimp only at hSw); go_simp; (try with_reducible rfl))); try simp only [Act.put, List.setIfInBounds_toArray, List.set_cons_zero, List.set_cons_succ])
                refine wpAnyH_ready (rs := [10]) (by kernel_rfl) (by simp) (AllReadyH.cons (by first | (simp only [List.getElem?_toArray, List.getElem?_cons_succ, List.getElem?_cons_zero]; exact rfl) | rfl) (fun K' hK => ?_) AllReadyH.nil)
                go_simp
                (refine hK.out _ _ (s10 SS.out (Below.alloc (h4) (Below.size (h4)) _)) (fun hHeld => ?_); clear hK K'; try simp only [Act.put, List.setIfInBounds_toArray, List.set_cons_zero, List.set_cons_succ])
                refine wpAnyH_ready (rs := [11]) (by kernel_rfl) (by simp) (AllReadyH.cons (by first | (simp only [List.getElem?_toArray, List.getElem?_cons_succ, List.getElem?_cons_zero]; exact rfl) | rfl) (fun K' hK => ?_) AllReadyH.nil)
                go_simp
                (refine hK.out _ _ (s10 SS.out (Below.alloc h4 h4.size _)) (fun hHeld => ?_); clear hK K'; try simp only [Act.put, List.setIfInBounds_toArray, List.set_cons_zero, List.set_cons_succ])
                refine wpAnyH_ready (rs := [12]) (by kernel_rfl) (by simp) (AllReadyH.cons (by first | (simp only [List.getElem?_toArray, List.getElem?_cons_succ, List.getElem?_cons_zero]; exact rfl) | rfl) (fun K' hK => ?_) AllReadyH.nil)
                go_simp
                (refine hK.out _ _ (s10 SS.out (Below.alloc h4 h4.size _)) (fun hHeld => ?_); clear hK K'; try simp only [Act.put, List.setIfInBounds_toArray, List.set_cons_zero, List.set_cons_succ])
                refine wpAnyH_done (by kernel_rfl) ?_ _
                go_upto_region 13 with fail
                obtain ⟨Wz, hWz⟩ : ∃ Wz, w4.alloc (.cells #[.int .i64 (if 0 ≤ dn then dn else 0), .int .i64 (if 0 ≤ dn then g (fin (nbC Wn Hn (ins ps (p, q, t))) (Wn * Hn) s0) t0 else 0)] 71) = Wz := ⟨_, rfl⟩
                rw [hWz]
                have BZ : Below V8.heap.size V8 Wz := by rw [← hWz]; exact Below.alloc h4 h4.size _
                have zz8 := BZ.size
                have zz2 : ab + 2 ≤ Wz.heap.size := by omega
                have NZ := Lib.hid (NXT.out.bel BZ NXT.out.lt)
                have AZ := Lib.hid (AT8.out.bel BZ AT8.out.lt)
                have AFZ := Lib.hid (fun o => (BZ.frozen (p := ⟨ab, o, none⟩) AT8.out.lt).trans (AF8.out o))
                have ITZ := Lib.hid ((BZ.block (ab + 1) z8).trans IT8.out)
                have OWZ := Lib.hid (OwnE.below OW8.out BZ (Nat.le_refl _))
                have BVZ := Lib.hid (BV8.out.trans (BZ.mono (by omega)))
                obtain ⟨b0, b1, b2⟩ := (show Wz.cell? ⟨kb, 0, none⟩ = some (.int .i64 p) ∧ Wz.cell? ⟨kb, 1, none⟩ = some (.int .i64 q) ∧ Wz.cell? ⟨kb, 2, none⟩ = some (.bool t) from ⟨cell_k2 BZ BLK.out.1, cell_k2 BZ BLK.out.2.1, cell_k2 BZ BLK.out.2.2⟩)
                obtain ⟨n0, n1⟩ := NZ.out
                obtain ⟨a0, a1⟩ := AZ.out
                have af0 := AFZ.out 0
                have af1 := AFZ.out 1
                clear hWz BZ h3 h4 hk1 hk2 hown hM hb4 hb5 ho5
                by_cases hz : dn < 0
                · have hz2 : ¬ (0 ≤ dn) := by omega
                  have hz3 : decide (0 ≤ dn) = false := decide_eq_false hz2
                  go_wp2_with (first | (at_builtin; refine wpList_appE bcs_len bcs_one rfl _ _ 28 rfl 34 Try.underlying28 Try.infoB rfl (by decide) (by decide) (ab + 2) _ _ rfl (OwnE.gr OWZ.out (Gr.alloc (Gr.refl _) _)) ⟨Wz.heap.size, 0, none⟩ 1 1 [(p, q, t)] rfl rfl (fun j u hu => alloc_cells (by simpa [ecs, bcs] using hu)) HLEN.out (by simp) (by simp; omega) ?_; intro v7 w9 ho7 hb7 gb7 _; obtain ⟨A7, c7, rfl, ho7⟩ := OwnE.eta ho7; have N9 := Lib.hid (show Tw w9 nb _ _ from ⟨gb7.cell ((Gr.alloc (Gr.refl _) _).keep0 NZ.out.1) HNB.out, gb7.cell ((Gr.alloc (Gr.refl _) _).keep0 NZ.out.2) HNB.out⟩); obtain ⟨n0, n1⟩ := N9.out; have G9 := ((Gr.alloc (Gr.refl Wz) (.cells #[.int .i64 p, .int .i64 q, .bool t] 34)).below.mono zz2).trans hb7; have A9 := Lib.hid (AZ.out.bel G9 (by omega)); have AF9 := Lib.hid (fun o => (G9.frozen (p := ⟨ab, o, none⟩) (by show ab < ab + 2; omega)).trans (AFZ.out o)); have IT9 := Lib.hid ((G9.block (ab + 1) (by omega)).trans ITZ.out); have BV9 := Lib.hid (BVZ.out.trans (G9.mono (by omega))); have OW9 := Lib.hid ho7; obtain ⟨a0, a1⟩ := A9.out; have af0 := AF9.out 0; have af1 := AF9.out 1; have zn9 := World.block_lt_of_cell? _ _ n0; clear ho7 hb7 gb7 G9))
                  go_roundg (gk - 1)
                  case rel =>
                    refine ⟨i + 1, A7, _, c7, by omega, rfl, ?_, ?_, ?_, fun o => ?_, ?_⟩
                    · rw [HSUU.out, if_pos (decide_eq_true hz)]; have h := OW9.out; simp only [List.length_append, List.length_cons, List.length_nil, Nat.zero_add] at h; exact OwnE.setOther (a := ⟨ab, 1, none⟩) (OwnE.setOther (a := ⟨ab, 0, none⟩) h (by simp) _) (by simp) _
                    · exact (heap_setCell_other _ ⟨ab, 1, none⟩ (ab + 1) _ (fun e => by first | (simp at e; done) | omega)).trans ((heap_setCell_other _ ⟨ab, 0, none⟩ (ab + 1) _ (fun e => by first | (simp at e; done) | omega)).trans IT9.out)
                    · rw [HMX.out.1, HMX.out.2]; exact ⟨(World.cell?_setCell_other _ _ _ _ (by simp)).trans (World.cell?_setCell_same _ _ _ A9.out.1), World.cell?_setCell_same _ _ _ ((World.cell?_setCell_other _ _ _ _ (by simp)).trans A9.out.2)⟩
                    · exact (World.frozen?_setCell _ _ _ _).trans ((World.frozen?_setCell _ _ _ _).trans (AF9.out o))
                    · exact (BV9.out.setCell (p := ⟨ab, 0, none⟩) (Nat.le_refl _) _).setCell (p := ⟨ab, 1, none⟩) (Nat.le_refl _) _
                  case measure => omega
                · have hz2 : 0 ≤ dn := by omega
                  have hz3 : decide (0 ≤ dn) = true := decide_eq_true hz2
                  go_wp2
                  go_roundg (gk - 1)
                  case rel =>
                    refine ⟨i + 1, A4, n4, c4, by omega, rfl, ?_, ?_, ?_, fun o => ?_, ?_⟩
                    · rw [HSUU.out, if_neg (by simp; omega)]; exact OwnE.setOther (a := ⟨ab, 1, none⟩) (OwnE.setOther (a := ⟨ab, 0, none⟩) OWZ.out (by simp) _) (by simp) _
                    · exact (heap_setCell_other _ ⟨ab, 1, none⟩ (ab + 1) _ (fun e => by first | (simp at e; done) | omega)).trans ((heap_setCell_other _ ⟨ab, 0, none⟩ (ab + 1) _ (fun e => by first | (simp at e; done) | omega)).trans ITZ.out)
                    · rw [HMX.out.1, HMX.out.2]; exact ⟨(World.cell?_setCell_other _ _ _ _ (by simp)).trans (World.cell?_setCell_same _ _ _ AZ.out.1), World.cell?_setCell_same _ _ _ ((World.cell?_setCell_other _ _ _ _ (by simp)).trans AZ.out.2)⟩
                    · exact (World.frozen?_setCell _ _ _ _).trans ((World.frozen?_setCell _ _ _ _).trans (AFZ.out o))
                    · exact (BVZ.out.setCell (p := ⟨ab, 0, none⟩) (Nat.le_refl _) _).setCell (p := ⟨ab, 1, none⟩) (Nat.le_refl _) _
                  case measure => omega
              · go_simp
                (refine hK.out _ _ (s10 SS.out (Below.alloc (h4) (Below.size (h4)) _)) (fun hHeld => ?_); clear hK K'; try simp only [Act.put, List.setIfInBounds_toArray, List.set_cons_zero, List.set_cons_succ])
                refine wpAnyH_ready (rs := [6]) (by kernel_rfl) (by simp) (AllReadyH.cons (by first | (simp only [List.getElem?_toArray, List.getElem?_cons_succ, List.getElem?_cons_zero]; exact rfl) | rfl) (fun K' hK => ?_) AllReadyH.nil)
                go_simp
                (refine hK.out _ _ (s10 SS.out (Below.alloc (h4) (Below.size (h4)) _)) (fun hHeld => ?_); clear hK K'; try simp only [Act.put, List.setIfInBounds_toArray, List.set_cons_zero, List.set_cons_succ])
                (refine wpAnyH_take (i := 7) (v := ?_) (by simp only [List.getElem?_toArray, List.getElem?_cons_succ, List.getElem?_cons_zero]; exact rfl) (by kernel_rfl) (by kernel_rfl) (by kernel_rfl) (by intro _ _ _ h; exact h) (Or.inl ⟨by rfl, ?_⟩) (by assumption) ?_; rotate_left; (focus (intro w' hSw; (try dsimp only at hSw); go_simp; (try with_reducible rfl))); try simp only [Act.put, List.setIfInBounds_toArray, List.set_cons_zero, List.set_cons_succ])
                (refine wpAnyH_take (i := 8) (v := ?_) (by simp only [List.getElem?_toArray, List.getElem?_cons_succ, List.getElem?_cons_zero]; exact rfl) (by kernel_rfl) (by kernel_rfl) (by kernel_rfl) (by intro _ _ _ h; exact h) (Or.inl ⟨by rfl, ?_⟩) (by assumption) ?_; rotate_left; (focus (intro w' hSw; (try dsimp only at hSw); go_simp; (try with_reducible rfl))); try simp only [Act.put, List.setIfInBounds_toArray, List.set_cons_zero, List.set_cons_succ])
                (refine wpAnyH_take (i := 9) (v := ?_) (by simp only [List.getElem?_toArray, List.getElem?_cons_succ, List.getElem?_cons_zero]; exact rfl) (by kernel_rfl) (by kernel_rfl) (by kernel_rfl) (by intro _ _ _ h; exact h) (Or.inl ⟨by rfl, ?_⟩) (by assumption) ?_; rotate_left; (focus (intro w' hSw; (try dsimp only at hSw); go_simp; (try with_reducible rfl))); try simp only [Act.put, List.setIfInBounds_toArray, List.set_cons_zero, List.set_cons_succ])
                refine wpAnyH_ready (rs := [11]) (by kernel_rfl) (by simp) (AllReadyH.cons (by first | (simp only [List.getElem?_toArray, List.getElem?_cons_succ, List.getElem?_cons_zero]; exact rfl) | rfl) (fun K' hK => ?_) AllReadyH.nil)
                go_simp
                (refine hK.out _ _ (s10 SS.out (Below.alloc h4 h4.size _)) (fun hHeld => ?_); clear hK K'; try simp only [Act.put, List.setIfInBounds_toArray, List.set_cons_zero, List.set_cons_succ])
                refine wpAnyH_ready (rs := [12]) (by kernel_rfl) (by simp) (AllReadyH.cons (by first | (simp only [List.getElem?_toArray, List.getElem?_cons_succ, List.getElem?_cons_zero]; exact rfl) | rfl) (fun K' hK => ?_) AllReadyH.nil)
                go_simp
                (refine hK.out _ _ (s10 SS.out (Below.alloc h4 h4.size _)) (fun hHeld => ?_); clear hK K'; try simp only [Act.put, List.setIfInBounds_toArray, List.set_cons_zero, List.set_cons_succ])
                refine wpAnyH_done (by kernel_rfl) ?_ _
                go_upto_region 13 with fail
                obtain ⟨Wz, hWz⟩ : ∃ Wz, w4.alloc (.cells #[.int .i64 (if 0 ≤ dn then dn else 0), .int .i64 (if 0 ≤ dn then g (fin (nbC Wn Hn (ins ps (p, q, t))) (Wn * Hn) s0) t0 else 0)] 71) = Wz := ⟨_, rfl⟩
                rw [hWz]
                have BZ : Below V8.heap.size V8 Wz := by rw [← hWz]; exact Below.alloc h4 h4.size _
                have zz8 := BZ.size
                have zz2 : ab + 2 ≤ Wz.heap.size := by omega
                have NZ := Lib.hid (NXT.out.bel BZ NXT.out.lt)
                have AZ := Lib.hid (AT8.out.bel BZ AT8.out.lt)
                have AFZ := Lib.hid (fun o => (BZ.frozen (p := ⟨ab, o, none⟩) AT8.out.lt).trans (AF8.out o))
                have ITZ := Lib.hid ((BZ.block (ab + 1) z8).trans IT8.out)
                have OWZ := Lib.hid (OwnE.below OW8.out BZ (Nat.le_refl _))
                have BVZ := Lib.hid (BV8.out.trans (BZ.mono (by omega)))
                obtain ⟨b0, b1, b2⟩ := (show Wz.cell? ⟨kb, 0, none⟩ = some (.int .i64 p) ∧ Wz.cell? ⟨kb, 1, none⟩ = some (.int .i64 q) ∧ Wz.cell? ⟨kb, 2, none⟩ = some (.bool t) from ⟨cell_k2 BZ BLK.out.1, cell_k2 BZ BLK.out.2.1, cell_k2 BZ BLK.out.2.2⟩)
                obtain ⟨n0, n1⟩ := NZ.out
                obtain ⟨a0, a1⟩ := AZ.out
                have af0 := AFZ.out 0
                have af1 := AFZ.out 1
                clear hWz BZ h3 h4 hk1 hk2 hown hM hb4 hb5 ho5
                by_cases hz : dn < 0
                · have hz2 : ¬ (0 ≤ dn) := by omega
                  have hz3 : decide (0 ≤ dn) = false := decide_eq_false hz2
                  go_wp2_with (first | (at_builtin; refine wpList_appE bcs_len bcs_one rfl _ _ 28 rfl 34 Try.underlying28 Try.infoB rfl (by decide) (by decide) (ab + 2) _ _ rfl (OwnE.gr OWZ.out (Gr.alloc (Gr.refl _) _)) ⟨Wz.heap.size, 0, none⟩ 1 1 [(p, q, t)] rfl rfl (fun j u hu => alloc_cells (by simpa [ecs, bcs] using hu)) HLEN.out (by simp) (by simp; omega) ?_; intro v7 w9 ho7 hb7 gb7 _; obtain ⟨A7, c7, rfl, ho7⟩ := OwnE.eta ho7; have N9 := Lib.hid (show Tw w9 nb _ _ from ⟨gb7.cell ((Gr.alloc (Gr.refl _) _).keep0 NZ.out.1) HNB.out, gb7.cell ((Gr.alloc (Gr.refl _) _).keep0 NZ.out.2) HNB.out⟩); obtain ⟨n0, n1⟩ := N9.out; have G9 := ((Gr.alloc (Gr.refl Wz) (.cells #[.int .i64 p, .int .i64 q, .bool t] 34)).below.mono zz2).trans hb7; have A9 := Lib.hid (AZ.out.bel G9 (by omega)); have AF9 := Lib.hid (fun o => (G9.frozen (p := ⟨ab, o, none⟩) (by show ab < ab + 2; omega)).trans (AFZ.out o)); have IT9 := Lib.hid ((G9.block (ab + 1) (by omega)).trans ITZ.out); have BV9 := Lib.hid (BVZ.out.trans (G9.mono (by omega))); have OW9 := Lib.hid ho7; obtain ⟨a0, a1⟩ := A9.out; have af0 := AF9.out 0; have af1 := AF9.out 1; have zn9 := World.block_lt_of_cell? _ _ n0; clear ho7 hb7 gb7 G9))
                  go_roundg (gk - 1)
                  case rel =>
                    refine ⟨i + 1, A7, _, c7, by omega, rfl, ?_, ?_, ?_, fun o => ?_, ?_⟩
                    · rw [HSUU.out, if_pos (decide_eq_true hz)]; have h := OW9.out; simp only [List.length_append, List.length_cons, List.length_nil, Nat.zero_add] at h; exact OwnE.setOther (a := ⟨ab, 1, none⟩) (OwnE.setOther (a := ⟨ab, 0, none⟩) h (by simp) _) (by simp) _
                    · exact (heap_setCell_other _ ⟨ab, 1, none⟩ (ab + 1) _ (fun e => by first | (simp at e; done) | omega)).trans ((heap_setCell_other _ ⟨ab, 0, none⟩ (ab + 1) _ (fun e => by first | (simp at e; done) | omega)).trans IT9.out)
                    · rw [HMX.out.1, HMX.out.2]; exact ⟨(World.cell?_setCell_other _ _ _ _ (by simp)).trans (World.cell?_setCell_same _ _ _ A9.out.1), World.cell?_setCell_same _ _ _ ((World.cell?_setCell_other _ _ _ _ (by simp)).trans A9.out.2)⟩
                    · exact (World.frozen?_setCell _ _ _ _).trans ((World.frozen?_setCell _ _ _ _).trans (AF9.out o))
                    · exact (BV9.out.setCell (p := ⟨ab, 0, none⟩) (Nat.le_refl _) _).setCell (p := ⟨ab, 1, none⟩) (Nat.le_refl _) _
                  case measure => omega
                · have hz2 : 0 ≤ dn := by omega
                  have hz3 : decide (0 ≤ dn) = true := decide_eq_true hz2
                  go_wp2
                  go_roundg (gk - 1)
                  case rel =>
                    refine ⟨i + 1, A4, n4, c4, by omega, rfl, ?_, ?_, ?_, fun o => ?_, ?_⟩
                    · rw [HSUU.out, if_neg (by simp; omega)]; exact OwnE.setOther (a := ⟨ab, 1, none⟩) (OwnE.setOther (a := ⟨ab, 0, none⟩) OWZ.out (by simp) _) (by simp) _
                    · exact (heap_setCell_other _ ⟨ab, 1, none⟩ (ab + 1) _ (fun e => by first | (simp at e; done) | omega)).trans ((heap_setCell_other _ ⟨ab, 0, none⟩ (ab + 1) _ (fun e => by first | (simp at e; done) | omega)).trans ITZ.out)
                    · rw [HMX.out.1, HMX.out.2]; exact ⟨(World.cell?_setCell_other _ _ _ _ (by simp)).trans (World.cell?_setCell_same _ _ _ AZ.out.1), World.cell?_setCell_same _ _ _ ((World.cell?_setCell_other _ _ _ _ (by simp)).trans AZ.out.2)⟩
                    · exact (World.frozen?_setCell _ _ _ _).trans ((World.frozen?_setCell _ _ _ _).trans (AFZ.out o))
                    · exact (BVZ.out.setCell (p := ⟨ab, 0, none⟩) (Nat.le_refl _) _).setCell (p := ⟨ab, 1, none⟩) (Nat.le_refl _) _
                  case measure => omega
            · go_simp
              (refine hK.out _ _ (s10 SS.out (Below.alloc (h3) (Below.size (h3)) _)) (fun hHeld => ?_); clear hK K'; try simp only [Act.put, List.setIfInBounds_toArray, List.set_cons_zero, List.set_cons_succ])
              refine wpAnyH_ready (rs := [4]) (by kernel_rfl) (by simp) (AllReadyH.cons (by first | (simp only [List.getElem?_toArray, List.getElem?_cons_succ, List.getElem?_cons_zero]; exact rfl) | rfl) (fun K' hK => ?_) AllReadyH.nil)
              go_simp
              (go_at_call 44; refine (HRF.out _ _ _ _ HUPP.out (OwnE.gr ho5 (Gr.alloc (Gr.refl _) _))).mono ?_; rintro e w4 ⟨bm, nm, D, rfl, hown, hM, hb4⟩; have h4 := Below.trans (Below.alloc (h3) (Below.size (h3)) _) (hb4.mono (Below.size (Below.alloc (h3) (Below.size (h3)) _))); have hk1 := HLK1.out _ bm nm D hown hM w4 (Gr.refl _); have hk2 := HLK1.out _ bm nm D hown hM (w4.alloc (.cells #[.int .i64 0, .int .i64 0] 71)) (Gr.alloc (Gr.refl _) _); have s0' := cell_k2 hb4 (show (w3.alloc (.cells #[.int .i64 0, .int .i64 0] 71)).cell? ⟨w3.heap.size, 0, none⟩ = some (.int .i64 0) by simp [go_sem]); have s1' := cell_k2 hb4 (show (w3.alloc (.cells #[.int .i64 0, .int .i64 0] 71)).cell? ⟨w3.heap.size, 1, none⟩ = some (.int .i64 0) by simp [go_sem]); have sz' : ∀ o, w4.frozen? ⟨w3.heap.size, o, none⟩ = false := (fun o => (hb4.frozen (p := ⟨w3.heap.size, o, none⟩) (by simp)).trans (by simp [go_sem])))
              (refine hK.out _ _ (s10 SS.out h4) (fun hHeld => ?_); clear hK K'; try simp only [Act.put, List.setIfInBounds_toArray, List.set_cons_zero, List.set_cons_succ])
              refine wpAnyH_ready (rs := [6]) (by kernel_rfl) (by simp) (AllReadyH.cons (by first | (simp only [List.getElem?_toArray, List.getElem?_cons_succ, List.getElem?_cons_zero]; exact rfl) | rfl) (fun K' hK => ?_) AllReadyH.nil)
              go_simp
              (refine hK.out _ _ (s10 SS.out (h4)) (fun hHeld => ?_); clear hK K'; try simp only [Act.put, List.setIfInBounds_toArray, List.set_cons_zero, List.set_cons_succ])
              (refine wpAnyH_take (i := 7) (v := ?_) (by simp only [List.getElem?_toArray, List.getElem?_cons_succ, List.getElem?_cons_zero]; exact rfl) (by kernel_rfl) (by kernel_rfl) (by kernel_rfl) (by intro _ _ _ h; exact h) (Or.inl ⟨by rfl, ?_⟩) (by assumption) ?_; rotate_left; (focus (intro w' hSw; (try dsimp only at hSw); go_simp; (try with_reducible rfl))); try simp only [Act.put, List.setIfInBounds_toArray, List.set_cons_zero, List.set_cons_succ])
              (refine wpAnyH_take (i := 8) (v := ?_) (by simp only [List.getElem?_toArray, List.getElem?_cons_succ, List.getElem?_cons_zero]; exact rfl) (by kernel_rfl) (by kernel_rfl) (by kernel_rfl) (by intro _ _ _ h; exact h) (Or.inl ⟨by rfl, ?_⟩) (by assumption) ?_; rotate_left; (focus (intro w' hSw; (try dsimp only at hSw); go_simp; (try with_reducible rfl))); try simp only [Act.put, List.setIfInBounds_toArray, List.set_cons_zero, List.set_cons_succ])
              (refine wpAnyH_take (i := 9) (v := ?_) (by simp only [List.getElem?_toArray, List.getElem?_cons_succ, List.getElem?_cons_zero]; exact rfl) (by kernel_rfl) (by kernel_rfl) (by kernel_rfl) (by intro _ _ _ h; exact h) (Or.inl ⟨by rfl, ?_⟩) (by assumption) ?_; rotate_left; (focus (intro w' hSw; (try dsimp only at hSw); go_simp; (try with_reducible rfl))); try simp only [Act.put, List.setIfInBounds_toArray, List.set_cons_zero, List.set_cons_succ])
              refine wpAnyH_ready (rs := [11]) (by kernel_rfl) (by simp) (AllReadyH.cons (by first | (simp only [List.getElem?_toArray, List.getElem?_cons_succ, List.getElem?_cons_zero]; exact rfl) | rfl) (fun K' hK => ?_) AllReadyH.nil)
              go_simp
              (refine hK.out _ _ (s10 SS.out ((h4.setCell h3.size _).setCell h3.size _)) (fun hHeld => ?_); clear hK K'; try simp only [Act.put, List.setIfInBounds_toArray, List.set_cons_zero, List.set_cons_succ])
              refine wpAnyH_ready (rs := [12]) (by kernel_rfl) (by simp) (AllReadyH.cons (by first | (simp only [List.getElem?_toArray, List.getElem?_cons_succ, List.getElem?_cons_zero]; exact rfl) | rfl) (fun K' hK => ?_) AllReadyH.nil)
              go_simp
              (refine hK.out _ _ (s10 SS.out ((h4.setCell h3.size _).setCell h3.size _)) (fun hHeld => ?_); clear hK K'; try simp only [Act.put, List.setIfInBounds_toArray, List.set_cons_zero, List.set_cons_succ])
              refine wpAnyH_done (by kernel_rfl) ?_ _
              go_upto_region 13 with fail
              obtain ⟨Wz, hWz⟩ : ∃ Wz, (w4.setCell ⟨w3.heap.size, 0, none⟩ (.int .i64 (if 0 ≤ dn then dn else 0))).setCell ⟨w3.heap.size, 1, none⟩ (.int .i64 (if 0 ≤ dn then g (fin (nbC Wn Hn (ins ps (p, q, t))) (Wn * Hn) s0) t0 else 0)) = Wz := ⟨_, rfl⟩
              rw [hWz]
              have BZ : Below V8.heap.size V8 Wz := by rw [← hWz]; exact (h4.setCell h3.size _).setCell h3.size _
              have zz8 := BZ.size
              have zz2 : ab + 2 ≤ Wz.heap.size := by omega
              have NZ := Lib.hid (NXT.out.bel BZ NXT.out.lt)
              have AZ := Lib.hid (AT8.out.bel BZ AT8.out.lt)
              have AFZ := Lib.hid (fun o => (BZ.frozen (p := ⟨ab, o, none⟩) AT8.out.lt).trans (AF8.out o))
              have ITZ := Lib.hid ((BZ.block (ab + 1) z8).trans IT8.out)
              have OWZ := Lib.hid (OwnE.below OW8.out BZ (Nat.le_refl _))
              have BVZ := Lib.hid (BV8.out.trans (BZ.mono (by omega)))
              obtain ⟨b0, b1, b2⟩ := (show Wz.cell? ⟨kb, 0, none⟩ = some (.int .i64 p) ∧ Wz.cell? ⟨kb, 1, none⟩ = some (.int .i64 q) ∧ Wz.cell? ⟨kb, 2, none⟩ = some (.bool t) from ⟨cell_k2 BZ BLK.out.1, cell_k2 BZ BLK.out.2.1, cell_k2 BZ BLK.out.2.2⟩)
              obtain ⟨n0, n1⟩ := NZ.out
              obtain ⟨a0, a1⟩ := AZ.out
              have af0 := AFZ.out 0
              have af1 := AFZ.out 1
              clear hWz BZ h3 h4 hk1 hk2 hown hM hb4 hb5 ho5
              by_cases hz : dn < 0
              · have hz2 : ¬ (0 ≤ dn) := by omega
                have hz3 : decide (0 ≤ dn) = false := decide_eq_false hz2
                go_wp2_with (first | (at_builtin; refine wpList_appE bcs_len bcs_one rfl _ _ 28 rfl 34 Try.underlying28 Try.infoB rfl (by decide) (by decide) (ab + 2) _ _ rfl (OwnE.gr OWZ.out (Gr.alloc (Gr.refl _) _)) ⟨Wz.heap.size, 0, none⟩ 1 1 [(p, q, t)] rfl rfl (fun j u hu => alloc_cells (by simpa [ecs, bcs] using hu)) HLEN.out (by simp) (by simp; omega) ?_; intro v7 w9 ho7 hb7 gb7 _; obtain ⟨A7, c7, rfl, ho7⟩ := OwnE.eta ho7; have N9 := Lib.hid (show Tw w9 nb _ _ from ⟨gb7.cell ((Gr.alloc (Gr.refl _) _).keep0 NZ.out.1) HNB.out, gb7.cell ((Gr.alloc (Gr.refl _) _).keep0 NZ.out.2) HNB.out⟩); obtain ⟨n0, n1⟩ := N9.out; have G9 := ((Gr.alloc (Gr.refl Wz) (.cells #[.int .i64 p, .int .i64 q, .bool t] 34)).below.mono zz2).trans hb7; have A9 := Lib.hid (AZ.out.bel G9 (by omega)); have AF9 := Lib.hid (fun o => (G9.frozen (p := ⟨ab, o, none⟩) (by show ab < ab + 2; omega)).trans (AFZ.out o)); have IT9 := Lib.hid ((G9.block (ab + 1) (by omega)).trans ITZ.out); have BV9 := Lib.hid (BVZ.out.trans (G9.mono (by omega))); have OW9 := Lib.hid ho7; obtain ⟨a0, a1⟩ := A9.out; have af0 := AF9.out 0; have af1 := AF9.out 1; have zn9 := World.block_lt_of_cell? _ _ n0; clear ho7 hb7 gb7 G9))
                go_roundg (gk - 1)
                case rel =>
                  refine ⟨i + 1, A7, _, c7, by omega, rfl, ?_, ?_, ?_, fun o => ?_, ?_⟩
                  · rw [HSUU.out, if_pos (decide_eq_true hz)]; have h := OW9.out; simp only [List.length_append, List.length_cons, List.length_nil, Nat.zero_add] at h; exact OwnE.setOther (a := ⟨ab, 1, none⟩) (OwnE.setOther (a := ⟨ab, 0, none⟩) h (by simp) _) (by simp) _
                  · exact (heap_setCell_other _ ⟨ab, 1, none⟩ (ab + 1) _ (fun e => by first | (simp at e; done) | omega)).trans ((heap_setCell_other _ ⟨ab, 0, none⟩ (ab + 1) _ (fun e => by first | (simp at e; done) | omega)).trans IT9.out)
                  · rw [HMX.out.1, HMX.out.2]; exact ⟨(World.cell?_setCell_other _ _ _ _ (by simp)).trans (World.cell?_setCell_same _ _ _ A9.out.1), World.cell?_setCell_same _ _ _ ((World.cell?_setCell_other _ _ _ _ (by simp)).trans A9.out.2)⟩
                  · exact (World.frozen?_setCell _ _ _ _).trans ((World.frozen?_setCell _ _ _ _).trans (AF9.out o))
                  · exact (BV9.out.setCell (p := ⟨ab, 0, none⟩) (Nat.le_refl _) _).setCell (p := ⟨ab, 1, none⟩) (Nat.le_refl _) _
                case measure => omega
              · have hz2 : 0 ≤ dn := by omega
                have hz3 : decide (0 ≤ dn) = true := decide_eq_true hz2
                go_wp2
                go_roundg (gk - 1)
                case rel =>
                  refine ⟨i + 1, A4, n4, c4, by omega, rfl, ?_, ?_, ?_, fun o => ?_, ?_⟩
                  · rw [HSUU.out, if_neg (by simp; omega)]; exact OwnE.setOther (a := ⟨ab, 1, none⟩) (OwnE.setOther (a := ⟨ab, 0, none⟩) OWZ.out (by simp) _) (by simp) _
                  · exact (heap_setCell_other _ ⟨ab, 1, none⟩ (ab + 1) _ (fun e => by first | (simp at e; done) | omega)).trans ((heap_setCell_other _ ⟨ab, 0, none⟩ (ab + 1) _ (fun e => by first | (simp at e; done) | omega)).trans ITZ.out)
                  · rw [HMX.out.1, HMX.out.2]; exact ⟨(World.cell?_setCell_other _ _ _ _ (by simp)).trans (World.cell?_setCell_same _ _ _ AZ.out.1), World.cell?_setCell_same _ _ _ ((World.cell?_setCell_other _ _ _ _ (by simp)).trans AZ.out.2)⟩
                  · exact (World.frozen?_setCell _ _ _ _).trans ((World.frozen?_setCell _ _ _ _).trans (AFZ.out o))
                  · exact (BVZ.out.setCell (p := ⟨ab, 0, none⟩) (Nat.le_refl _) _).setCell (p := ⟨ab, 1, none⟩) (Nat.le_refl _) _
                case measure => omega
          · go_simp
            (refine hK.out _ _ (s10 SS.out (Below.alloc (Below.drew (Below.refl V8.heap.size V8)) (Below.size (Below.drew (Below.refl V8.heap.size V8))) _)) (fun hHeld => ?_); clear hK K'; try simp only [Act.put, List.setIfInBounds_toArray, List.set_cons_zero, List.set_cons_succ])
            refine wpAnyH_ready (rs := [2]) (by kernel_rfl) (by simp) (AllReadyH.cons (by first | (simp only [List.getElem?_toArray, List.getElem?_cons_succ, List.getElem?_cons_zero]; exact rfl) | rfl) (fun K' hK => ?_) AllReadyH.nil)
            go_simp
            (go_at_call 36; refine (HCL.out _ (BW8.out.trans (Below.mono (Below.alloc (Below.drew (Below.refl V8.heap.size V8)) (Below.size (Below.drew (Below.refl V8.heap.size V8))) _) BW8.out.size)) _ _ _).mono ?_; rintro e w3 ⟨v5, rfl, ho5, hb5⟩; have h3 := Below.trans (Below.alloc (Below.drew (Below.refl V8.heap.size V8)) (Below.size (Below.drew (Below.refl V8.heap.size V8))) _) (hb5.mono (Below.size (Below.alloc (Below.drew (Below.refl V8.heap.size V8)) (Below.size (Below.drew (Below.refl V8.heap.size V8))) _))); have r0 := cell_k2 hb5 (show (V8.drew.alloc (.cells #[.int .i64 0, .int .i64 0] 71)).cell? ⟨V8.heap.size, 0, none⟩ = some (.int .i64 0) by simp [go_sem]); have r1 := cell_k2 hb5 (show (V8.drew.alloc (.cells #[.int .i64 0, .int .i64 0] 71)).cell? ⟨V8.heap.size, 1, none⟩ = some (.int .i64 0) by simp [go_sem]); have rz : ∀ o, w3.frozen? ⟨V8.heap.size, o, none⟩ = false := (fun o => (hb5.frozen (p := ⟨V8.heap.size, o, none⟩) (by simp)).trans (by simp [go_sem])))
            (refine hK.out _ _ (s10 SS.out h3) (fun hHeld => ?_); clear hK K'; try simp only [Act.put, List.setIfInBounds_toArray, List.set_cons_zero, List.set_cons_succ])
            refine wpAnyH_ready (rs := [4]) (by kernel_rfl) (by simp) (AllReadyH.cons (by first | (simp only [List.getElem?_toArray, List.getElem?_cons_succ, List.getElem?_cons_zero]; exact rfl) | rfl) (fun K' hK => ?_) AllReadyH.nil)
            go_simp
            (go_at_call 44; refine (HRF.out _ _ _ _ HUPP.out ho5).mono ?_; rintro e w4 ⟨bm, nm, D, rfl, hown, hM, hb4⟩; have h4 := Below.trans (h3) (hb4.mono (Below.size (h3))); have hk1 := HLK1.out _ bm nm D hown hM w4 (Gr.refl _); have hk2 := HLK1.out _ bm nm D hown hM (w4.alloc (.cells #[.int .i64 0, .int .i64 0] 71)) (Gr.alloc (Gr.refl _) _); have s0' := cell_k2 hb4 r0; have s1' := cell_k2 hb4 r1; have sz' : ∀ o, w4.frozen? ⟨V8.heap.size, o, none⟩ = false := (fun o => (hb4.frozen (p := ⟨V8.heap.size, o, none⟩) (show V8.heap.size < w3.heap.size from World.block_lt_of_cell? _ _ r0)).trans (rz o)))
            (refine hK.out _ _ (s10 SS.out h4) (fun hHeld => ?_); clear hK K'; try simp only [Act.put, List.setIfInBounds_toArray, List.set_cons_zero, List.set_cons_succ])
            refine wpAnyH_ready (rs := [6]) (by kernel_rfl) (by simp) (AllReadyH.cons (by first | (simp only [List.getElem?_toArray, List.getElem?_cons_succ, List.getElem?_cons_zero]; exact rfl) | rfl) (fun K' hK => ?_) AllReadyH.nil)
            go_simp
            (refine hK.out _ _ (s10 SS.out (h4)) (fun hHeld => ?_); clear hK K'; try simp only [Act.put, List.setIfInBounds_toArray, List.set_cons_zero, List.set_cons_succ])
            (refine wpAnyH_take (i := 7) (v := ?_) (by simp only [List.getElem?_toArray, List.getElem?_cons_succ, List.getElem?_cons_zero]; exact rfl) (by kernel_rfl) (by kernel_rfl) (by kernel_rfl) (by intro _ _ _ h; exact h) (Or.inl ⟨by rfl, ?_⟩) (by assumption) ?_; rotate_left; (focus (intro w' hSw; (try dsimp only at hSw); go_simp; (try with_reducible rfl))); try simp only [Act.put, List.setIfInBounds_toArray, List.set_cons_zero, List.set_cons_succ])
            (refine wpAnyH_take (i := 8) (v := ?_) (by simp only [List.getElem?_toArray, List.getElem?_cons_succ, List.getElem?_cons_zero]; exact rfl) (by kernel_rfl) (by kernel_rfl) (by kernel_rfl) (by intro _ _ _ h; exact h) (Or.inl ⟨by rfl, ?_⟩) (by assumption) ?_; rotate_left; (focus (intro w' hSw; (try dsimp only at hSw); go_simp; (try with_reducible rfl))); try simp only [Act.put, List.setIfInBounds_toArray, List.set_cons_zero, List.set_cons_succ])
            (refine wpAnyH_take (i := 9) (v := ?_) (by simp only [List.getElem?_toArray, List.getElem?_cons_succ, List.getElem?_cons_zero]; exact rfl) (by kernel_rfl) (by kernel_rfl) (by kernel_rfl) (by intro _ _ _ h; exact h) (Or.inl ⟨by rfl, ?_⟩) (by assumption) ?_; rotate_left; (focus (intro w' hSw; (try dsimp only at hSw); go_simp; (try with_reducible rfl))); try simp only [Act.put, List.setIfInBounds_toArray, List.set_cons_zero, List.set_cons_succ])
            refine wpAnyH_ready (rs := [11]) (by kernel_rfl) (by simp) (AllReadyH.cons (by first | (simp only [List.getElem?_toArray, List.getElem?_cons_succ, List.getElem?_cons_zero]; exact rfl) | rfl) (fun K' hK => ?_) AllReadyH.nil)
            go_simp
            (refine hK.out _ _ (s10 SS.out ((h4.setCell (Nat.le_refl _) _).setCell (Nat.le_refl _) _)) (fun hHeld => ?_); clear hK K'; try simp only [Act.put, List.setIfInBounds_toArray, List.set_cons_zero, List.set_cons_succ])
            refine wpAnyH_ready (rs := [12]) (by kernel_rfl) (by simp) (AllReadyH.cons (by first | (simp only [List.getElem?_toArray, List.getElem?_cons_succ, List.getElem?_cons_zero]; exact rfl) | rfl) (fun K' hK => ?_) AllReadyH.nil)
            go_simp
            (refine hK.out _ _ (s10 SS.out ((h4.setCell (Nat.le_refl _) _).setCell (Nat.le_refl _) _)) (fun hHeld => ?_); clear hK K'; try simp only [Act.put, List.setIfInBounds_toArray, List.set_cons_zero, List.set_cons_succ])
            refine wpAnyH_done (by kernel_rfl) ?_ _
            go_upto_region 13 with fail
            obtain ⟨Wz, hWz⟩ : ∃ Wz, (w4.setCell ⟨V8.heap.size, 0, none⟩ (.int .i64 (if 0 ≤ dn then dn else 0))).setCell ⟨V8.heap.size, 1, none⟩ (.int .i64 (if 0 ≤ dn then g (fin (nbC Wn Hn (ins ps (p, q, t))) (Wn * Hn) s0) t0 else 0)) = Wz := ⟨_, rfl⟩
            rw [hWz]
            have BZ : Below V8.heap.size V8 Wz := by rw [← hWz]; exact (h4.setCell (Nat.le_refl _) _).setCell (Nat.le_refl _) _
            have zz8 := BZ.size
            have zz2 : ab + 2 ≤ Wz.heap.size := by omega
            have NZ := Lib.hid (NXT.out.bel BZ NXT.out.lt)
            have AZ := Lib.hid (AT8.out.bel BZ AT8.out.lt)
            have AFZ := Lib.hid (fun o => (BZ.frozen (p := ⟨ab, o, none⟩) AT8.out.lt).trans (AF8.out o))
            have ITZ := Lib.hid ((BZ.block (ab + 1) z8).trans IT8.out)
            have OWZ := Lib.hid (OwnE.below OW8.out BZ (Nat.le_refl _))
            have BVZ := Lib.hid (BV8.out.trans (BZ.mono (by omega)))
            obtain ⟨b0, b1, b2⟩ := (show Wz.cell? ⟨kb, 0, none⟩ = some (.int .i64 p) ∧ Wz.cell? ⟨kb, 1, none⟩ = some (.int .i64 q) ∧ Wz.cell? ⟨kb, 2, none⟩ = some (.bool t) from ⟨cell_k2 BZ BLK.out.1, cell_k2 BZ BLK.out.2.1, cell_k2 BZ BLK.out.2.2⟩)
            obtain ⟨n0, n1⟩ := NZ.out
            obtain ⟨a0, a1⟩ := AZ.out
            have af0 := AFZ.out 0
            have af1 := AFZ.out 1
            clear hWz BZ h3 h4 hk1 hk2 hown hM hb4 hb5 ho5
            by_cases hz : dn < 0
            · have hz2 : ¬ (0 ≤ dn) := by omega
              have hz3 : decide (0 ≤ dn) = false := decide_eq_false hz2
              go_wp2_with (first | (at_builtin; refine wpList_appE bcs_len bcs_one rfl _ _ 28 rfl 34 Try.underlying28 Try.infoB rfl (by decide) (by decide) (ab + 2) _ _ rfl (OwnE.gr OWZ.out (Gr.alloc (Gr.refl _) _)) ⟨Wz.heap.size, 0, none⟩ 1 1 [(p, q, t)] rfl rfl (fun j u hu => alloc_cells (by simpa [ecs, bcs] using hu)) HLEN.out (by simp) (by simp; omega) ?_; intro v7 w9 ho7 hb7 gb7 _; obtain ⟨A7, c7, rfl, ho7⟩ := OwnE.eta ho7; have N9 := Lib.hid (show Tw w9 nb _ _ from ⟨gb7.cell ((Gr.alloc (Gr.refl _) _).keep0 NZ.out.1) HNB.out, gb7.cell ((Gr.alloc (Gr.refl _) _).keep0 NZ.out.2) HNB.out⟩); obtain ⟨n0, n1⟩ := N9.out; have G9 := ((Gr.alloc (Gr.refl Wz) (.cells #[.int .i64 p, .int .i64 q, .bool t] 34)).below.mono zz2).trans hb7; have A9 := Lib.hid (AZ.out.bel G9 (by omega)); have AF9 := Lib.hid (fun o => (G9.frozen (p := ⟨ab, o, none⟩) (by show ab < ab + 2; omega)).trans (AFZ.out o)); have IT9 := Lib.hid ((G9.block (ab + 1) (by omega)).trans ITZ.out); have BV9 := Lib.hid (BVZ.out.trans (G9.mono (by omega))); have OW9 := Lib.hid ho7; obtain ⟨a0, a1⟩ := A9.out; have af0 := AF9.out 0; have af1 := AF9.out 1; have zn9 := World.block_lt_of_cell? _ _ n0; clear ho7 hb7 gb7 G9))
              go_roundg (gk - 1)
              case rel =>
                refine ⟨i + 1, A7, _, c7, by omega, rfl, ?_, ?_, ?_, fun o => ?_, ?_⟩
                · rw [HSUU.out, if_pos (decide_eq_true hz)]; have h := OW9.out; simp only [List.length_append, List.length_cons, List.length_nil, Nat.zero_add] at h; exact OwnE.setOther (a := ⟨ab, 1, none⟩) (OwnE.setOther (a := ⟨ab, 0, none⟩) h (by simp) _) (by simp) _
                · exact (heap_setCell_other _ ⟨ab, 1, none⟩ (ab + 1) _ (fun e => by first | (simp at e; done) | omega)).trans ((heap_setCell_other _ ⟨ab, 0, none⟩ (ab + 1) _ (fun e => by first | (simp at e; done) | omega)).trans IT9.out)
                · rw [HMX.out.1, HMX.out.2]; exact ⟨(World.cell?_setCell_other _ _ _ _ (by simp)).trans (World.cell?_setCell_same _ _ _ A9.out.1), World.cell?_setCell_same _ _ _ ((World.cell?_setCell_other _ _ _ _ (by simp)).trans A9.out.2)⟩
                · exact (World.frozen?_setCell _ _ _ _).trans ((World.frozen?_setCell _ _ _ _).trans (AF9.out o))
                · exact (BV9.out.setCell (p := ⟨ab, 0, none⟩) (Nat.le_refl _) _).setCell (p := ⟨ab, 1, none⟩) (Nat.le_refl _) _
              case measure => omega
            · have hz2 : 0 ≤ dn := by omega
              have hz3 : decide (0 ≤ dn) = true := decide_eq_true hz2
              go_wp2
              go_roundg (gk - 1)
              case rel =>
                refine ⟨i + 1, A4, n4, c4, by omega, rfl, ?_, ?_, ?_, fun o => ?_, ?_⟩
                · rw [HSUU.out, if_neg (by simp; omega)]; exact OwnE.setOther (a := ⟨ab, 1, none⟩) (OwnE.setOther (a := ⟨ab, 0, none⟩) OWZ.out (by simp) _) (by simp) _
                · exact (heap_setCell_other _ ⟨ab, 1, none⟩ (ab + 1) _ (fun e => by first | (simp at e; done) | omega)).trans ((heap_setCell_other _ ⟨ab, 0, none⟩ (ab + 1) _ (fun e => by first | (simp at e; done) | omega)).trans ITZ.out)
                · rw [HMX.out.1, HMX.out.2]; exact ⟨(World.cell?_setCell_other _ _ _ _ (by simp)).trans (World.cell?_setCell_same _ _ _ AZ.out.1), World.cell?_setCell_same _ _ _ ((World.cell?_setCell_other _ _ _ _ (by simp)).trans AZ.out.2)⟩
                · exact (World.frozen?_setCell _ _ _ _).trans ((World.frozen?_setCell _ _ _ _).trans (AFZ.out o))
                · exact (BVZ.out.setCell (p := ⟨ab, 0, none⟩) (Nat.le_refl _) _).setCell (p := ⟨ab, 1, none⟩) (Nat.le_refl _) _
              case measure => omega
        · obtain rfl : i = d := by omega
          have hnx : ∀ ty, (Instr.next (.pointer (some ⟨ab + 1, 0, none⟩)) true ty).run Try.prog wr = .ok (.tuple #[.bool false]) wr := fun ty => Go.Lib.run_next_end_at (P := Try.prog) wr (ab + 1) word i ty hit (by rw [HWZ.out]; exact Nat.lt_irrefl _)
          have OWE := Lib.hid ho
          have HLE := Lib.hid (show (pTo Wn Hn ps s0 t0 i).length ≤ 1000000 by have := HSR.out i; omega)
          have zit : ab + 1 < wr.heap.size := (Array.getElem?_eq_some_iff.1 hit).1
          have BVE := Lib.hid (BV.out.trans (hb.mono (by omega)))
          clear ho hb hat haf
          go_wp2_with (first | (go_at_call 45; refine (Try.sortB wr (ab + 2) _ _ (by omega) HLE.out OWE.out).mono ?_; rintro e w5 ⟨rfl, ho5, hb5⟩))
          go_ret2
          exact ⟨_, rfl, OwnE.mono ho5 (by omega), BVE.out.trans (hb5.mono (by omega))⟩
end Go.Proofs
