/-
  Chapter 9: puzzles made, both sides.
-/
import Derived.Test.YtokfnhbdncebmabPzU
import Derived.Test.YtokfnhbdncebmabPzK
namespace Go.Proofs
open Go.RowKit
set_option linter.unusedVariables false
set_option linter.unusedSimpArgs false
/-- what MakePuzzle answers -/
def mkB (k p n c s : Int) : Bool := pst k p && inn n 1 (hs k p) && inn c 0 6 && inn s 0 9999
def mkL (k p n c s : Int) : List Clu := if mkB k p n c s then mades k p n s c.toNat else []
theorem mkL_len (k p n c s : Int) : (mkL k p n c s).length ≤ 6 := by
  unfold mkL
  cases h : mkB k p n c s
  · simp
  · rw [if_pos rfl, mades_len]
    unfold mkB inn at h
    simp only [Bool.and_eq_true, decide_eq_true_eq] at h
    omega
theorem zat_two (s : Int) (j : Nat) : zat s (2 * (j + 1)) = nxz (nxz (zat s (2 * j))) := by
  rw [show 2 * (j + 1) = 2 * j + 1 + 1 by omega]
  rfl
def MkRel (k p n s : Int) (m b : Nat) (W0 : World) (s2 s11 : Value) (wr : World) : Prop := ∃ (j : Nat) (v : Value), j ≤ m ∧ s2 = .int .i64 ((m - j : Nat) : Int) ∧ s11 = .int .i64 (zat s (2 * j)) ∧ OwnC wr (b + 1) v (mades k p n s j) ∧ wr.cell? ⟨b, 0, none⟩ = some (.int .i64 k) ∧ wr.cell? ⟨b, 1, none⟩ = some (.int .i64 p) ∧ wr.cell? ⟨b, 2, none⟩ = some v ∧ (∀ o, wr.frozen? ⟨b, o, none⟩ = false) ∧ Below b W0 wr
theorem inn_of {n a b : Int} (h : a ≤ n) (g : n ≤ b) : inn n a b = true := by unfold inn; exact decide_eq_true ⟨h, g⟩
def MkRelI (k p n s : Int) (m b : Nat) (W0 : World) (s11 s39 : Value) (wr : World) : Prop := ∃ (j : Nat) (v : Value), j ≤ m ∧ s11 = .int .i64 (zat s (2 * j)) ∧ s39 = .int .i64 (j : Int) ∧ OwnC wr (b + 1) v (mades k p n s j) ∧ wr.cell? ⟨b, 0, none⟩ = some (.int .i64 k) ∧ wr.cell? ⟨b, 1, none⟩ = some (.int .i64 p) ∧ wr.cell? ⟨b, 2, none⟩ = some v ∧ (∀ o, wr.frozen? ⟨b, o, none⟩ = false) ∧ Below b W0 wr
theorem cell_set_gt {w : World} {a b : Addr} {u v : Value} (h : w.cell? a = some v) (hb : b.block < a.block) : (w.setCell b u).cell? a = some v := by
  unfold World.cell? at *
  rw [heap_setCell_other w b a.block u (fun e => by omega)]
  exact h
theorem four_k2 {w w' : World} {a b c d : Addr} {x y z u : Value} (h : w.cell? a = some x ∧ w.cell? b = some y ∧ w.cell? c = some z ∧ w.cell? d = some u) (g : Below w.heap.size w w') : w'.cell? a = some x ∧ w'.cell? b = some y ∧ w'.cell? c = some z ∧ w'.cell? d = some u :=
  ⟨cell_k2 g h.1, cell_k2 g h.2.1, cell_k2 g h.2.2.1, cell_k2 g h.2.2.2⟩
set_option maxRecDepth 100000 in
set_option maxHeartbeats 3200000 in
theorem Try.sMakePuzzle (w : World) (k p n c s : Int) :
    Calls Try.prog 5 #[.agg #[.int .i64 k, .int .i64 p], .int .i64 n, .int .i64 c, .int .i64 s] w (RetZ w (ifZ (mkB k p n c s) k) (ifZ (mkB k p n c s) p) (mkL k p n c s) (mkB k p n c s)) := by
  cases hb : mkB k p n c s
  · rw [show mkL k p n c s = [] by simp [mkL, hb]]
    unfold ifZ
    simp only [Bool.false_eq_true, if_false]
    cases hp : (pst k p && inn n 1 (hs k p))
    · have HP := Lib.hid hp
      clear hb hp
      go_enter Try.func5, Try.ntmps5
      go_wp2_with (first | (go_at_call 16; refine (Try.pzHidden _ _ _ _ HP.out _).mono ?_; rintro e w1 ⟨rfl, hbW⟩; have hcW := (bcell hbW.below).1; have hfW := (bcell hbW.below).2; (try have hzW : w.heap.size < w1.heap.size := by have hq := hbW.below.size; (try simp at hq); omega); (try have hyW : w.heap.size + 1 < w1.heap.size := by have hq := hbW.below.size; (try simp at hq); omega); (try have hxW : w.heap.size + 2 < w1.heap.size := by have hq := hbW.below.size; (try simp at hq); omega)))
      refine bodyPost_ret (v := .tuple #[.agg #[.int .i64 0, .int .i64 0, .slice none 0 0], .bool false]) (by simp [results, Try.results5, go_sem, hcW, hfW, hyW]) rfl ⟨_, rfl, OwnE.nil _ _ _ _ _, Gr.below (by repeat (first | exact Gr.refl _ | refine Gr.alloc ?_ _ | refine Gr.trans ?_ (by assumption) | refine Gr.drew ?_ | refine Gr.drewN ?_ _ | refine Gr.grow ?_ _ | refine Gr.setCell ?_ (by (try simp); (try omega)) _))⟩
    · cases hc0 : inn c 0 6
      · have HP := Lib.hid hp
        have HC := Lib.hid hc0
        clear hb hp hc0
        go_enter Try.func5, Try.ntmps5
        go_wp2_with (first | (go_at_call 16; refine (Try.pzHidden _ _ _ _ HP.out _).mono ?_; rintro e w1 ⟨rfl, hbW⟩; have hcW := (bcell hbW.below).1; have hfW := (bcell hbW.below).2; (try have hzW : w.heap.size < w1.heap.size := by have hq := hbW.below.size; (try simp at hq); omega); (try have hyW : w.heap.size + 1 < w1.heap.size := by have hq := hbW.below.size; (try simp at hq); omega); (try have hxW : w.heap.size + 2 < w1.heap.size := by have hq := hbW.below.size; (try simp at hq); omega)) | (go_at_call_of 17 (Value.int .i64 c); refine (Try.l1In_b _ _ _ _ HC.out _).mono ?_; rintro e w2 ⟨rfl, rfl⟩))
        refine bodyPost_ret (v := .tuple #[.agg #[.int .i64 0, .int .i64 0, .slice none 0 0], .bool false]) (by simp [results, Try.results5, go_sem, hcW, hfW, hyW]) rfl ⟨_, rfl, OwnE.nil _ _ _ _ _, Gr.below (by repeat (first | exact Gr.refl _ | refine Gr.alloc ?_ _ | refine Gr.trans ?_ (by assumption) | refine Gr.drew ?_ | refine Gr.drewN ?_ _ | refine Gr.grow ?_ _ | refine Gr.setCell ?_ (by (try simp); (try omega)) _))⟩
      · have HP := Lib.hid hp
        have HC := Lib.hid hc0
        have HS := Lib.hid (show inn s 0 9999 = false by unfold mkB at hb; rw [hp, hc0, Bool.true_and, Bool.true_and] at hb; exact hb)
        clear hb hp hc0
        go_enter Try.func5, Try.ntmps5
        go_wp2_with (first | (go_at_call 16; refine (Try.pzHidden _ _ _ _ HP.out _).mono ?_; rintro e w1 ⟨rfl, hbW⟩; have hcW := (bcell hbW.below).1; have hfW := (bcell hbW.below).2; (try have hzW : w.heap.size < w1.heap.size := by have hq := hbW.below.size; (try simp at hq); omega); (try have hyW : w.heap.size + 1 < w1.heap.size := by have hq := hbW.below.size; (try simp at hq); omega); (try have hxW : w.heap.size + 2 < w1.heap.size := by have hq := hbW.below.size; (try simp at hq); omega)) | (go_at_call_of 17 (Value.int .i64 c); refine (Try.l1In_b _ _ _ _ HC.out _).mono ?_; rintro e w2 ⟨rfl, rfl⟩) | (go_at_call_of 17 (Value.int .i64 s); refine (Try.l1In_b _ _ _ _ HS.out _).mono ?_; rintro e w2 ⟨rfl, rfl⟩))
        refine bodyPost_ret (v := .tuple #[.agg #[.int .i64 0, .int .i64 0, .slice none 0 0], .bool false]) (by simp [results, Try.results5, go_sem, hcW, hfW, hyW]) rfl ⟨_, rfl, OwnE.nil _ _ _ _ _, Gr.below (by repeat (first | exact Gr.refl _ | refine Gr.alloc ?_ _ | refine Gr.trans ?_ (by assumption) | refine Gr.drew ?_ | refine Gr.drewN ?_ _ | refine Gr.grow ?_ _ | refine Gr.setCell ?_ (by (try simp); (try omega)) _))⟩
  · rw [show mkL k p n c s = mades k p n s c.toNat by simp [mkL, hb]]
    unfold ifZ
    simp only [if_true]
    have hb' := hb
    unfold mkB at hb'
    rw [Bool.and_eq_true, Bool.and_eq_true] at hb'
    have HH := Lib.hid hb'.1.1
    have HC := Lib.hid hb'.1.2
    have HS := Lib.hid hb'.2
    have hh := hb'.1.1
    rw [Bool.and_eq_true] at hh
    have hk := hh.1
    have hn := hh.2
    have hc := hb'.1.2
    have hs' := hb'.2
    clear hb hb' hh
    unfold inn at hn hc hs'
    simp only [decide_eq_true_eq] at hn hc hs'
    obtain ⟨m, rfl⟩ : ∃ m : Nat, c = (m : Int) := ⟨c.toNat, by omega⟩
    rw [Int.toNat_natCast]
    have hm : m ≤ 6 := by omega
    obtain ⟨k0, k1, k2, k3⟩ : 0 ≤ k ∧ k ≤ 2 ∧ 1 ≤ p ∧ p ≤ 1000 := by have := pst_t hk; omega
    have OF := Lib.hid (fun (x y : Int) (w : World) (a1 : 0 ≤ x) (a2 : x ≤ 5) (a3 : 0 ≤ y) (a4 : y ≤ 10006) => Try.pzOf k p n x y w k0 k1 k2 k3 hn.1 hn.2 a1 a2 a3 a4)
    have ZB := Lib.hid (fun i => zat_bd s hs'.1 hs'.2 i)
    have HM := Lib.hid hm
    clear hk hn hc hs' k0 k1 k2 k3 hm
    go_enter Try.func5, Try.ntmps5
    go_wp2_with (first | (go_at_call 16; refine (Try.pzHidden _ _ _ _ HH.out _).mono ?_; rintro e w1 ⟨rfl, hbW⟩; have hcW := (bcell hbW.below).1; have hfW := (bcell hbW.below).2; (try have hzW : w.heap.size < w1.heap.size := by have hq := hbW.below.size; (try simp at hq); omega); (try have hyW : w.heap.size + 1 < w1.heap.size := by have hq := hbW.below.size; (try simp at hq); omega); (try have hxW : w.heap.size + 2 < w1.heap.size := by have hq := hbW.below.size; (try simp at hq); omega)) | (go_at_call_of 17 (Value.int .i64 (m : Int)); refine (Try.l1In_b _ _ _ _ HC.out _).mono ?_; rintro e w2 ⟨rfl, rfl⟩) | (go_at_call_of 17 (Value.int .i64 s); refine (Try.l1In_b _ _ _ _ HS.out _).mono ?_; rintro e w2 ⟨rfl, rfl⟩))
    obtain ⟨W2, hW2⟩ : ∃ W, W = w1.alloc (Obj.cells #[.int .i64 k, .int .i64 p, .slice none 0 0] 27) := ⟨_, rfl⟩
    rw [← hW2]
    have GW : Gr w W2 := by rw [hW2]; exact (by repeat (first | exact Gr.refl _ | refine Gr.alloc ?_ _ | refine Gr.trans ?_ (by assumption) | refine Gr.drew ?_ | refine Gr.drewN ?_ _ | refine Gr.grow ?_ _ | refine Gr.setCell ?_ (by (try simp); (try omega)) _))
    have G2 : Gr w1 W2 := by rw [hW2]; exact Gr.alloc (Gr.refl _) _
    have c0 : W2.cell? ⟨w.heap.size, 0, none⟩ = some (.int .i64 k) := G2.keep0 (hbW.keep0 (by simp [go_sem]))
    have c1 : W2.cell? ⟨w.heap.size, 1, none⟩ = some (.int .i64 p) := G2.keep0 (hbW.keep0 (by simp [go_sem]))
    have r0 : W2.cell? ⟨w.heap.size + 1, 0, none⟩ = some (.int .i64 0) := G2.keep0 (hbW.keep0 (by simp [go_sem]))
    have r1 : W2.cell? ⟨w.heap.size + 1, 1, none⟩ = some (.int .i64 0) := G2.keep0 (hbW.keep0 (by simp [go_sem]))
    have r2 : W2.cell? ⟨w.heap.size + 1, 2, none⟩ = some (.slice none 0 0) := G2.keep0 (hbW.keep0 (by simp [go_sem]))
    have rf : ∀ o, W2.frozen? ⟨w.heap.size + 1, o, none⟩ = false := fun o => (G2.below.frozen (p := ⟨w.heap.size + 1, o, none⟩) hyW).trans (((bcell hbW.below).2 _ _ (by simp)).trans (by simp [go_sem]))
    have p0 : W2.cell? ⟨w1.heap.size, 0, none⟩ = some (.int .i64 k) := by rw [hW2]; simp [go_sem]
    have p1 : W2.cell? ⟨w1.heap.size, 1, none⟩ = some (.int .i64 p) := by rw [hW2]; simp [go_sem]
    have p2 : W2.cell? ⟨w1.heap.size, 2, none⟩ = some (.slice none 0 0) := by rw [hW2]; simp [go_sem]
    have pf : ∀ o, W2.frozen? ⟨w1.heap.size, o, none⟩ = false := fun o => by rw [hW2]; simp [go_sem]
    have GG := Lib.hid GW
    have C := Lib.hid (And.intro c0 c1)
    have R := Lib.hid (And.intro r0 (And.intro r1 (And.intro r2 rf)))
    have P := Lib.hid (And.intro p0 (And.intro p1 (And.intro p2 pf)))
    have hb1 : w.heap.size + 1 < w1.heap.size := hyW
    generalize hbb : w1.heap.size = b at *
    clear c0 c1 r0 r1 r2 rf p0 p1 p2 pf GW G2 hW2 hbW hcW hfW hzW hyW hbb
    clear w1
    go_loopw [2, 11] (fun s2 s11 wr => MkRel k p n s m b W2 s2 s11 wr) (fun s2 _ _ => (intOf s2).toNat)
    case atStart => exact ⟨0, _, Nat.zero_le _, rfl, rfl, OwnE.nil _ _ _ _ _, P.out.1, P.out.2.1, P.out.2.2.1, P.out.2.2.2, Below.refl _ _⟩
    case round =>
      obtain ⟨j, v, hj, rfl, rfl, ho, p0, p1, p2, pf, hbl⟩ := hrel
      have szr := hbl.size
      have q0 : wr.cell? ⟨w.heap.size, 0, none⟩ = some (.int .i64 k) := (hbl.cell (by show w.heap.size < _; omega)).trans C.out.1
      have q1 : wr.cell? ⟨w.heap.size, 1, none⟩ = some (.int .i64 p) := (hbl.cell (by show w.heap.size < _; omega)).trans C.out.2
      obtain ⟨A, cc, rfl, ho⟩ := OwnE.eta ho
      have HO := Lib.hid ho
      have HBL := Lib.hid hbl
      have HPF := Lib.hid pf
      have HQ := Lib.hid (And.intro q0 q1)
      have HP := Lib.hid (And.intro p0 p1)
      have hz := World.block_lt_of_cell? _ _ p0
      clear ho hbl pf p0 p1
      by_cases hlt : j < m
      · have z1 : (0 : Int) < ((m - j : Nat) : Int) := by omega
        have HLT := Lib.hid hlt
        have hz0 := ZB.out (2 * j)
        generalize hzz : zat s (2 * j) = z at hz0 ⊢
        have HZZ := Lib.hid hzz
        have nb := nxz_bd z
        have nb2 := nxz_bd (nxz z)
        have NX1 := Lib.hid (fun w => Try.pzNext z hz0.1 hz0.2 w)
        have NX2 := Lib.hid (fun w => Try.pzNext (nxz z) nb.1 nb.2 w)
        have em : (nxz z).tmod 6 = nxz z % 6 := by rw [Int.tmod_eq_emod_of_nonneg nb.1]
        have mb : 0 ≤ nxz z % 6 ∧ nxz z % 6 ≤ 5 := by omega
        have ew : IntKind.i64.wrap (nxz z % 6) = nxz z % 6 := wr64 _ (by omega) (by omega)
        have es : IntKind.i64.wrap (((m - j : Nat) : Int) - 1) = ((m - (j + 1) : Nat) : Int) := by rw [wr64 _ (by omega) (by have := HM.out; omega)]; omega
        have OF1 := Lib.hid (fun w => OF.out (nxz z % 6) (nxz (nxz z)) w mb.1 mb.2 nb2.1 nb2.2)
        clear hzz nb nb2 mb hz0
        go_wp2_with (first | (go_at_call_of 18 (Value.int .i64 z); refine (NX1.out _).mono ?_; rintro e w2 ⟨rfl, rfl⟩) | (go_at_call_of 18 (Value.int .i64 (nxz z)); refine (NX2.out _).mono ?_; rintro e w2 ⟨rfl, rfl⟩))
        clear em ew NX1 NX2
        generalize hkd : nxz z % 6 = kd at OF1 ⊢
        generalize hy2 : nxz (nxz z) = y2 at OF1 ⊢
        generalize hya : yA kd y2 = ya at OF1
        generalize hpv : pval k p kd ya n = pv at OF1
        have HM2 := Lib.hid (show mclu k p n (nxz z % 6) (nxz (nxz z)) = (kd, ya, pv) by unfold mclu; rw [hkd, hy2, hya, hpv])
        have HY := Lib.hid hy2
        clear hkd hy2 hya hpv
        refine wp_region_held_drew (S := fun W' => W'.cell? ⟨w.heap.size, 0, none⟩ = some (.int .i64 k) ∧ W'.cell? ⟨w.heap.size, 1, none⟩ = some (.int .i64 p)) (by kernel_rfl) (two_k2 HQ.out (Below.drew (Below.refl _ _))) (fun hHeld => ?_)
        (refine wpAnyH_take (i := 0) (v := ?_) (by simp only [List.getElem?_toArray, List.getElem?_cons_succ, List.getElem?_cons_zero]; exact rfl) (by kernel_rfl) (by kernel_rfl) (by kernel_rfl) (by intro _ _ _ h; exact h) (Or.inl ⟨by rfl, ?_⟩) (by assumption) ?_; rotate_left; (focus (intro w' hSw; (try dsimp only at hSw); go_simp; (try with_reducible rfl))); try simp only [Act.put, List.setIfInBounds_toArray, List.set_cons_zero, List.set_cons_succ])
        (refine wpAnyH_take (i := 2) (v := ?_) (by simp only [List.getElem?_toArray, List.getElem?_cons_succ, List.getElem?_cons_zero]; exact rfl) (by kernel_rfl) (by kernel_rfl) (by kernel_rfl) (by intro _ _ _ h; exact h) (Or.inl ⟨by rfl, ?_⟩) (by assumption) ?_; rotate_left; (focus (intro w' hSw; (try dsimp only at hSw); go_simp; (try with_reducible rfl))); try simp only [Act.put, List.setIfInBounds_toArray, List.set_cons_zero, List.set_cons_succ])
        (refine wpAnyH_take (i := 3) (v := ?_) (by simp only [List.getElem?_toArray, List.getElem?_cons_succ, List.getElem?_cons_zero]; exact rfl) (by kernel_rfl) (by kernel_rfl) (by kernel_rfl) (by intro _ _ _ h; exact h) (Or.inl ⟨by rfl, ?_⟩) (by assumption) ?_; rotate_left; (focus (intro w' hSw; (try dsimp only at hSw); go_simp; (try with_reducible rfl))); try simp only [Act.put, List.setIfInBounds_toArray, List.set_cons_zero, List.set_cons_succ])
        (refine wpAnyH_take (i := 4) (v := ?_) (by simp only [List.getElem?_toArray, List.getElem?_cons_succ, List.getElem?_cons_zero]; exact rfl) (by kernel_rfl) (by kernel_rfl) (by kernel_rfl) (by intro _ _ _ h; exact h) (Or.inl ⟨by rfl, ?_⟩) (by assumption) ?_; rotate_left; (focus (intro w' hSw; (try dsimp only at hSw); go_simp; (try with_reducible rfl))); try simp only [Act.put, List.setIfInBounds_toArray, List.set_cons_zero, List.set_cons_succ])
        (refine wpAnyH_take (i := 5) (v := ?_) (by simp only [List.getElem?_toArray, List.getElem?_cons_succ, List.getElem?_cons_zero]; exact rfl) (by kernel_rfl) (by kernel_rfl) (by kernel_rfl) (by intro _ _ _ h; exact h) (Or.inl ⟨by rfl, ?_⟩) (by assumption) ?_; rotate_left; (focus (intro w' hSw; (try dsimp only at hSw); go_simp; (try with_reducible rfl))); try simp only [Act.put, List.setIfInBounds_toArray, List.set_cons_zero, List.set_cons_succ])
        refine wpAnyH_ready (rs := [1, 6]) (by kernel_rfl) (by simp) (AllReadyH.cons (by simp only [List.getElem?_toArray, List.getElem?_cons_succ, List.getElem?_cons_zero]; exact rfl) (fun K' hK => ?_) (AllReadyH.cons (by simp only [List.getElem?_toArray, List.getElem?_cons_succ, List.getElem?_cons_zero]; exact rfl) (fun K' hK => ?_) AllReadyH.nil))
        · go_simp
          (refine hK.out _ _ (hHeld) (fun hHeld => ?_); clear hK K'; try simp only [Act.put, List.setIfInBounds_toArray, List.set_cons_zero, List.set_cons_succ])
          refine wpAnyH_ready (rs := [6]) (by kernel_rfl) (by simp) (AllReadyH.cons (by simp only [List.getElem?_toArray, List.getElem?_cons_succ, List.getElem?_cons_zero]; exact rfl) (fun K' hK => ?_) AllReadyH.nil)
          go_simp
          (first | (go_at_call 19; refine (OF1.out _).mono ?_; rintro e w3 ⟨rfl, g3⟩))
          have G3 : Gr wr w3 := (Gr.drew (Gr.refl _)).trans g3
          have S3 := two_k2 HQ.out G3.below
          have p3 := G3.keep0 p2
          have z3 : b < w3.heap.size := World.block_lt_of_cell? _ _ p3
          (refine hK.out _ _ (S3) (fun hHeld => ?_); clear hK K'; try simp only [Act.put, List.setIfInBounds_toArray, List.set_cons_zero, List.set_cons_succ])
          refine wpAnyH_ready (rs := [7]) (by kernel_rfl) (by simp) (AllReadyH.cons (by simp only [List.getElem?_toArray, List.getElem?_cons_succ, List.getElem?_cons_zero]; exact rfl) (fun K' hK => ?_) AllReadyH.nil)
          go_simp
          (refine hK.out _ _ (two_k2 S3 (Gr.alloc (Gr.refl _) _).below) (fun hHeld => ?_); clear hK K'; try simp only [Act.put, List.setIfInBounds_toArray, List.set_cons_zero, List.set_cons_succ])
          refine wpAnyH_ready (rs := [8]) (by kernel_rfl) (by simp) (AllReadyH.cons (by simp only [List.getElem?_toArray, List.getElem?_cons_succ, List.getElem?_cons_zero]; exact rfl) (fun K' hK => ?_) AllReadyH.nil)
          refine step_appE ccs_len ccs_one rfl (.tmp 42) (.tmp 48) 25 rfl 42 Try.underlying25 Try.infoC rfl (by decide) (by decide) (b + 1) _ _ rfl (HO.out.gr (Gr.alloc G3 _)) ⟨w3.heap.size, 0, none⟩ 1 1 [(kd, ya, pv)] rfl rfl (fun j u hu => alloc_cells (by simpa [ecs, ccs] using hu)) (by rw [mades_len]; have := HLT.out; have := HM.out; omega) (by simp) (by have := G3.below.size; simp; omega) ?_; intro v4 w4 ho4 hb4 _ _; obtain ⟨A4, c4, rfl, ho4⟩ := OwnE.eta ho4; simp only [List.length_append, List.length_cons, List.length_nil, Nat.zero_add] at ho4
          have S4 : w4.cell? ⟨w.heap.size, 0, none⟩ = some (.int .i64 k) ∧ w4.cell? ⟨w.heap.size, 1, none⟩ = some (.int .i64 p) := ⟨(hb4.cell (Nat.lt_succ_of_lt (Nat.lt_of_succ_lt hb1))).trans ((Gr.alloc (Gr.refl _) _).keep0 S3.1), (hb4.cell (Nat.lt_succ_of_lt (Nat.lt_of_succ_lt hb1))).trans ((Gr.alloc (Gr.refl _) _).keep0 S3.2)⟩
          have p4 := (hb4.cell (p := ⟨b, 2, none⟩) (Nat.lt_succ_self _)).trans ((Gr.alloc (Gr.refl _) _).keep0 p3)
          have f4 : ∀ o, w4.frozen? ⟨b, o, none⟩ = false := fun o => (hb4.frozen (p := ⟨b, o, none⟩) (Nat.lt_succ_self _)).trans (((Gr.alloc G3 _).below.frozen (p := ⟨b, o, none⟩) hz).trans (HPF.out o))
          (refine hK.out _ _ (S4) (fun hHeld => ?_); clear hK K'; try simp only [Act.put, List.setIfInBounds_toArray, List.set_cons_zero, List.set_cons_succ])
          refine wpAnyH_ready (rs := [9]) (by kernel_rfl) (by simp) (AllReadyH.cons (by simp only [List.getElem?_toArray, List.getElem?_cons_succ, List.getElem?_cons_zero]; exact rfl) (fun K' hK => ?_) AllReadyH.nil)
          go_simp
          (refine hK.out _ _ (S4) (fun hHeld => ?_); clear hK K'; try simp only [Act.put, List.setIfInBounds_toArray, List.set_cons_zero, List.set_cons_succ])
          refine wpAnyH_ready (rs := [10]) (by kernel_rfl) (by simp) (AllReadyH.cons (by simp only [List.getElem?_toArray, List.getElem?_cons_succ, List.getElem?_cons_zero]; exact rfl) (fun K' hK => ?_) AllReadyH.nil)
          go_simp
          (refine hK.out _ _ (⟨cell_set_lt S4.1 (Nat.lt_of_succ_lt hb1), cell_set_lt S4.2 (Nat.lt_of_succ_lt hb1)⟩) (fun hHeld => ?_); clear hK K'; try simp only [Act.put, List.setIfInBounds_toArray, List.set_cons_zero, List.set_cons_succ])
          refine wpAnyH_done (by kernel_rfl) ?_ _
          go_wp2
          go_roundw
          case rel => exact ⟨j + 1, _, HLT.out, rfl, by rw [zat_two, HZZ.out, HY.out], by rw [mades_succ, HZZ.out, HM2.out]; exact OwnE.setOther (a := ⟨b, 2, none⟩) ho4 (Nat.lt_succ_self b) _, (World.cell?_setCell_other _ _ _ _ (by simp)).trans ((hb4.cell (p := ⟨b, 0, none⟩) (Nat.lt_succ_self _)).trans ((Gr.alloc G3 _).keep0 HP.out.1)), (World.cell?_setCell_other _ _ _ _ (by simp)).trans ((hb4.cell (p := ⟨b, 1, none⟩) (Nat.lt_succ_self _)).trans ((Gr.alloc G3 _).keep0 HP.out.2)), World.cell?_setCell_same _ _ _ p4, fun o => (World.frozen?_setCell _ _ _ _).trans (f4 o), ((HBL.out.trans ((Gr.alloc G3 _).below.mono (by omega))).trans (hb4.mono (by omega))).setCell (by simp) _⟩
          case measure => simp [intOf]; have := HLT.out; omega
        · go_simp
          (first | (go_at_call 19; refine (OF1.out _).mono ?_; rintro e w3 ⟨rfl, g3⟩))
          have G3 : Gr wr w3 := (Gr.drew (Gr.refl _)).trans g3
          have S3 := two_k2 HQ.out G3.below
          have p3 := G3.keep0 p2
          have z3 : b < w3.heap.size := World.block_lt_of_cell? _ _ p3
          (refine hK.out _ _ (S3) (fun hHeld => ?_); clear hK K'; try simp only [Act.put, List.setIfInBounds_toArray, List.set_cons_zero, List.set_cons_succ])
          refine wpAnyH_ready (rs := [1, 7]) (by kernel_rfl) (by simp) (AllReadyH.cons (by simp only [List.getElem?_toArray, List.getElem?_cons_succ, List.getElem?_cons_zero]; exact rfl) (fun K' hK => ?_) (AllReadyH.cons (by simp only [List.getElem?_toArray, List.getElem?_cons_succ, List.getElem?_cons_zero]; exact rfl) (fun K' hK => ?_) AllReadyH.nil))
          · go_simp
            (refine hK.out _ _ (hHeld) (fun hHeld => ?_); clear hK K'; try simp only [Act.put, List.setIfInBounds_toArray, List.set_cons_zero, List.set_cons_succ])
            refine wpAnyH_ready (rs := [7]) (by kernel_rfl) (by simp) (AllReadyH.cons (by simp only [List.getElem?_toArray, List.getElem?_cons_succ, List.getElem?_cons_zero]; exact rfl) (fun K' hK => ?_) AllReadyH.nil)
            go_simp
            (refine hK.out _ _ (two_k2 S3 (Gr.alloc (Gr.refl _) _).below) (fun hHeld => ?_); clear hK K'; try simp only [Act.put, List.setIfInBounds_toArray, List.set_cons_zero, List.set_cons_succ])
            refine wpAnyH_ready (rs := [8]) (by kernel_rfl) (by simp) (AllReadyH.cons (by simp only [List.getElem?_toArray, List.getElem?_cons_succ, List.getElem?_cons_zero]; exact rfl) (fun K' hK => ?_) AllReadyH.nil)
            refine step_appE ccs_len ccs_one rfl (.tmp 42) (.tmp 48) 25 rfl 42 Try.underlying25 Try.infoC rfl (by decide) (by decide) (b + 1) _ _ rfl (HO.out.gr (Gr.alloc G3 _)) ⟨w3.heap.size, 0, none⟩ 1 1 [(kd, ya, pv)] rfl rfl (fun j u hu => alloc_cells (by simpa [ecs, ccs] using hu)) (by rw [mades_len]; have := HLT.out; have := HM.out; omega) (by simp) (by have := G3.below.size; simp; omega) ?_; intro v4 w4 ho4 hb4 _ _; obtain ⟨A4, c4, rfl, ho4⟩ := OwnE.eta ho4; simp only [List.length_append, List.length_cons, List.length_nil, Nat.zero_add] at ho4
            have S4 : w4.cell? ⟨w.heap.size, 0, none⟩ = some (.int .i64 k) ∧ w4.cell? ⟨w.heap.size, 1, none⟩ = some (.int .i64 p) := ⟨(hb4.cell (Nat.lt_succ_of_lt (Nat.lt_of_succ_lt hb1))).trans ((Gr.alloc (Gr.refl _) _).keep0 S3.1), (hb4.cell (Nat.lt_succ_of_lt (Nat.lt_of_succ_lt hb1))).trans ((Gr.alloc (Gr.refl _) _).keep0 S3.2)⟩
            have p4 := (hb4.cell (p := ⟨b, 2, none⟩) (Nat.lt_succ_self _)).trans ((Gr.alloc (Gr.refl _) _).keep0 p3)
            have f4 : ∀ o, w4.frozen? ⟨b, o, none⟩ = false := fun o => (hb4.frozen (p := ⟨b, o, none⟩) (Nat.lt_succ_self _)).trans (((Gr.alloc G3 _).below.frozen (p := ⟨b, o, none⟩) hz).trans (HPF.out o))
            (refine hK.out _ _ (S4) (fun hHeld => ?_); clear hK K'; try simp only [Act.put, List.setIfInBounds_toArray, List.set_cons_zero, List.set_cons_succ])
            refine wpAnyH_ready (rs := [9]) (by kernel_rfl) (by simp) (AllReadyH.cons (by simp only [List.getElem?_toArray, List.getElem?_cons_succ, List.getElem?_cons_zero]; exact rfl) (fun K' hK => ?_) AllReadyH.nil)
            go_simp
            (refine hK.out _ _ (S4) (fun hHeld => ?_); clear hK K'; try simp only [Act.put, List.setIfInBounds_toArray, List.set_cons_zero, List.set_cons_succ])
            refine wpAnyH_ready (rs := [10]) (by kernel_rfl) (by simp) (AllReadyH.cons (by simp only [List.getElem?_toArray, List.getElem?_cons_succ, List.getElem?_cons_zero]; exact rfl) (fun K' hK => ?_) AllReadyH.nil)
            go_simp
            (refine hK.out _ _ (⟨cell_set_lt S4.1 (Nat.lt_of_succ_lt hb1), cell_set_lt S4.2 (Nat.lt_of_succ_lt hb1)⟩) (fun hHeld => ?_); clear hK K'; try simp only [Act.put, List.setIfInBounds_toArray, List.set_cons_zero, List.set_cons_succ])
            refine wpAnyH_done (by kernel_rfl) ?_ _
            go_wp2
            go_roundw
            case rel => exact ⟨j + 1, _, HLT.out, rfl, by rw [zat_two, HZZ.out, HY.out], by rw [mades_succ, HZZ.out, HM2.out]; exact OwnE.setOther (a := ⟨b, 2, none⟩) ho4 (Nat.lt_succ_self b) _, (World.cell?_setCell_other _ _ _ _ (by simp)).trans ((hb4.cell (p := ⟨b, 0, none⟩) (Nat.lt_succ_self _)).trans ((Gr.alloc G3 _).keep0 HP.out.1)), (World.cell?_setCell_other _ _ _ _ (by simp)).trans ((hb4.cell (p := ⟨b, 1, none⟩) (Nat.lt_succ_self _)).trans ((Gr.alloc G3 _).keep0 HP.out.2)), World.cell?_setCell_same _ _ _ p4, fun o => (World.frozen?_setCell _ _ _ _).trans (f4 o), ((HBL.out.trans ((Gr.alloc G3 _).below.mono (by omega))).trans (hb4.mono (by omega))).setCell (by simp) _⟩
            case measure => simp [intOf]; have := HLT.out; omega
          · go_simp
            (refine hK.out _ _ (two_k2 S3 (Gr.alloc (Gr.refl _) _).below) (fun hHeld => ?_); clear hK K'; try simp only [Act.put, List.setIfInBounds_toArray, List.set_cons_zero, List.set_cons_succ])
            refine wpAnyH_ready (rs := [1]) (by kernel_rfl) (by simp) (AllReadyH.cons (by simp only [List.getElem?_toArray, List.getElem?_cons_succ, List.getElem?_cons_zero]; exact rfl) (fun K' hK => ?_) AllReadyH.nil)
            go_simp
            (refine hK.out _ _ (hHeld) (fun hHeld => ?_); clear hK K'; try simp only [Act.put, List.setIfInBounds_toArray, List.set_cons_zero, List.set_cons_succ])
            refine wpAnyH_ready (rs := [8]) (by kernel_rfl) (by simp) (AllReadyH.cons (by simp only [List.getElem?_toArray, List.getElem?_cons_succ, List.getElem?_cons_zero]; exact rfl) (fun K' hK => ?_) AllReadyH.nil)
            refine step_appE ccs_len ccs_one rfl (.tmp 42) (.tmp 48) 25 rfl 42 Try.underlying25 Try.infoC rfl (by decide) (by decide) (b + 1) _ _ rfl (HO.out.gr (Gr.alloc G3 _)) ⟨w3.heap.size, 0, none⟩ 1 1 [(kd, ya, pv)] rfl rfl (fun j u hu => alloc_cells (by simpa [ecs, ccs] using hu)) (by rw [mades_len]; have := HLT.out; have := HM.out; omega) (by simp) (by have := G3.below.size; simp; omega) ?_; intro v4 w4 ho4 hb4 _ _; obtain ⟨A4, c4, rfl, ho4⟩ := OwnE.eta ho4; simp only [List.length_append, List.length_cons, List.length_nil, Nat.zero_add] at ho4
            have S4 : w4.cell? ⟨w.heap.size, 0, none⟩ = some (.int .i64 k) ∧ w4.cell? ⟨w.heap.size, 1, none⟩ = some (.int .i64 p) := ⟨(hb4.cell (Nat.lt_succ_of_lt (Nat.lt_of_succ_lt hb1))).trans ((Gr.alloc (Gr.refl _) _).keep0 S3.1), (hb4.cell (Nat.lt_succ_of_lt (Nat.lt_of_succ_lt hb1))).trans ((Gr.alloc (Gr.refl _) _).keep0 S3.2)⟩
            have p4 := (hb4.cell (p := ⟨b, 2, none⟩) (Nat.lt_succ_self _)).trans ((Gr.alloc (Gr.refl _) _).keep0 p3)
            have f4 : ∀ o, w4.frozen? ⟨b, o, none⟩ = false := fun o => (hb4.frozen (p := ⟨b, o, none⟩) (Nat.lt_succ_self _)).trans (((Gr.alloc G3 _).below.frozen (p := ⟨b, o, none⟩) hz).trans (HPF.out o))
            (refine hK.out _ _ (S4) (fun hHeld => ?_); clear hK K'; try simp only [Act.put, List.setIfInBounds_toArray, List.set_cons_zero, List.set_cons_succ])
            refine wpAnyH_ready (rs := [9]) (by kernel_rfl) (by simp) (AllReadyH.cons (by simp only [List.getElem?_toArray, List.getElem?_cons_succ, List.getElem?_cons_zero]; exact rfl) (fun K' hK => ?_) AllReadyH.nil)
            go_simp
            (refine hK.out _ _ (S4) (fun hHeld => ?_); clear hK K'; try simp only [Act.put, List.setIfInBounds_toArray, List.set_cons_zero, List.set_cons_succ])
            refine wpAnyH_ready (rs := [10]) (by kernel_rfl) (by simp) (AllReadyH.cons (by simp only [List.getElem?_toArray, List.getElem?_cons_succ, List.getElem?_cons_zero]; exact rfl) (fun K' hK => ?_) AllReadyH.nil)
            go_simp
            (refine hK.out _ _ (⟨cell_set_lt S4.1 (Nat.lt_of_succ_lt hb1), cell_set_lt S4.2 (Nat.lt_of_succ_lt hb1)⟩) (fun hHeld => ?_); clear hK K'; try simp only [Act.put, List.setIfInBounds_toArray, List.set_cons_zero, List.set_cons_succ])
            refine wpAnyH_done (by kernel_rfl) ?_ _
            go_wp2
            go_roundw
            case rel => exact ⟨j + 1, _, HLT.out, rfl, by rw [zat_two, HZZ.out, HY.out], by rw [mades_succ, HZZ.out, HM2.out]; exact OwnE.setOther (a := ⟨b, 2, none⟩) ho4 (Nat.lt_succ_self b) _, (World.cell?_setCell_other _ _ _ _ (by simp)).trans ((hb4.cell (p := ⟨b, 0, none⟩) (Nat.lt_succ_self _)).trans ((Gr.alloc G3 _).keep0 HP.out.1)), (World.cell?_setCell_other _ _ _ _ (by simp)).trans ((hb4.cell (p := ⟨b, 1, none⟩) (Nat.lt_succ_self _)).trans ((Gr.alloc G3 _).keep0 HP.out.2)), World.cell?_setCell_same _ _ _ p4, fun o => (World.frozen?_setCell _ _ _ _).trans (f4 o), ((HBL.out.trans ((Gr.alloc G3 _).below.mono (by omega))).trans (hb4.mono (by omega))).setCell (by simp) _⟩
            case measure => simp [intOf]; have := HLT.out; omega
      · obtain rfl : j = m := by omega
        have z1 : ¬ (0 : Int) < ((j - j : Nat) : Int) := by omega
        have r0 : wr.cell? ⟨w.heap.size + 1, 0, none⟩ = some (.int .i64 0) := (HBL.out.cell (by show w.heap.size + 1 < _; omega)).trans R.out.1
        have r1 : wr.cell? ⟨w.heap.size + 1, 1, none⟩ = some (.int .i64 0) := (HBL.out.cell (by show w.heap.size + 1 < _; omega)).trans R.out.2.1
        have r2 : wr.cell? ⟨w.heap.size + 1, 2, none⟩ = some (.slice none 0 0) := (HBL.out.cell (by show w.heap.size + 1 < _; omega)).trans R.out.2.2.1
        have rf : ∀ o, wr.frozen? ⟨w.heap.size + 1, o, none⟩ = false := fun o => (HBL.out.frozen (p := ⟨w.heap.size + 1, o, none⟩) (by show w.heap.size + 1 < _; omega)).trans (R.out.2.2.2 o)
        have p0 := HP.out.1
        have p1 := HP.out.2
        go_wp2
        refine bodyPost_ret (v := .tuple #[.agg #[.int .i64 k, .int .i64 p, .slice A (mades k p n s j).length cc], .bool true]) (by simp [results, Try.results5, go_sem, r0, r1, r2]) rfl ⟨_, rfl, ?_, ?_⟩
        · exact OwnE.mono (OwnE.setOther (OwnE.setOther (OwnE.setOther HO.out (by simp; omega) _) (by simp; omega) _) (by simp; omega) _) (by omega)
        · exact (((GG.out.below.trans (HBL.out.mono (by omega))).setCell (by simp) _).setCell (by simp) _).setCell (by simp) _
end Go.Proofs
