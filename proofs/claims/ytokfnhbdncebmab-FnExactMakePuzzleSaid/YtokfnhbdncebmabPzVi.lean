/-
  Chapter 9: puzzles made, both sides.
-/
import Derived.Test.YtokfnhbdncebmabPzV
namespace Go.Proofs
open Go.RowKit
set_option linter.unusedVariables false
set_option linter.unusedSimpArgs false
set_option maxRecDepth 100000 in
set_option maxHeartbeats 3200000 in
theorem Try.iMakePuzzle (w : World) (k p n c s : Int) :
    Calls Try.prog 7 #[.agg #[.int .i64 k, .int .i64 p], .int .i64 n, .int .i64 c, .int .i64 s] w (RetZ w (ifZ (mkB k p n c s) k) (ifZ (mkB k p n c s) p) (mkL k p n c s) (mkB k p n c s)) := by
  cases hb : mkB k p n c s
  · rw [show mkL k p n c s = [] by simp [mkL, hb]]
    unfold ifZ
    simp only [Bool.false_eq_true, if_false]
    cases hp : pst k p
    · have HP := Lib.hid hp
      clear hb hp
      go_enter Try.func7, Try.ntmps7
      go_wp2_with (first | (go_at_call 20; refine (Try.canHide _ _ _ HP.out _).mono ?_; rintro e w1 ⟨rfl, hbW⟩; have hcW := (bcell hbW.below).1; have hfW := (bcell hbW.below).2; (try have hzW : w.heap.size < w1.heap.size := by have hq := hbW.below.size; (try simp at hq); omega); (try have hyW : w.heap.size + 1 < w1.heap.size := by have hq := hbW.below.size; (try simp at hq); omega); (try have hxW : w.heap.size + 2 < w1.heap.size := by have hq := hbW.below.size; (try simp at hq); omega)))
      refine bodyPost_ret (v := .tuple #[.agg #[.int .i64 0, .int .i64 0, .slice none 0 0], .bool false]) (by simp [results, Try.results7, go_sem, hcW, hfW, hyW]) rfl ⟨_, rfl, OwnE.nil _ _ _ _ _, Gr.below (by repeat (first | exact Gr.refl _ | refine Gr.alloc ?_ _ | refine Gr.trans ?_ (by assumption) | refine Gr.drew ?_ | refine Gr.drewN ?_ _ | refine Gr.grow ?_ _ | refine Gr.setCell ?_ (by (try simp); (try omega)) _))⟩
    · cases hq : decide (Asked k p n)
      · have HP := Lib.hid hp
        have HQ := Lib.hid hq
        clear hb hp hq
        go_enter Try.func7, Try.ntmps7
        go_wp2_with (first | (go_at_call 20; refine (Try.canHide _ _ _ HP.out _).mono ?_; rintro e wA ⟨rfl, hA⟩; have ca0 : wA.cell? ⟨w.heap.size, 0, none⟩ = some (.int .i64 k) := hA.keep0 (by simp [go_sem]); have ca1 : wA.cell? ⟨w.heap.size, 1, none⟩ = some (.int .i64 p) := hA.keep0 (by simp [go_sem]); have cy := (bcell hA.below).1; have fy := (bcell hA.below).2; have zA : w.heap.size + 1 < wA.heap.size := (by have hq := hA.below.size; (try simp at hq); omega)) | (go_at_call 21; refine (Try.hasHouse _ _ _ _ HQ.out _).mono ?_; rintro e w1 ⟨rfl, hB⟩; have cb0 := hB.keep0 ca0; have cb1 := hB.keep0 ca1; have hbW := hA.trans hB; have hcW := (bcell hbW.below).1; have hfW := (bcell hbW.below).2; have hyW : w.heap.size + 1 < w1.heap.size := (by have hq := hbW.below.size; (try simp at hq); omega); have hzW := hyW))
        refine bodyPost_ret (v := .tuple #[.agg #[.int .i64 0, .int .i64 0, .slice none 0 0], .bool false]) (by simp [results, Try.results7, go_sem, hcW, hfW, hyW]) rfl ⟨_, rfl, OwnE.nil _ _ _ _ _, Gr.below (by repeat (first | exact Gr.refl _ | refine Gr.alloc ?_ _ | refine Gr.trans ?_ (by assumption) | refine Gr.drew ?_ | refine Gr.drewN ?_ _ | refine Gr.grow ?_ _ | refine Gr.setCell ?_ (by (try simp); (try omega)) _))⟩
      · have hpn : (pst k p && inn n 1 (hs k p)) = true := by rw [hp, Bool.true_and]; have := of_decide_eq_true hq; exact inn_of this.2.1 this.2.2
        cases hc0 : inn c 0 6
        · have HP := Lib.hid hp
          have HQ := Lib.hid hq
          have HC := Lib.hid hc0
          clear hb hp hq hc0 hpn
          go_enter Try.func7, Try.ntmps7
          go_wp2_with (first | (go_at_call 20; refine (Try.canHide _ _ _ HP.out _).mono ?_; rintro e wA ⟨rfl, hA⟩; have ca0 : wA.cell? ⟨w.heap.size, 0, none⟩ = some (.int .i64 k) := hA.keep0 (by simp [go_sem]); have ca1 : wA.cell? ⟨w.heap.size, 1, none⟩ = some (.int .i64 p) := hA.keep0 (by simp [go_sem]); have cy := (bcell hA.below).1; have fy := (bcell hA.below).2; have zA : w.heap.size + 1 < wA.heap.size := (by have hq := hA.below.size; (try simp at hq); omega)) | (go_at_call 21; refine (Try.hasHouse _ _ _ _ HQ.out _).mono ?_; rintro e w1 ⟨rfl, hB⟩; have cb0 := hB.keep0 ca0; have cb1 := hB.keep0 ca1; have hbW := hA.trans hB; have hcW := (bcell hbW.below).1; have hfW := (bcell hbW.below).2; have hyW : w.heap.size + 1 < w1.heap.size := (by have hq := hbW.below.size; (try simp at hq); omega); have hzW := hyW) | (go_at_call_of 22 (Value.int .i64 c); refine (Try.within_b _ _ _ _ HC.out _).mono ?_; rintro e w2 ⟨rfl, rfl⟩))
          refine bodyPost_ret (v := .tuple #[.agg #[.int .i64 0, .int .i64 0, .slice none 0 0], .bool false]) (by simp [results, Try.results7, go_sem, hcW, hfW, hyW]) rfl ⟨_, rfl, OwnE.nil _ _ _ _ _, Gr.below (by repeat (first | exact Gr.refl _ | refine Gr.alloc ?_ _ | refine Gr.trans ?_ (by assumption) | refine Gr.drew ?_ | refine Gr.drewN ?_ _ | refine Gr.grow ?_ _ | refine Gr.setCell ?_ (by (try simp); (try omega)) _))⟩
        · have HP := Lib.hid hp
          have HQ := Lib.hid hq
          have HC := Lib.hid hc0
          have HS := Lib.hid (show inn s 0 9999 = false by unfold mkB at hb; rw [hpn, hc0, Bool.true_and, Bool.true_and] at hb; exact hb)
          clear hb hp hq hc0 hpn
          go_enter Try.func7, Try.ntmps7
          go_wp2_with (first | (go_at_call 20; refine (Try.canHide _ _ _ HP.out _).mono ?_; rintro e wA ⟨rfl, hA⟩; have ca0 : wA.cell? ⟨w.heap.size, 0, none⟩ = some (.int .i64 k) := hA.keep0 (by simp [go_sem]); have ca1 : wA.cell? ⟨w.heap.size, 1, none⟩ = some (.int .i64 p) := hA.keep0 (by simp [go_sem]); have cy := (bcell hA.below).1; have fy := (bcell hA.below).2; have zA : w.heap.size + 1 < wA.heap.size := (by have hq := hA.below.size; (try simp at hq); omega)) | (go_at_call 21; refine (Try.hasHouse _ _ _ _ HQ.out _).mono ?_; rintro e w1 ⟨rfl, hB⟩; have cb0 := hB.keep0 ca0; have cb1 := hB.keep0 ca1; have hbW := hA.trans hB; have hcW := (bcell hbW.below).1; have hfW := (bcell hbW.below).2; have hyW : w.heap.size + 1 < w1.heap.size := (by have hq := hbW.below.size; (try simp at hq); omega); have hzW := hyW) | (go_at_call_of 22 (Value.int .i64 c); refine (Try.within_b _ _ _ _ HC.out _).mono ?_; rintro e w2 ⟨rfl, rfl⟩) | (go_at_call_of 22 (Value.int .i64 s); refine (Try.within_b _ _ _ _ HS.out _).mono ?_; rintro e w2 ⟨rfl, rfl⟩))
          refine bodyPost_ret (v := .tuple #[.agg #[.int .i64 0, .int .i64 0, .slice none 0 0], .bool false]) (by simp [results, Try.results7, go_sem, hcW, hfW, hyW]) rfl ⟨_, rfl, OwnE.nil _ _ _ _ _, Gr.below (by repeat (first | exact Gr.refl _ | refine Gr.alloc ?_ _ | refine Gr.trans ?_ (by assumption) | refine Gr.drew ?_ | refine Gr.drewN ?_ _ | refine Gr.grow ?_ _ | refine Gr.setCell ?_ (by (try simp); (try omega)) _))⟩
  · rw [show mkL k p n c s = mades k p n s c.toNat by simp [mkL, hb]]
    unfold ifZ
    simp only [if_true]
    have hb' := hb
    unfold mkB at hb'
    rw [Bool.and_eq_true, Bool.and_eq_true] at hb'
    have HH := Lib.hid hb'.1.1
    have HC := Lib.hid hb'.1.2
    have HS := Lib.hid hb'.2
    have hh := hb'.1.1
    rw [Bool.and_eq_true] at hh
    have hk := hh.1
    have hn := hh.2
    have hc := hb'.1.2
    have hs' := hb'.2
    clear hb hb' hh
    unfold inn at hn hc hs'
    simp only [decide_eq_true_eq] at hn hc hs'
    obtain ⟨m, rfl⟩ : ∃ m : Nat, c = (m : Int) := ⟨c.toNat, by omega⟩
    rw [Int.toNat_natCast]
    have hm : m ≤ 6 := by omega
    obtain ⟨k0, k1, k2, k3⟩ : 0 ≤ k ∧ k ≤ 2 ∧ 1 ≤ p ∧ p ≤ 1000 := by have := pst_t hk; omega
    have HK := Lib.hid hk
    have HA := Lib.hid (show decide (Asked k p n) = true from decide_eq_true ⟨by have := pst_t hk; unfold Gd; omega, hn.1, hn.2⟩)
    have OF := Lib.hid (fun (x y : Int) (w : World) (a1 : 0 ≤ x) (a2 : x ≤ 5) (a3 : 0 ≤ y) => Try.clueOf k p n x (yA x y) w k0 k1 k2 k3 hn.1 hn.2 (yA_ok a1 a2 a3))
    have ZB := Lib.hid (fun i => zat_bd s hs'.1 hs'.2 i)
    have HM := Lib.hid hm
    clear hk hn hc hs' k0 k1 k2 k3 hm
    go_enter Try.func7, Try.ntmps7
    go_wp2_with (first | (go_at_call 20; refine (Try.canHide _ _ _ HK.out _).mono ?_; rintro e wA ⟨rfl, hA⟩; have ca0 : wA.cell? ⟨w.heap.size, 0, none⟩ = some (.int .i64 k) := hA.keep0 (by simp [go_sem]); have ca1 : wA.cell? ⟨w.heap.size, 1, none⟩ = some (.int .i64 p) := hA.keep0 (by simp [go_sem]); have cy := (bcell hA.below).1; have fy := (bcell hA.below).2; have zA : w.heap.size + 1 < wA.heap.size := (by have hq := hA.below.size; (try simp at hq); omega)) | (go_at_call 21; refine (Try.hasHouse _ _ _ _ HA.out _).mono ?_; rintro e w1 ⟨rfl, hB⟩; have cb0 := hB.keep0 ca0; have cb1 := hB.keep0 ca1; have hbW := hA.trans hB; have hcW := (bcell hbW.below).1; have hfW := (bcell hbW.below).2; have hyW : w.heap.size + 1 < w1.heap.size := (by have hq := hbW.below.size; (try simp at hq); omega); have hzW := hyW) | (go_at_call_of 22 (Value.int .i64 (m : Int)); refine (Try.within_b _ _ _ _ HC.out _).mono ?_; rintro e w2 ⟨rfl, rfl⟩) | (go_at_call_of 22 (Value.int .i64 s); refine (Try.within_b _ _ _ _ HS.out _).mono ?_; rintro e w2 ⟨rfl, rfl⟩))
    obtain ⟨W2, hW2⟩ : ∃ W, W = w1.alloc (Obj.cells #[.int .i64 k, .int .i64 p, .slice none 0 0] 27) := ⟨_, rfl⟩
    rw [← hW2]
    have GW : Gr w W2 := by rw [hW2]; exact (by repeat (first | exact Gr.refl _ | refine Gr.alloc ?_ _ | refine Gr.trans ?_ (by assumption) | refine Gr.drew ?_ | refine Gr.drewN ?_ _ | refine Gr.grow ?_ _ | refine Gr.setCell ?_ (by (try simp); (try omega)) _))
    have G2 : Gr w1 W2 := by rw [hW2]; exact Gr.alloc (Gr.refl _) _
    have c0 : W2.cell? ⟨w.heap.size, 0, none⟩ = some (.int .i64 k) := G2.keep0 (hbW.keep0 (by simp [go_sem]))
    have c1 : W2.cell? ⟨w.heap.size, 1, none⟩ = some (.int .i64 p) := G2.keep0 (hbW.keep0 (by simp [go_sem]))
    have r0 : W2.cell? ⟨w.heap.size + 1, 0, none⟩ = some (.int .i64 0) := G2.keep0 (hbW.keep0 (by simp [go_sem]))
    have r1 : W2.cell? ⟨w.heap.size + 1, 1, none⟩ = some (.int .i64 0) := G2.keep0 (hbW.keep0 (by simp [go_sem]))
    have r2 : W2.cell? ⟨w.heap.size + 1, 2, none⟩ = some (.slice none 0 0) := G2.keep0 (hbW.keep0 (by simp [go_sem]))
    have rf : ∀ o, W2.frozen? ⟨w.heap.size + 1, o, none⟩ = false := fun o => (G2.below.frozen (p := ⟨w.heap.size + 1, o, none⟩) hyW).trans (((bcell hbW.below).2 _ _ (by simp)).trans (by simp [go_sem]))
    have p0 : W2.cell? ⟨w1.heap.size, 0, none⟩ = some (.int .i64 k) := by rw [hW2]; simp [go_sem]
    have p1 : W2.cell? ⟨w1.heap.size, 1, none⟩ = some (.int .i64 p) := by rw [hW2]; simp [go_sem]
    have p2 : W2.cell? ⟨w1.heap.size, 2, none⟩ = some (.slice none 0 0) := by rw [hW2]; simp [go_sem]
    have pf : ∀ o, W2.frozen? ⟨w1.heap.size, o, none⟩ = false := fun o => by rw [hW2]; simp [go_sem]
    have GG := Lib.hid GW
    have C := Lib.hid (And.intro c0 c1)
    have R := Lib.hid (And.intro r0 (And.intro r1 (And.intro r2 rf)))
    have P := Lib.hid (And.intro p0 (And.intro p1 (And.intro p2 pf)))
    have hb1 : w.heap.size + 1 < w1.heap.size := hyW
    generalize hbb : w1.heap.size = b at *
    clear hA hB ca0 ca1 cb0 cb1 cy fy zA
    clear c0 c1 r0 r1 r2 rf p0 p1 p2 pf GW G2 hW2 hbW hcW hfW hzW hyW hbb
    clear w1
    clear wA
    go_loopw [11, 39] (fun s11 s39 wr => MkRelI k p n s m b W2 s11 s39 wr) (fun _ s39 _ => ((m : Int) - intOf s39).toNat)
    case atStart => exact ⟨0, _, Nat.zero_le _, rfl, rfl, OwnE.nil _ _ _ _ _, P.out.1, P.out.2.1, P.out.2.2.1, P.out.2.2.2, Below.refl _ _⟩
    case round =>
      obtain ⟨j, v, hj, rfl, rfl, ho, p0, p1, p2, pf, hbl⟩ := hrel
      have szr := hbl.size
      have q0 : wr.cell? ⟨w.heap.size, 0, none⟩ = some (.int .i64 k) := (hbl.cell (by show w.heap.size < _; omega)).trans C.out.1
      have q1 : wr.cell? ⟨w.heap.size, 1, none⟩ = some (.int .i64 p) := (hbl.cell (by show w.heap.size < _; omega)).trans C.out.2
      obtain ⟨A, cc, rfl, ho⟩ := OwnE.eta ho
      have HO := Lib.hid ho
      have HBL := Lib.hid hbl
      have HPF := Lib.hid pf
      have HQ := Lib.hid (And.intro q0 q1)
      have HP := Lib.hid (And.intro p0 p1)
      have hz := World.block_lt_of_cell? _ _ p0
      have P2 := Lib.hid p2
      clear ho hbl pf p0 p1
      by_cases hlt : j < m
      · have z1 : (j : Int) < (m : Int) := by omega
        have HLT := Lib.hid hlt
        have hz0 := ZB.out (2 * j)
        generalize hzz : zat s (2 * j) = z at hz0 ⊢
        have HZZ := Lib.hid hzz
        have nb := nxz_bd z
        have nb2 := nxz_bd (nxz z)
        have NX1 := Lib.hid (fun w => Try.nextMade z hz0.1 hz0.2 w)
        have NX2 := Lib.hid (fun w => Try.nextMade (nxz z) nb.1 nb.2 w)
        have em : (nxz z).tmod 6 = nxz z % 6 := by rw [Int.tmod_eq_emod_of_nonneg nb.1]
        have mb : 0 ≤ nxz z % 6 ∧ nxz z % 6 ≤ 5 := by omega
        have ew : IntKind.i64.wrap (nxz z % 6) = nxz z % 6 := wr64 _ (by omega) (by omega)
        have es : IntKind.i64.wrap ((j : Int) + 1) = ((j + 1 : Nat) : Int) := by rw [wr64 _ (by omega) (by have := HM.out; omega)]; omega
        have OF1 := Lib.hid (fun w => OF.out (nxz z % 6) (nxz (nxz z)) w mb.1 mb.2 nb2.1)
        have PK1 := Lib.hid (fun w => Try.pick (nxz z % 6) (nxz (nxz z)) nb2.1 nb2.2 w)
        have SP1 := Lib.hid (fun w => Try.spansOf (nxz z % 6) 0 0 mb.1 mb.2 w)
        obtain ⟨a0, a1, hsa⟩ : ∃ a0 a1, spA (nxz z % 6) = (a0, a1) := ⟨_, _, rfl⟩
        obtain ⟨b0, b1, hsb⟩ : ∃ b0 b1, spB (nxz z % 6) = (b0, b1) := ⟨_, _, rfl⟩
        rw [hsa] at PK1
        rw [hsa, hsb] at SP1
        simp only [spV] at PK1 SP1
        clear hzz nb nb2 mb hz0 hsa hsb
        go_wp2_with (first | (go_at_call_of 23 (Value.int .i64 z); refine (NX1.out _).mono ?_; rintro e w2 ⟨rfl, rfl⟩) | (go_at_call_of 23 (Value.int .i64 (nxz z)); refine (NX2.out _).mono ?_; rintro e w2 ⟨rfl, rfl⟩) | (go_at_call 24; refine (SP1.out _).mono ?_; rintro e w5 ⟨rfl, g5⟩))
        clear em ew NX1 NX2 SP1
        generalize hkd : nxz z % 6 = kd at OF1 PK1 ⊢
        generalize hy2 : nxz (nxz z) = y2 at OF1 PK1 ⊢
        generalize hya : yA kd y2 = ya at OF1 PK1
        generalize hpv : pval k p kd ya n = pv at OF1
        have HM2 := Lib.hid (show mclu k p n (nxz z % 6) (nxz (nxz z)) = (kd, ya, pv) by unfold mclu; rw [hkd, hy2, hya, hpv])
        have HY := Lib.hid hy2
        clear hkd hy2 hya hpv
        obtain ⟨W6, hW6⟩ : ∃ W, W = (w5.alloc (Obj.cells #[.int .i64 a0, .int .i64 a1] 52)).alloc (Obj.cells #[.int .i64 b0, .int .i64 b1] 52) := ⟨_, rfl⟩
        rw [← hW6]
        have G6 : Gr wr W6 := by rw [hW6]; exact Gr.alloc (Gr.alloc g5 _) _
        have z6 : wr.heap.size ≤ w5.heap.size := g5.below.size
        have y6 : w5.heap.size < W6.heap.size := by rw [hW6]; simp; omega
        have d0 : W6.cell? ⟨w5.heap.size, 0, none⟩ = some (.int .i64 a0) := by rw [hW6]; simp [go_sem]
        have d1 : W6.cell? ⟨w5.heap.size, 1, none⟩ = some (.int .i64 a1) := by rw [hW6]; simp [go_sem]
        generalize hq5 : w5.heap.size = q5 at *
        clear hW6 g5 hq5
        have q0' := G6.keep0 HQ.out.1
        have q1' := G6.keep0 HQ.out.2
        have p2' := G6.keep0 P2.out
        have HS6 := Lib.hid (And.intro q0' (And.intro q1' (And.intro d0 d1)))
        have hzq : w.heap.size < W6.heap.size := World.block_lt_of_cell? _ _ q0'
        clear q0' q1' d0 d1 p2 q0 q1
        refine wp_region_held_drew (S := fun W' => W'.cell? ⟨w.heap.size, 0, none⟩ = some (.int .i64 k) ∧ W'.cell? ⟨w.heap.size, 1, none⟩ = some (.int .i64 p) ∧ W'.cell? ⟨q5, 0, none⟩ = some (.int .i64 a0) ∧ W'.cell? ⟨q5, 1, none⟩ = some (.int .i64 a1)) (by kernel_rfl) (four_k2 HS6.out (Below.drew (Below.refl _ _))) (fun hHeld => ?_)
        (refine wpAnyH_take (i := 0) (v := ?_) (by simp only [List.getElem?_toArray, List.getElem?_cons_succ, List.getElem?_cons_zero]; exact rfl) (by kernel_rfl) (by kernel_rfl) (by kernel_rfl) (by intro _ _ _ h; exact h) (Or.inl ⟨by rfl, ?_⟩) (by assumption) ?_; rotate_left; (focus (intro w' hSw; (try dsimp only at hSw); go_simp; (try with_reducible rfl))); try simp only [Act.put, List.setIfInBounds_toArray, List.set_cons_zero, List.set_cons_succ])
        (refine wpAnyH_take (i := 2) (v := ?_) (by simp only [List.getElem?_toArray, List.getElem?_cons_succ, List.getElem?_cons_zero]; exact rfl) (by kernel_rfl) (by kernel_rfl) (by kernel_rfl) (by intro _ _ _ h; exact h) (Or.inl ⟨by rfl, ?_⟩) (by assumption) ?_; rotate_left; (focus (intro w' hSw; (try dsimp only at hSw); go_simp; (try with_reducible rfl))); try simp only [Act.put, List.setIfInBounds_toArray, List.set_cons_zero, List.set_cons_succ])
        (refine wpAnyH_take (i := 3) (v := ?_) (by simp only [List.getElem?_toArray, List.getElem?_cons_succ, List.getElem?_cons_zero]; exact rfl) (by kernel_rfl) (by kernel_rfl) (by kernel_rfl) (by intro _ _ _ h; exact h) (Or.inl ⟨by rfl, ?_⟩) (by assumption) ?_; rotate_left; (focus (intro w' hSw; (try dsimp only at hSw); go_simp; (try with_reducible rfl))); try simp only [Act.put, List.setIfInBounds_toArray, List.set_cons_zero, List.set_cons_succ])
        (refine wpAnyH_take (i := 4) (v := ?_) (by simp only [List.getElem?_toArray, List.getElem?_cons_succ, List.getElem?_cons_zero]; exact rfl) (by kernel_rfl) (by kernel_rfl) (by kernel_rfl) (by intro _ _ _ h; exact h) (Or.inl ⟨by rfl, ?_⟩) (by assumption) ?_; rotate_left; (focus (intro w' hSw; (try dsimp only at hSw); go_simp; (try with_reducible rfl))); try simp only [Act.put, List.setIfInBounds_toArray, List.set_cons_zero, List.set_cons_succ])
        (refine wpAnyH_take (i := 5) (v := ?_) (by simp only [List.getElem?_toArray, List.getElem?_cons_succ, List.getElem?_cons_zero]; exact rfl) (by kernel_rfl) (by kernel_rfl) (by kernel_rfl) (by intro _ _ _ h; exact h) (Or.inl ⟨by rfl, ?_⟩) (by assumption) ?_; rotate_left; (focus (intro w' hSw; (try dsimp only at hSw); go_simp; (try with_reducible rfl))); try simp only [Act.put, List.setIfInBounds_toArray, List.set_cons_zero, List.set_cons_succ])
        (refine wpAnyH_take (i := 6) (v := ?_) (by simp only [List.getElem?_toArray, List.getElem?_cons_succ, List.getElem?_cons_zero]; exact rfl) (by kernel_rfl) (by kernel_rfl) (by kernel_rfl) (by intro _ _ _ h; exact h) (Or.inl ⟨by rfl, ?_⟩) (by assumption) ?_; rotate_left; (focus (intro w' hSw; (try dsimp only at hSw); go_simp; (try with_reducible rfl))); try simp only [Act.put, List.setIfInBounds_toArray, List.set_cons_zero, List.set_cons_succ])
        refine wpAnyH_ready (rs := [1, 7]) (by kernel_rfl) (by simp) (AllReadyH.cons (by simp only [List.getElem?_toArray, List.getElem?_cons_succ, List.getElem?_cons_zero]; exact rfl) (fun K' hK => ?_) (AllReadyH.cons (by simp only [List.getElem?_toArray, List.getElem?_cons_succ, List.getElem?_cons_zero]; exact rfl) (fun K' hK => ?_) AllReadyH.nil))
        · go_simp
          (refine hK.out _ _ (hHeld) (fun hHeld => ?_); clear hK K'; try simp only [Act.put, List.setIfInBounds_toArray, List.set_cons_zero, List.set_cons_succ])
          refine wpAnyH_ready (rs := [7]) (by kernel_rfl) (by simp) (AllReadyH.cons (by simp only [List.getElem?_toArray, List.getElem?_cons_succ, List.getElem?_cons_zero]; exact rfl) (fun K' hK => ?_) AllReadyH.nil)
          go_simp
          (go_at_call 26; refine (PK1.out _).mono ?_; rintro e w2 ⟨rfl, g2⟩)
          have S2 := four_k2 HS6.out ((Gr.drew (Gr.refl _)).trans g2).below
          have p2b := ((Gr.drew (Gr.refl _)).trans g2).keep0 p2'
          (refine hK.out _ _ (S2) (fun hHeld => ?_); clear hK K'; try simp only [Act.put, List.setIfInBounds_toArray, List.set_cons_zero, List.set_cons_succ])
          refine wpAnyH_ready (rs := [8]) (by kernel_rfl) (by simp) (AllReadyH.cons (by simp only [List.getElem?_toArray, List.getElem?_cons_succ, List.getElem?_cons_zero]; exact rfl) (fun K' hK => ?_) AllReadyH.nil)
          go_simp
          (go_at_call 25; refine (OF1.out _).mono ?_; rintro e w3 ⟨rfl, g3⟩)
          have G3' : Gr W6 w3 := ((Gr.drew (Gr.refl _)).trans g2).trans g3
          have G3 : Gr wr w3 := G6.trans G3'
          have S3 := four_k2 HS6.out G3'.below
          have p3 := G3'.keep0 p2'
          have z3 : b < w3.heap.size := World.block_lt_of_cell? _ _ p3
          have y3 : q5 < w3.heap.size := World.block_lt_of_cell? _ _ S3.2.2.1
          (refine hK.out _ _ (S3) (fun hHeld => ?_); clear hK K'; try simp only [Act.put, List.setIfInBounds_toArray, List.set_cons_zero, List.set_cons_succ])
          refine wpAnyH_ready (rs := [9]) (by kernel_rfl) (by simp) (AllReadyH.cons (by simp only [List.getElem?_toArray, List.getElem?_cons_succ, List.getElem?_cons_zero]; exact rfl) (fun K' hK => ?_) AllReadyH.nil)
          go_simp
          (refine hK.out _ _ (four_k2 S3 (Gr.alloc (Gr.refl _) _).below) (fun hHeld => ?_); clear hK K'; try simp only [Act.put, List.setIfInBounds_toArray, List.set_cons_zero, List.set_cons_succ])
          refine wpAnyH_ready (rs := [10]) (by kernel_rfl) (by simp) (AllReadyH.cons (by simp only [List.getElem?_toArray, List.getElem?_cons_succ, List.getElem?_cons_zero]; exact rfl) (fun K' hK => ?_) AllReadyH.nil)
          refine step_appE ccs_len ccs_one rfl (.tmp 54) (.tmp 62) 25 rfl 42 Try.underlying25 Try.infoC rfl (by decide) (by decide) (b + 1) _ _ rfl (HO.out.gr (Gr.alloc G3 _)) ⟨w3.heap.size, 0, none⟩ 1 1 [(kd, ya, pv)] rfl rfl (fun j u hu => alloc_cells (by simpa [ecs, ccs] using hu)) (by rw [mades_len]; have := HLT.out; have := HM.out; omega) (by simp) (by have := G3.below.size; simp; omega) ?_; intro v4 w4 ho4 hb4 gb4 _; have nq : some q5 ≠ (Value.slice A (mades k p n s j).length cc).ownBlock := (fun e => by have := (World.ownsRow.lt HO.out q5 e.symm).2; omega); obtain ⟨A4, c4, rfl, ho4⟩ := OwnE.eta ho4; simp only [List.length_append, List.length_cons, List.length_nil, Nat.zero_add] at ho4
          have S4 := And.intro ((hb4.cell (p := ⟨w.heap.size, 0, none⟩) (Nat.lt_succ_of_lt (Nat.lt_of_succ_lt hb1))).trans ((Gr.alloc (Gr.refl _) _).keep0 S3.1)) (And.intro ((hb4.cell (p := ⟨w.heap.size, 1, none⟩) (Nat.lt_succ_of_lt (Nat.lt_of_succ_lt hb1))).trans ((Gr.alloc (Gr.refl _) _).keep0 S3.2.1)) (And.intro (gb4.cell ((Gr.alloc (Gr.refl _) _).keep0 S3.2.2.1) nq) (gb4.cell ((Gr.alloc (Gr.refl _) _).keep0 S3.2.2.2) nq)))
          have p4 := (hb4.cell (p := ⟨b, 2, none⟩) (Nat.lt_succ_self _)).trans ((Gr.alloc (Gr.refl _) _).keep0 p3)
          have f4 : ∀ o, w4.frozen? ⟨b, o, none⟩ = false := fun o => (hb4.frozen (p := ⟨b, o, none⟩) (Nat.lt_succ_self _)).trans (((Gr.alloc G3 _).below.frozen (p := ⟨b, o, none⟩) hz).trans (HPF.out o))
          (refine hK.out _ _ (S4) (fun hHeld => ?_); clear hK K'; try simp only [Act.put, List.setIfInBounds_toArray, List.set_cons_zero, List.set_cons_succ])
          refine wpAnyH_ready (rs := [11]) (by kernel_rfl) (by simp) (AllReadyH.cons (by simp only [List.getElem?_toArray, List.getElem?_cons_succ, List.getElem?_cons_zero]; exact rfl) (fun K' hK => ?_) AllReadyH.nil)
          go_simp
          (refine hK.out _ _ (S4) (fun hHeld => ?_); clear hK K'; try simp only [Act.put, List.setIfInBounds_toArray, List.set_cons_zero, List.set_cons_succ])
          refine wpAnyH_ready (rs := [12]) (by kernel_rfl) (by simp) (AllReadyH.cons (by simp only [List.getElem?_toArray, List.getElem?_cons_succ, List.getElem?_cons_zero]; exact rfl) (fun K' hK => ?_) AllReadyH.nil)
          go_simp
          (refine hK.out _ _ (⟨cell_set_lt S4.1 (Nat.lt_of_succ_lt hb1), cell_set_lt S4.2.1 (Nat.lt_of_succ_lt hb1), cell_set_gt S4.2.2.1 (Nat.lt_of_lt_of_le hz z6), cell_set_gt S4.2.2.2 (Nat.lt_of_lt_of_le hz z6)⟩) (fun hHeld => ?_); clear hK K'; try simp only [Act.put, List.setIfInBounds_toArray, List.set_cons_zero, List.set_cons_succ])
          refine wpAnyH_done (by kernel_rfl) ?_ _
          go_wp2
          go_roundw
          case rel => exact ⟨j + 1, _, HLT.out, by rw [zat_two, HZZ.out, HY.out], by go_num, by rw [mades_succ, HZZ.out, HM2.out]; exact OwnE.setOther (a := ⟨b, 2, none⟩) ho4 (Nat.lt_succ_self b) _, (World.cell?_setCell_other _ _ _ _ (by simp)).trans ((hb4.cell (p := ⟨b, 0, none⟩) (Nat.lt_succ_self _)).trans ((Gr.alloc G3 _).keep0 HP.out.1)), (World.cell?_setCell_other _ _ _ _ (by simp)).trans ((hb4.cell (p := ⟨b, 1, none⟩) (Nat.lt_succ_self _)).trans ((Gr.alloc G3 _).keep0 HP.out.2)), World.cell?_setCell_same _ _ _ p4, fun o => (World.frozen?_setCell _ _ _ _).trans (f4 o), ((HBL.out.trans ((Gr.alloc G3 _).below.mono (by omega))).trans (hb4.mono (by omega))).setCell (by simp) _⟩
          case measure => simp [intOf]; have := HLT.out; omega
        · go_simp
          (go_at_call 26; refine (PK1.out _).mono ?_; rintro e w2 ⟨rfl, g2⟩)
          have S2 := four_k2 HS6.out ((Gr.drew (Gr.refl _)).trans g2).below
          have p2b := ((Gr.drew (Gr.refl _)).trans g2).keep0 p2'
          (refine hK.out _ _ (S2) (fun hHeld => ?_); clear hK K'; try simp only [Act.put, List.setIfInBounds_toArray, List.set_cons_zero, List.set_cons_succ])
          refine wpAnyH_ready (rs := [1, 8]) (by kernel_rfl) (by simp) (AllReadyH.cons (by simp only [List.getElem?_toArray, List.getElem?_cons_succ, List.getElem?_cons_zero]; exact rfl) (fun K' hK => ?_) (AllReadyH.cons (by simp only [List.getElem?_toArray, List.getElem?_cons_succ, List.getElem?_cons_zero]; exact rfl) (fun K' hK => ?_) AllReadyH.nil))
          · go_simp
            (refine hK.out _ _ (S2) (fun hHeld => ?_); clear hK K'; try simp only [Act.put, List.setIfInBounds_toArray, List.set_cons_zero, List.set_cons_succ])
            refine wpAnyH_ready (rs := [8]) (by kernel_rfl) (by simp) (AllReadyH.cons (by simp only [List.getElem?_toArray, List.getElem?_cons_succ, List.getElem?_cons_zero]; exact rfl) (fun K' hK => ?_) AllReadyH.nil)
            go_simp
            (go_at_call 25; refine (OF1.out _).mono ?_; rintro e w3 ⟨rfl, g3⟩)
            have G3' : Gr W6 w3 := ((Gr.drew (Gr.refl _)).trans g2).trans g3
            have G3 : Gr wr w3 := G6.trans G3'
            have S3 := four_k2 HS6.out G3'.below
            have p3 := G3'.keep0 p2'
            have z3 : b < w3.heap.size := World.block_lt_of_cell? _ _ p3
            have y3 : q5 < w3.heap.size := World.block_lt_of_cell? _ _ S3.2.2.1
            (refine hK.out _ _ (S3) (fun hHeld => ?_); clear hK K'; try simp only [Act.put, List.setIfInBounds_toArray, List.set_cons_zero, List.set_cons_succ])
            refine wpAnyH_ready (rs := [9]) (by kernel_rfl) (by simp) (AllReadyH.cons (by simp only [List.getElem?_toArray, List.getElem?_cons_succ, List.getElem?_cons_zero]; exact rfl) (fun K' hK => ?_) AllReadyH.nil)
            go_simp
            (refine hK.out _ _ (four_k2 S3 (Gr.alloc (Gr.refl _) _).below) (fun hHeld => ?_); clear hK K'; try simp only [Act.put, List.setIfInBounds_toArray, List.set_cons_zero, List.set_cons_succ])
            refine wpAnyH_ready (rs := [10]) (by kernel_rfl) (by simp) (AllReadyH.cons (by simp only [List.getElem?_toArray, List.getElem?_cons_succ, List.getElem?_cons_zero]; exact rfl) (fun K' hK => ?_) AllReadyH.nil)
            refine step_appE ccs_len ccs_one rfl (.tmp 54) (.tmp 62) 25 rfl 42 Try.underlying25 Try.infoC rfl (by decide) (by decide) (b + 1) _ _ rfl (HO.out.gr (Gr.alloc G3 _)) ⟨w3.heap.size, 0, none⟩ 1 1 [(kd, ya, pv)] rfl rfl (fun j u hu => alloc_cells (by simpa [ecs, ccs] using hu)) (by rw [mades_len]; have := HLT.out; have := HM.out; omega) (by simp) (by have := G3.below.size; simp; omega) ?_; intro v4 w4 ho4 hb4 gb4 _; have nq : some q5 ≠ (Value.slice A (mades k p n s j).length cc).ownBlock := (fun e => by have := (World.ownsRow.lt HO.out q5 e.symm).2; omega); obtain ⟨A4, c4, rfl, ho4⟩ := OwnE.eta ho4; simp only [List.length_append, List.length_cons, List.length_nil, Nat.zero_add] at ho4
            have S4 := And.intro ((hb4.cell (p := ⟨w.heap.size, 0, none⟩) (Nat.lt_succ_of_lt (Nat.lt_of_succ_lt hb1))).trans ((Gr.alloc (Gr.refl _) _).keep0 S3.1)) (And.intro ((hb4.cell (p := ⟨w.heap.size, 1, none⟩) (Nat.lt_succ_of_lt (Nat.lt_of_succ_lt hb1))).trans ((Gr.alloc (Gr.refl _) _).keep0 S3.2.1)) (And.intro (gb4.cell ((Gr.alloc (Gr.refl _) _).keep0 S3.2.2.1) nq) (gb4.cell ((Gr.alloc (Gr.refl _) _).keep0 S3.2.2.2) nq)))
            have p4 := (hb4.cell (p := ⟨b, 2, none⟩) (Nat.lt_succ_self _)).trans ((Gr.alloc (Gr.refl _) _).keep0 p3)
            have f4 : ∀ o, w4.frozen? ⟨b, o, none⟩ = false := fun o => (hb4.frozen (p := ⟨b, o, none⟩) (Nat.lt_succ_self _)).trans (((Gr.alloc G3 _).below.frozen (p := ⟨b, o, none⟩) hz).trans (HPF.out o))
            (refine hK.out _ _ (S4) (fun hHeld => ?_); clear hK K'; try simp only [Act.put, List.setIfInBounds_toArray, List.set_cons_zero, List.set_cons_succ])
            refine wpAnyH_ready (rs := [11]) (by kernel_rfl) (by simp) (AllReadyH.cons (by simp only [List.getElem?_toArray, List.getElem?_cons_succ, List.getElem?_cons_zero]; exact rfl) (fun K' hK => ?_) AllReadyH.nil)
            go_simp
            (refine hK.out _ _ (S4) (fun hHeld => ?_); clear hK K'; try simp only [Act.put, List.setIfInBounds_toArray, List.set_cons_zero, List.set_cons_succ])
            refine wpAnyH_ready (rs := [12]) (by kernel_rfl) (by simp) (AllReadyH.cons (by simp only [List.getElem?_toArray, List.getElem?_cons_succ, List.getElem?_cons_zero]; exact rfl) (fun K' hK => ?_) AllReadyH.nil)
            go_simp
            (refine hK.out _ _ (⟨cell_set_lt S4.1 (Nat.lt_of_succ_lt hb1), cell_set_lt S4.2.1 (Nat.lt_of_succ_lt hb1), cell_set_gt S4.2.2.1 (Nat.lt_of_lt_of_le hz z6), cell_set_gt S4.2.2.2 (Nat.lt_of_lt_of_le hz z6)⟩) (fun hHeld => ?_); clear hK K'; try simp only [Act.put, List.setIfInBounds_toArray, List.set_cons_zero, List.set_cons_succ])
            refine wpAnyH_done (by kernel_rfl) ?_ _
            go_wp2
            go_roundw
            case rel => exact ⟨j + 1, _, HLT.out, by rw [zat_two, HZZ.out, HY.out], by go_num, by rw [mades_succ, HZZ.out, HM2.out]; exact OwnE.setOther (a := ⟨b, 2, none⟩) ho4 (Nat.lt_succ_self b) _, (World.cell?_setCell_other _ _ _ _ (by simp)).trans ((hb4.cell (p := ⟨b, 0, none⟩) (Nat.lt_succ_self _)).trans ((Gr.alloc G3 _).keep0 HP.out.1)), (World.cell?_setCell_other _ _ _ _ (by simp)).trans ((hb4.cell (p := ⟨b, 1, none⟩) (Nat.lt_succ_self _)).trans ((Gr.alloc G3 _).keep0 HP.out.2)), World.cell?_setCell_same _ _ _ p4, fun o => (World.frozen?_setCell _ _ _ _).trans (f4 o), ((HBL.out.trans ((Gr.alloc G3 _).below.mono (by omega))).trans (hb4.mono (by omega))).setCell (by simp) _⟩
            case measure => simp [intOf]; have := HLT.out; omega
          · go_simp
            (go_at_call 25; refine (OF1.out _).mono ?_; rintro e w3 ⟨rfl, g3⟩)
            have G3' : Gr W6 w3 := ((Gr.drew (Gr.refl _)).trans g2).trans g3
            have G3 : Gr wr w3 := G6.trans G3'
            have S3 := four_k2 HS6.out G3'.below
            have p3 := G3'.keep0 p2'
            have z3 : b < w3.heap.size := World.block_lt_of_cell? _ _ p3
            have y3 : q5 < w3.heap.size := World.block_lt_of_cell? _ _ S3.2.2.1
            (refine hK.out _ _ (S3) (fun hHeld => ?_); clear hK K'; try simp only [Act.put, List.setIfInBounds_toArray, List.set_cons_zero, List.set_cons_succ])
            refine wpAnyH_ready (rs := [1, 9]) (by kernel_rfl) (by simp) (AllReadyH.cons (by simp only [List.getElem?_toArray, List.getElem?_cons_succ, List.getElem?_cons_zero]; exact rfl) (fun K' hK => ?_) (AllReadyH.cons (by simp only [List.getElem?_toArray, List.getElem?_cons_succ, List.getElem?_cons_zero]; exact rfl) (fun K' hK => ?_) AllReadyH.nil))
            · go_simp
              (refine hK.out _ _ (S3) (fun hHeld => ?_); clear hK K'; try simp only [Act.put, List.setIfInBounds_toArray, List.set_cons_zero, List.set_cons_succ])
              refine wpAnyH_ready (rs := [9]) (by kernel_rfl) (by simp) (AllReadyH.cons (by simp only [List.getElem?_toArray, List.getElem?_cons_succ, List.getElem?_cons_zero]; exact rfl) (fun K' hK => ?_) AllReadyH.nil)
              go_simp
              (refine hK.out _ _ (four_k2 S3 (Gr.alloc (Gr.refl _) _).below) (fun hHeld => ?_); clear hK K'; try simp only [Act.put, List.setIfInBounds_toArray, List.set_cons_zero, List.set_cons_succ])
              refine wpAnyH_ready (rs := [10]) (by kernel_rfl) (by simp) (AllReadyH.cons (by simp only [List.getElem?_toArray, List.getElem?_cons_succ, List.getElem?_cons_zero]; exact rfl) (fun K' hK => ?_) AllReadyH.nil)
              refine step_appE ccs_len ccs_one rfl (.tmp 54) (.tmp 62) 25 rfl 42 Try.underlying25 Try.infoC rfl (by decide) (by decide) (b + 1) _ _ rfl (HO.out.gr (Gr.alloc G3 _)) ⟨w3.heap.size, 0, none⟩ 1 1 [(kd, ya, pv)] rfl rfl (fun j u hu => alloc_cells (by simpa [ecs, ccs] using hu)) (by rw [mades_len]; have := HLT.out; have := HM.out; omega) (by simp) (by have := G3.below.size; simp; omega) ?_; intro v4 w4 ho4 hb4 gb4 _; have nq : some q5 ≠ (Value.slice A (mades k p n s j).length cc).ownBlock := (fun e => by have := (World.ownsRow.lt HO.out q5 e.symm).2; omega); obtain ⟨A4, c4, rfl, ho4⟩ := OwnE.eta ho4; simp only [List.length_append, List.length_cons, List.length_nil, Nat.zero_add] at ho4
              have S4 := And.intro ((hb4.cell (p := ⟨w.heap.size, 0, none⟩) (Nat.lt_succ_of_lt (Nat.lt_of_succ_lt hb1))).trans ((Gr.alloc (Gr.refl _) _).keep0 S3.1)) (And.intro ((hb4.cell (p := ⟨w.heap.size, 1, none⟩) (Nat.lt_succ_of_lt (Nat.lt_of_succ_lt hb1))).trans ((Gr.alloc (Gr.refl _) _).keep0 S3.2.1)) (And.intro (gb4.cell ((Gr.alloc (Gr.refl _) _).keep0 S3.2.2.1) nq) (gb4.cell ((Gr.alloc (Gr.refl _) _).keep0 S3.2.2.2) nq)))
              have p4 := (hb4.cell (p := ⟨b, 2, none⟩) (Nat.lt_succ_self _)).trans ((Gr.alloc (Gr.refl _) _).keep0 p3)
              have f4 : ∀ o, w4.frozen? ⟨b, o, none⟩ = false := fun o => (hb4.frozen (p := ⟨b, o, none⟩) (Nat.lt_succ_self _)).trans (((Gr.alloc G3 _).below.frozen (p := ⟨b, o, none⟩) hz).trans (HPF.out o))
              (refine hK.out _ _ (S4) (fun hHeld => ?_); clear hK K'; try simp only [Act.put, List.setIfInBounds_toArray, List.set_cons_zero, List.set_cons_succ])
              refine wpAnyH_ready (rs := [11]) (by kernel_rfl) (by simp) (AllReadyH.cons (by simp only [List.getElem?_toArray, List.getElem?_cons_succ, List.getElem?_cons_zero]; exact rfl) (fun K' hK => ?_) AllReadyH.nil)
              go_simp
              (refine hK.out _ _ (S4) (fun hHeld => ?_); clear hK K'; try simp only [Act.put, List.setIfInBounds_toArray, List.set_cons_zero, List.set_cons_succ])
              refine wpAnyH_ready (rs := [12]) (by kernel_rfl) (by simp) (AllReadyH.cons (by simp only [List.getElem?_toArray, List.getElem?_cons_succ, List.getElem?_cons_zero]; exact rfl) (fun K' hK => ?_) AllReadyH.nil)
              go_simp
              (refine hK.out _ _ (⟨cell_set_lt S4.1 (Nat.lt_of_succ_lt hb1), cell_set_lt S4.2.1 (Nat.lt_of_succ_lt hb1), cell_set_gt S4.2.2.1 (Nat.lt_of_lt_of_le hz z6), cell_set_gt S4.2.2.2 (Nat.lt_of_lt_of_le hz z6)⟩) (fun hHeld => ?_); clear hK K'; try simp only [Act.put, List.setIfInBounds_toArray, List.set_cons_zero, List.set_cons_succ])
              refine wpAnyH_done (by kernel_rfl) ?_ _
              go_wp2
              go_roundw
              case rel => exact ⟨j + 1, _, HLT.out, by rw [zat_two, HZZ.out, HY.out], by go_num, by rw [mades_succ, HZZ.out, HM2.out]; exact OwnE.setOther (a := ⟨b, 2, none⟩) ho4 (Nat.lt_succ_self b) _, (World.cell?_setCell_other _ _ _ _ (by simp)).trans ((hb4.cell (p := ⟨b, 0, none⟩) (Nat.lt_succ_self _)).trans ((Gr.alloc G3 _).keep0 HP.out.1)), (World.cell?_setCell_other _ _ _ _ (by simp)).trans ((hb4.cell (p := ⟨b, 1, none⟩) (Nat.lt_succ_self _)).trans ((Gr.alloc G3 _).keep0 HP.out.2)), World.cell?_setCell_same _ _ _ p4, fun o => (World.frozen?_setCell _ _ _ _).trans (f4 o), ((HBL.out.trans ((Gr.alloc G3 _).below.mono (by omega))).trans (hb4.mono (by omega))).setCell (by simp) _⟩
              case measure => simp [intOf]; have := HLT.out; omega
            · go_simp
              (refine hK.out _ _ (four_k2 S3 (Gr.alloc (Gr.refl _) _).below) (fun hHeld => ?_); clear hK K'; try simp only [Act.put, List.setIfInBounds_toArray, List.set_cons_zero, List.set_cons_succ])
              refine wpAnyH_ready (rs := [1]) (by kernel_rfl) (by simp) (AllReadyH.cons (by simp only [List.getElem?_toArray, List.getElem?_cons_succ, List.getElem?_cons_zero]; exact rfl) (fun K' hK => ?_) AllReadyH.nil)
              go_simp
              (refine hK.out _ _ (hHeld) (fun hHeld => ?_); clear hK K'; try simp only [Act.put, List.setIfInBounds_toArray, List.set_cons_zero, List.set_cons_succ])
              refine wpAnyH_ready (rs := [10]) (by kernel_rfl) (by simp) (AllReadyH.cons (by simp only [List.getElem?_toArray, List.getElem?_cons_succ, List.getElem?_cons_zero]; exact rfl) (fun K' hK => ?_) AllReadyH.nil)
              refine step_appE ccs_len ccs_one rfl (.tmp 54) (.tmp 62) 25 rfl 42 Try.underlying25 Try.infoC rfl (by decide) (by decide) (b + 1) _ _ rfl (HO.out.gr (Gr.alloc G3 _)) ⟨w3.heap.size, 0, none⟩ 1 1 [(kd, ya, pv)] rfl rfl (fun j u hu => alloc_cells (by simpa [ecs, ccs] using hu)) (by rw [mades_len]; have := HLT.out; have := HM.out; omega) (by simp) (by have := G3.below.size; simp; omega) ?_; intro v4 w4 ho4 hb4 gb4 _; have nq : some q5 ≠ (Value.slice A (mades k p n s j).length cc).ownBlock := (fun e => by have := (World.ownsRow.lt HO.out q5 e.symm).2; omega); obtain ⟨A4, c4, rfl, ho4⟩ := OwnE.eta ho4; simp only [List.length_append, List.length_cons, List.length_nil, Nat.zero_add] at ho4
              have S4 := And.intro ((hb4.cell (p := ⟨w.heap.size, 0, none⟩) (Nat.lt_succ_of_lt (Nat.lt_of_succ_lt hb1))).trans ((Gr.alloc (Gr.refl _) _).keep0 S3.1)) (And.intro ((hb4.cell (p := ⟨w.heap.size, 1, none⟩) (Nat.lt_succ_of_lt (Nat.lt_of_succ_lt hb1))).trans ((Gr.alloc (Gr.refl _) _).keep0 S3.2.1)) (And.intro (gb4.cell ((Gr.alloc (Gr.refl _) _).keep0 S3.2.2.1) nq) (gb4.cell ((Gr.alloc (Gr.refl _) _).keep0 S3.2.2.2) nq)))
              have p4 := (hb4.cell (p := ⟨b, 2, none⟩) (Nat.lt_succ_self _)).trans ((Gr.alloc (Gr.refl _) _).keep0 p3)
              have f4 : ∀ o, w4.frozen? ⟨b, o, none⟩ = false := fun o => (hb4.frozen (p := ⟨b, o, none⟩) (Nat.lt_succ_self _)).trans (((Gr.alloc G3 _).below.frozen (p := ⟨b, o, none⟩) hz).trans (HPF.out o))
              (refine hK.out _ _ (S4) (fun hHeld => ?_); clear hK K'; try simp only [Act.put, List.setIfInBounds_toArray, List.set_cons_zero, List.set_cons_succ])
              refine wpAnyH_ready (rs := [11]) (by kernel_rfl) (by simp) (AllReadyH.cons (by simp only [List.getElem?_toArray, List.getElem?_cons_succ, List.getElem?_cons_zero]; exact rfl) (fun K' hK => ?_) AllReadyH.nil)
              go_simp
              (refine hK.out _ _ (S4) (fun hHeld => ?_); clear hK K'; try simp only [Act.put, List.setIfInBounds_toArray, List.set_cons_zero, List.set_cons_succ])
              refine wpAnyH_ready (rs := [12]) (by kernel_rfl) (by simp) (AllReadyH.cons (by simp only [List.getElem?_toArray, List.getElem?_cons_succ, List.getElem?_cons_zero]; exact rfl) (fun K' hK => ?_) AllReadyH.nil)
              go_simp
              (refine hK.out _ _ (⟨cell_set_lt S4.1 (Nat.lt_of_succ_lt hb1), cell_set_lt S4.2.1 (Nat.lt_of_succ_lt hb1), cell_set_gt S4.2.2.1 (Nat.lt_of_lt_of_le hz z6), cell_set_gt S4.2.2.2 (Nat.lt_of_lt_of_le hz z6)⟩) (fun hHeld => ?_); clear hK K'; try simp only [Act.put, List.setIfInBounds_toArray, List.set_cons_zero, List.set_cons_succ])
              refine wpAnyH_done (by kernel_rfl) ?_ _
              go_wp2
              go_roundw
              case rel => exact ⟨j + 1, _, HLT.out, by rw [zat_two, HZZ.out, HY.out], by go_num, by rw [mades_succ, HZZ.out, HM2.out]; exact OwnE.setOther (a := ⟨b, 2, none⟩) ho4 (Nat.lt_succ_self b) _, (World.cell?_setCell_other _ _ _ _ (by simp)).trans ((hb4.cell (p := ⟨b, 0, none⟩) (Nat.lt_succ_self _)).trans ((Gr.alloc G3 _).keep0 HP.out.1)), (World.cell?_setCell_other _ _ _ _ (by simp)).trans ((hb4.cell (p := ⟨b, 1, none⟩) (Nat.lt_succ_self _)).trans ((Gr.alloc G3 _).keep0 HP.out.2)), World.cell?_setCell_same _ _ _ p4, fun o => (World.frozen?_setCell _ _ _ _).trans (f4 o), ((HBL.out.trans ((Gr.alloc G3 _).below.mono (by omega))).trans (hb4.mono (by omega))).setCell (by simp) _⟩
              case measure => simp [intOf]; have := HLT.out; omega
      · obtain rfl : j = m := by omega
        have z1 : ¬ (j : Int) < (j : Int) := by omega
        have r0 : wr.cell? ⟨w.heap.size + 1, 0, none⟩ = some (.int .i64 0) := (HBL.out.cell (by show w.heap.size + 1 < _; omega)).trans R.out.1
        have r1 : wr.cell? ⟨w.heap.size + 1, 1, none⟩ = some (.int .i64 0) := (HBL.out.cell (by show w.heap.size + 1 < _; omega)).trans R.out.2.1
        have r2 : wr.cell? ⟨w.heap.size + 1, 2, none⟩ = some (.slice none 0 0) := (HBL.out.cell (by show w.heap.size + 1 < _; omega)).trans R.out.2.2.1
        have rf : ∀ o, wr.frozen? ⟨w.heap.size + 1, o, none⟩ = false := fun o => (HBL.out.frozen (p := ⟨w.heap.size + 1, o, none⟩) (by show w.heap.size + 1 < _; omega)).trans (R.out.2.2.2 o)
        have p0 := HP.out.1
        have p1 := HP.out.2
        go_wp2
        refine bodyPost_ret (v := .tuple #[.agg #[.int .i64 k, .int .i64 p, .slice A (mades k p n s j).length cc], .bool true]) (by simp [results, Try.results7, go_sem, r0, r1, r2]) rfl ⟨_, rfl, ?_, ?_⟩
        · exact OwnE.mono (OwnE.setOther (OwnE.setOther (OwnE.setOther HO.out (by simp; omega) _) (by simp; omega) _) (by simp; omega) _) (by omega)
        · exact (((GG.out.below.trans (HBL.out.mono (by omega))).setCell (by simp) _).setCell (by simp) _).setCell (by simp) _
end Go.Proofs
