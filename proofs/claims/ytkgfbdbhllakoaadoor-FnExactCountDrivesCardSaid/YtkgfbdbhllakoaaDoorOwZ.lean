/-
  Chapter 6: how many drives there are (the model).
-/
import Derived.Test.YtkgfbdbhllakoaaDoorOwR
namespace Go.Proofs
open Go.RowKit Av Gm Go.Maps
set_option linter.unusedVariables false
set_option linter.unusedSimpArgs false
theorem owV_some {s a : ByteArray} {x y j : Nat} (h : drv s a x y j = true) : owV s a x y j = .tuple #[.int .i64 ((x : Int) + dx j), .int .i64 ((y : Int) + dy j), .bool true] := by
  unfold drv at h
  simp only [Bool.and_eq_true] at h
  unfold owV
  rw [h.1, if_pos rfl, h.2]
theorem owV_none {s a : ByteArray} {x y j : Nat} (h : drv s a x y j = false) : ∃ u v, owV s a x y j = .tuple #[.int .i64 u, .int .i64 v, .bool false] := by
  unfold drv at h
  unfold owV
  cases hm : mayB s a x y j
  · exact ⟨0, 0, rfl⟩
  · rw [hm, Bool.true_and] at h
    rw [if_pos rfl, h]
    exact ⟨_, _, rfl⟩
def Tryd.CdR (nb : Nat → Nat → Option Nat) (F : Nat → Int) (N t0 : Nat) (W3 : World) (n k j : Nat) (wr : World) : Prop :=
  OwnI wr W3.heap.size (.slice (some ⟨W3.heap.size, 0, none⟩) N N) (wl nb F N t0 n k j) ∧ Below W3.heap.size W3 wr
set_option maxRecDepth 100000 in
set_option maxHeartbeats 4000000 in
theorem Tryd.sCountDrives (w : World) (s a : ByteArray) (hs : s.size ≤ maxLen) (ha : a.size ≤ maxLen) (Ba : Nat) (la : Value) (xs : List Int) (Bb : Nat) (lb : Value) (ys : List Int) (v : Int) (b : Bool) (hv : wcV s a xs ys = v) (hb : wB s a xs ys = b) (hla : OwnI w Ba la xs) (hlb : OwnI w Bb lb ys) :
    Calls Tryd.prog 19 #[.agg #[.string s, .string a], la, lb] w fun e w' => e = .returned (.tuple #[.int .i64 v, .bool b]) ∧ Below w.heap.size w w' := by
  have mixed : Tryd.prog.follows .mixedOrders = true := by kernel_rfl
  subst hv hb
  obtain ⟨b1, h1⟩ : ∃ b1, okW s a = b1 := ⟨_, rfl⟩
  obtain ⟨b2, h2⟩ : ∃ b1, isC a.size s.size xs = b1 := ⟨_, rfl⟩
  obtain ⟨b3, h3⟩ : ∃ b1, isC a.size s.size ys = b1 := ⟨_, rfl⟩
  have HA := Lib.hid (fun (X : World) (g : Gr w X) => Tryd.owAsked X s a hs ha Ba la xs Bb lb ys b1 b2 b3 h1 h2 h3 (hla.gr g) (hlb.gr g))
  cases hall : (b1 && b2 && b3)
  · have e1 : wB s a xs ys = false := by unfold wB; rw [h1, h2, h3, hall]; rfl
    have e2 : wcV s a xs ys = 0 := by unfold wcV; rw [e1]; rfl
    rw [e1, e2]
    rw [hall] at HA
    clear hla hlb h1 h2 h3 hall e1 e2
    go_enter Tryd.func19, Tryd.ntmps19
    go_wp2_with (first | (go_at_call 33; refine (HA.out _ (by repeat (first | exact Gr.refl _ | refine Gr.alloc ?_ _ | refine Gr.trans ?_ (by assumption) | refine Gr.drew ?_ | refine Gr.drewN ?_ _ | refine Gr.grow ?_ _ | refine Gr.setCell ?_ (by (try simp); (try omega)) _))).mono ?_; rintro e w1 ⟨rfl, hbW⟩; have hcW := (bcell hbW.below).1; have hfW := (bcell hbW.below).2; (try have hzW : w.heap.size < w1.heap.size := by have hq := hbW.below.size; (try simp at hq); omega); (try have hyW : w.heap.size + 1 < w1.heap.size := by have hq := hbW.below.size; (try simp at hq); omega); (try have hxW : w.heap.size + 2 < w1.heap.size := by have hq := hbW.below.size; (try simp at hq); omega)))
    go_ret2
    exact ⟨by simp <;> rfl, Gr.below (by repeat (first | exact Gr.refl _ | refine Gr.alloc ?_ _ | refine Gr.trans ?_ (by assumption) | refine Gr.drew ?_ | refine Gr.drewN ?_ _ | refine Gr.grow ?_ _ | refine Gr.setCell ?_ (by (try simp); (try omega)) _))⟩
  · simp only [Bool.and_eq_true] at hall
    obtain ⟨⟨rfl, rfl⟩, rfl⟩ := hall
    obtain ⟨kk1, kk2⟩ := okW_and h1
    have l1 := okT_len kk1
    have l2 := okT_len kk2
    obtain ⟨p1, p2⟩ := isC_vx h2 l1 l2
    obtain ⟨r1, r2⟩ := isC_vx h3 l1 l2
    have e1 : wB s a xs ys = decide (0 ≤ dsW s a (vx s xs) (vx s ys)) := by unfold wB; rw [h1, h2, h3]; rfl
    have e2 : wcV s a xs ys = if decide (0 ≤ dsW s a (vx s xs) (vx s ys)) = true then wcI s a (vx s xs) (vx s ys) else 0 := by unfold wcV; rw [e1]
    rw [e1, e2]
    clear h2 h3 e1 e2
    generalize vx s xs = s0 at *
    generalize vx s ys = t0 at *
    subst p2 r2
    have HD := Lib.hid (fun (X : World) (g : Below w.heap.size w X) => Tryd.owDistance X s a kk1 kk2 Ba la s0 Bb lb t0 p1 r1 (OwnI.below hla g (Nat.le_refl _)) (OwnI.below hlb g (Nat.le_refl _)))
    have hbd := dsW_bd (s := s) (a := a) p1 r1
    by_cases hz : dsW s a s0 t0 < 0
    · have e1 : decide (0 ≤ dsW s a s0 t0) = false := by simpa using hz
      rw [e1]
      generalize dsW s a s0 t0 = d at *
      clear hla hlb hbd p1 r1
      go_enter Tryd.func19, Tryd.ntmps19
      go_wp2_with (first | (go_at_call 33; refine (HA.out _ (by repeat (first | exact Gr.refl _ | refine Gr.alloc ?_ _ | refine Gr.trans ?_ (by assumption) | refine Gr.drew ?_ | refine Gr.drewN ?_ _ | refine Gr.grow ?_ _ | refine Gr.setCell ?_ (by (try simp); (try omega)) _))).mono ?_; rintro e w1 ⟨rfl, hbW⟩; have hcW := (bcell hbW.below).1; have hfW := (bcell hbW.below).2; (try have hzW : w.heap.size < w1.heap.size := by have hq := hbW.below.size; (try simp at hq); omega); (try have hyW : w.heap.size + 1 < w1.heap.size := by have hq := hbW.below.size; (try simp at hq); omega); (try have hxW : w.heap.size + 2 < w1.heap.size := by have hq := hbW.below.size; (try simp at hq); omega)) | (go_at_call 34; refine (HD.out _ (Gr.below (show Gr w _ from (by repeat (first | exact Gr.refl _ | refine Gr.alloc ?_ _ | refine Gr.trans ?_ (by assumption) | refine Gr.drew ?_ | refine Gr.drewN ?_ _ | refine Gr.grow ?_ _ | refine Gr.setCell ?_ (by (try simp); (try omega)) _))))).mono ?_; rintro e w2 ⟨rfl, hb2⟩))
      go_ret2
      exact ⟨by simp <;> rfl, Below.trans (show Below w.heap.size w _ from Gr.below (by repeat (first | exact Gr.refl _ | refine Gr.alloc ?_ _ | refine Gr.trans ?_ (by assumption) | refine Gr.drew ?_ | refine Gr.drewN ?_ _ | refine Gr.grow ?_ _ | refine Gr.setCell ?_ (by (try simp); (try omega)) _))) (hb2.mono (Gr.below (show Gr w _ from (by repeat (first | exact Gr.refl _ | refine Gr.alloc ?_ _ | refine Gr.trans ?_ (by assumption) | refine Gr.drew ?_ | refine Gr.drewN ?_ _ | refine Gr.grow ?_ _ | refine Gr.setCell ?_ (by (try simp); (try omega)) _)))).size)⟩
    · have e1 : decide (0 ≤ dsW s a s0 t0) = true := by simpa using hz
      rw [e1, if_pos rfl]
      have hRV := revW_flB h1
      obtain ⟨m1, m2⟩ := okW_and (okW_flB h1)
      have hv' : ∀ n i v, n < a.size * s.size → nbW (flB s) (flB a) n i = some v → v < a.size * s.size := fun n i v hn e => by
        have := nbW_valid (s := flB s) (a := flB a) n i v (by rw [flB_size, flB_size]; exact hn) e
        rwa [flB_size, flB_size] at this
      have hsym := dsW_rev hRV p1 r1
      have hFD := fin_dist hv' r1
      have hI := (fin_bf hv' r1).inv
      have hways := wcI_pth hRV p1 r1 (by omega)
      rw [hways]
      have HBK := Lib.hid (fun (X : World) => Tryd.owBack X s a h1)
      have HF := Lib.hid (fun (X : World) (g : Below w.heap.size w X) => show Calls Tryd.prog 36 #[.agg #[.string (flB s), .string (flB a)], lb] X (fun e w' => ∃ v, e = .returned v ∧ OwnI w' X.heap.size v (fin (nbW (flB s) (flB a)) (a.size * s.size) t0).far ∧ Below X.heap.size X w') by
        have := Tryd.owFar X (flB s) (flB a) m1 m2 t0 Bb lb (by rw [flB_size, flB_size]; exact r1) (by rw [flB_size]; exact OwnI.below hlb g (Nat.le_refl _))
        rw [flB_size, flB_size] at this
        exact this)
      have HOFF := Lib.hid (fun (n w : Nat) hw hh => @pth_off2 (nbW s a) (nbW (flB s) (flB a)) (a.size * s.size) t0 nbW_valid hv' (ed_rev hRV) _ hFD r1 n w hw hh)
      have HST := Lib.hid (fun (X : World) (u j : Nat) (hj : j < 4) (hu : u < a.size * s.size) => Tryd.owStep X s a kk1 kk2 (u / s.size) (u % s.size) (idx_lt2 hu).1 (idx_lt2 hu).2 j hj)
      rcases hla.view with ⟨hx, _⟩ | ⟨_, ga, ca, rfl, _, ga2, _, _, _⟩
      · cases hx
      rcases hlb.view with ⟨hx, _⟩ | ⟨_, gb, cb, rfl, _, gb2, _, _, _⟩
      · cases hx
      obtain ⟨l0', _⟩ := hla.at rfl 0 (by simp)
      obtain ⟨l1', _⟩ := hla.at rfl 1 (by simp)
      obtain ⟨l2', _⟩ := hlb.at rfl 0 (by simp)
      obtain ⟨l3', _⟩ := hlb.at rfl 1 (by simp)
      simp only [List.getD_cons_zero, List.getD_cons_succ, List.length_cons, List.length_nil, Nat.zero_add, Nat.reduceAdd] at l0' l1' l2' l3' HA HD HF ⊢
      have hfl := hI.fl
      have HV := Lib.hid (show ∀ (w3 : World) (B3 : Nat) (v : Value), OwnI w3 B3 v (fin (nbW (flB s) (flB a)) (a.size * s.size) t0).far → ∃ g c, v = .slice (some ⟨g, 0, none⟩) (a.size * s.size) c ∧ ∀ k, k < a.size * s.size → w3.cell? ⟨g, k, none⟩ = some (.int .i64 (f (fin (nbW (flB s) (flB a)) (a.size * s.size) t0) k)) from fun w3 B3 v ho => by
        rcases ho.view with ⟨hx, _⟩ | ⟨_, g, c, rfl, _, _, _, hc, _⟩
        · rw [hx] at hfl; simp at hfl; omega
        · exact ⟨g, c, by rw [hfl], fun k hk => hc k (by rw [hfl]; exact hk)⟩)
      have hN : a.size * s.size ≤ 64 := Nat.mul_le_mul (show a.size ≤ 8 by omega) (show s.size ≤ 8 by omega)
      have HNBS := Lib.hid (fun (n j : Nat) hj hn hh => @nbW_some s a n j hj hn hh)
      have HNBN := Lib.hid (fun (n j : Nat) hh => @nbW_none s a n j hh)
      have HSY := Lib.hid (rev_ex hRV)
      rw [hsym] at HD hz hbd ⊢
      generalize hFF : f (fin (nbW (flB s) (flB a)) (a.size * s.size) t0) = F at *
      generalize (fin (nbW (flB s) (flB a)) (a.size * s.size) t0).far = fr at *
      generalize nbW (flB s) (flB a) = nb' at *
      generalize nbW s a = nb at *
      generalize flB s = s' at *
      generalize flB a = a' at *
      generalize a.size * s.size = N at *
      obtain ⟨d, hdd⟩ : ∃ d : Nat, F s0 = d := ⟨(F s0).toNat, by omega⟩
      rw [hdd] at HD hz hbd ⊢
      have hdN : d ≤ 64 := by omega
      have hs0N := p1
      have ht0N := r1
      obtain ⟨i0, hi, hz0, hz1, hz2⟩ := info_parts Tryd.infoI2
      have HII := Lib.hid hi
      have hc0 : (crn s.size t0).1 = ((t0 / s.size : Nat) : Int) := rfl
      have hc1 : (crn s.size t0).2 = ((t0 % s.size : Nat) : Int) := rfl
      have hc2 : (crn s.size s0).1 = ((s0 / s.size : Nat) : Int) := rfl
      have hc3 : (crn s.size s0).2 = ((s0 % s.size : Nat) : Int) := rfl
      have hdm : s.size * (t0 / s.size) + t0 % s.size = t0 := Nat.div_add_mod t0 s.size
      have hdm2 : s.size * (s0 / s.size) + s0 % s.size = s0 := Nat.div_add_mod s0 s.size
      rw [Nat.mul_comm] at hdm hdm2
      rw [hc2] at l0'
      rw [hc3] at l1'
      rw [hc0] at l2'
      rw [hc1] at l3'
      have hPi : ((t0 / s.size : Nat) : Int) * (s.size : Int) = ((t0 / s.size * s.size : Nat) : Int) := by push_cast; rfl
      have hPi2 : ((s0 / s.size : Nat) : Int) * (s.size : Int) = ((s0 / s.size * s.size : Nat) : Int) := by push_cast; rfl
      generalize t0 / s.size = X0 at *
      generalize t0 % s.size = Y0 at *
      generalize s0 / s.size = X1 at *
      generalize s0 % s.size = Y1 at *
      generalize X0 * s.size = P0 at *
      generalize X1 * s.size = P1 at *
      have hsP : (P0 : Int) + (Y0 : Int) = (t0 : Int) := by omega
      have hsP2 : (P1 : Int) + (Y1 : Int) = (s0 : Int) := by omega
      have hP64 : P0 ≤ 64 := by omega
      have hY64 : Y0 ≤ 64 := by omega
      have hP64' : P1 ≤ 64 := by omega
      have hY64' : Y1 ≤ 64 := by omega
      obtain ⟨W0, hW0⟩ : ∃ W0, w.alloc (.cells #[.string s, .string a] 28) = W0 := ⟨_, rfl⟩
      have GW : Gr w W0 := by subst hW0; exact by repeat (first | exact Gr.refl _ | refine Gr.alloc ?_ _ | refine Gr.trans ?_ (by assumption) | refine Gr.drew ?_ | refine Gr.drewN ?_ _ | refine Gr.grow ?_ _ | refine Gr.setCell ?_ (by (try simp); (try omega)) _)
      have k0 : W0.cell? ⟨w.heap.size, 0, none⟩ = some (.string s) := by subst hW0; simp [go_sem]
      have k1 : W0.cell? ⟨w.heap.size, 1, none⟩ = some (.string a) := by subst hW0; simp [go_sem]
      have HG := Lib.hid GW
      have HK := Lib.hid (And.intro k0 k1)
      have HL := Lib.hid (And.intro (GW.keep0 l0') (And.intro (GW.keep0 l1') (And.intro (GW.keep0 l2') (GW.keep0 l3'))))
      have dn : decide ((d : Int) < 0) = false := decide_eq_false hz
      have hFD' := Lib.hid hFD
      have HLD := Lib.hid hsym
      clear hla hlb l0' l1' l2' l3' GW hi hc0 hc1 hc2 hc3 hdm hdm2 hsym hFD hI hfl hways e1 hFF hRV hv' m1 m2 h1 kk1 kk2 hs ha
      go_enter Tryd.func19, Tryd.ntmps19
      go_wp2_with (first | (go_at_call 33; refine (HA.out _ HG.out).mono ?_; rintro e w1 ⟨rfl, hg1⟩; have a0 := hg1.keep0 HK.out.1; have a1 := hg1.keep0 HK.out.2; have hb1 := Below.trans HG.out.below (hg1.below.mono HG.out.below.size)) | (go_at_call 34; refine (HD.out _ hb1).mono ?_; rintro e w2 ⟨rfl, hb2⟩; have c0 := cell_k2 hb2 a0; have c1 := cell_k2 hb2 a1; have hbb := Below.trans hb1 (hb2.mono hb1.size)) | (go_at_call 37; refine (HBK.out _).mono ?_; rintro e wk ⟨rfl, gk⟩; have c5 := gk.keep0 c0; have c6 := gk.keep0 c1; have hbk := Below.trans hbb (gk.below.mono hbb.size)) | (go_at_call 36; refine (HF.out _ hbk).mono ?_; rintro e w3 ⟨v3, rfl, hown3, hb3⟩; obtain ⟨g3, c3, rfl, hr3⟩ := HV.out _ _ _ hown3) | (at_make; refine wpList_make_full _ rfl _ _ 24 rfl w3.heap.size 3 i0 (.int .i64 0) 1 Tryd.underlying24 HII.out hz0 hz1 .i64 .i64 _ _ N rfl rfl (by rfl) (by rfl) (by rw [hz2]; omega) (by unfold maxLen; omega) (Nat.le_refl _) ?_; intro w4 hown4 hgr4))
      have hB3 := Below.trans hbk (hb3.mono hbk.size)
      have hB4 : Below w3.heap.size w3 w4 := (Below.refl _ w3).grown hgr4 (Nat.le_refl _) (by simp)
      have ho4 : OwnI w4 w3.heap.size (.slice (some ⟨w3.heap.size, 0, none⟩) N N) (List.replicate N 0) := by
        unfold OwnI
        simpa [Value.cells, toList_madeCells_one] using hown4
      have d0 := cell_k2 hb3 c5
      have d1 := cell_k2 hb3 c6
      have HK3 := Lib.hid (And.intro d0 d1)
      have gbW : Below w.heap.size w W0 := HG.out.below
      have HL3 := Lib.hid (show (w3.cell? ⟨ga, 0, none⟩ = some (.int .i64 X1) ∧ w3.cell? ⟨ga, 1, none⟩ = some (.int .i64 Y1)) ∧ w3.cell? ⟨gb, 0, none⟩ = some (.int .i64 X0) ∧ w3.cell? ⟨gb, 1, none⟩ = some (.int .i64 Y0) from by
        have e1 := cell_k2 hb3 (gk.keep0 (cell_k2 hb2 (hg1.keep0 HL.out.1)))
        have e2 := cell_k2 hb3 (gk.keep0 (cell_k2 hb2 (hg1.keep0 HL.out.2.1)))
        have e3 := cell_k2 hb3 (gk.keep0 (cell_k2 hb2 (hg1.keep0 HL.out.2.2.1)))
        have e4 := cell_k2 hb3 (gk.keep0 (cell_k2 hb2 (hg1.keep0 HL.out.2.2.2)))
        exact ⟨⟨e1, e2⟩, e3, e4⟩)
      have HB3 := Lib.hid hB3
      have HR3 := Lib.hid hr3
      have HO4 := Lib.hid ho4
      have HB4 := Lib.hid hB4
      obtain ⟨s0', s1⟩ := ho4.at (by simp) t0 ht0N
      generalize (List.replicate N (0 : Int)).getD t0 0 = y0 at s0'
      have q0 := gr_all (Gr.refl w4) (cell_k2 hB4 HK3.out.1)
      have q1 := gr_all (Gr.refl w4) (cell_k2 hB4 HK3.out.2)
      have q2 := gr_all (Gr.refl w4) (cell_k2 hB4 HL3.out.2.1)
      have q3 := gr_all (Gr.refl w4) (cell_k2 hB4 HL3.out.2.2)
      have q4 := gr_all (Gr.refl w4) s0'
      have q5 := gr_all_f (Gr.refl w4) (show w3.heap.size < w4.heap.size from World.block_lt_of_cell? _ _ s0') s1
      have zs0 : (0 : Int) ≤ (t0 : Int) := by omega
      have zs1 : (t0 : Int) < (N : Int) := by omega
      clear hown4 hgr4 ho4 hB4 hB3 a0 a1 c0 c1 c5 c6 d0 d1 hb1 hb2 hb3 hbb hbk gk hg1 hr3 hown3 s0' s1 gbW
      go_wp2_with fail
      (refine wp_region_grown_tail 11 mixed (by kernel_rfl) ?_; simp only [List.take_succ_cons, List.take_zero, List.drop_succ_cons, List.drop_zero]; (repeat (first | go_big_quiet_step ((fail)) | quiet_step ((fail)))); refine wpQuiet_nil ?_; intro _ hw'; obtain ⟨⟨nq, osq⟩, hw''⟩ := hw'; subst hw'')
      have q5' := q5 nq osq
      have q4' := q4 nq osq
      go_wp2_with fail
      have gg4 : Gr w4 (Go.Sort.grow (w4.drewN nq) osq) := Gr.grow (Gr.drewN (Gr.refl w4) nq) osq
      have HS := Lib.hid (show Tryd.CdR nb F N t0 w3 1 0 0 ((Go.Sort.grow (w4.drewN nq) osq).setCell ⟨w3.heap.size, t0, none⟩ (.int .i64 1)) from
        ⟨by rw [← wl_start2 hFD'.out ht0N]; exact OwnI.set (HO4.out.gr gg4) (by simp) t0 1, Below.setCell (HB4.out.trans (gg4.below.mono HB4.out.size)) (Nat.le_refl _) _⟩)
      obtain ⟨w5, hw5⟩ : ∃ w5, (Go.Sort.grow (w4.drewN nq) osq).setCell ⟨w3.heap.size, t0, none⟩ (.int .i64 1) = w5 := ⟨_, rfl⟩
      rw [hw5] at HS
      simp only [hw5]
      clear q0 q1 q2 q3 q4 q5 q5' q4' gg4 hw5 HO4 HB4
      go_loopw [11] (fun nv wr => ∃ n : Nat, nv = .int .i64 n ∧ 1 ≤ n ∧ n ≤ d + 1 ∧ Tryd.CdR nb F N t0 w3 n 0 0 wr) (fun i _ => d + 1 - (intOf i).toNat)
      case atStart => exact ⟨1, rfl, Nat.le_refl _, by omega, HS.out⟩
      case round =>
        obtain ⟨n, rfl, hn1, hn2, ho, hb⟩ := hrel
        have e0 := cell_k2 hb HK3.out.1
        have e1 := cell_k2 hb HK3.out.2
        have HO := Lib.hid ho
        have HB := Lib.hid hb
        have HBW := Lib.hid (HB3.out.trans (hb.mono HB3.out.size))
        clear ho hb
        by_cases hnd : n ≤ d
        · have z1 : (n : Int) ≤ (d : Int) := by omega
          go_wp2_with (first | (go_at_call 34; refine (HD.out _ HBW.out).mono ?_; rintro e w6 ⟨rfl, hb6⟩))
          have HO6 := Lib.hid (HO.out.below hb6 (Nat.le_refl _))
          have HB6 := Lib.hid (HB.out.trans (hb6.mono HB.out.size))
          clear e0 e1 hb6
          rename World => w7
          go_loopw [63] (fun kv wr => ∃ k : Nat, kv = .int .i64 k ∧ k ≤ N ∧ Tryd.CdR nb F N t0 w3 n k 0 wr) (fun i _ => N - (intOf i).toNat)
          case atStart => exact ⟨0, rfl, Nat.zero_le _, HO6.out, HB6.out⟩
          case round =>
            obtain ⟨k, rfl, hk, ho, hb⟩ := hrel
            have HO := Lib.hid ho
            have HB := Lib.hid hb
            by_cases hlt : k < N
            · have e3 := cell_k2 hb (HR3.out k hlt)
              have y0 : (0 : Int) ≤ (k : Int) := by omega
              have y1 : (k : Int) < (N : Int) := by omega
              clear ho hb
              by_cases hFk : F k = n
              · have hbq : (F k == (n : Int)) = true := by simp [hFk]
                have hbn : (F k != (n : Int)) = false := by simp [hFk]
                have HFK := Lib.hid hFk
                have hcv := Go.Lib.run_convert_bytes_const (P := Tryd.prog) wr 51 5 #[.int .u8 101, .int .u8 110, .int .u8 115, .int .u8 119] 4 4 Tryd.underlying51 Tryd.underlying5
                rw [hFk] at e3
                go_wp2_with fail
                have gA : Gr wr (wr.alloc (.cells #[.int .u8 101, .int .u8 110, .int .u8 115, .int .u8 119] 5 (4, 5))) := Gr.alloc (Gr.refl _) _
                have hwsz := HB.out.size
                have hltW : w3.heap.size < wr.heap.size := HO.out.lt _ rfl
                clear hcv e3 hbq hbn
                rename World => wo
                go_loopw [74] (fun iv wi => ∃ j : Nat, iv = .int .i64 j ∧ j ≤ 4 ∧ Tryd.CdR nb F N t0 w3 n k j wi ∧ (∀ i, i < 4 → wi.cell? ⟨wo.heap.size, i, none⟩ = some (.int .u8 (sgn i))) ∧ wo.heap.size < wi.heap.size) (fun i _ => (4 - intOf i).toNat)
                case atStart =>
                  refine ⟨0, rfl, by omega, ⟨HO.out.gr gA, HB.out.trans (gA.below.mono HB.out.size)⟩, fun i hi => ?_, by simp⟩
                  have : i = 0 ∨ i = 1 ∨ i = 2 ∨ i = 3 := by omega
                  rcases this with rfl | rfl | rfl | rfl <;> (rw [cell_of_row _ _ _ _ _ _ (heap_alloc_new _ _)]; rfl)
                case round =>
                  obtain ⟨j, rfl, hj4, ⟨ho, hb⟩, hcs, hbsz⟩ := hrel
                  by_cases hj : j < 4
                  · have hc9 := hcs j hj
                    have zj0 : (0 : Int) ≤ (j : Int) := by omega
                    have zj1 : (j : Int) < 4 := by omega
                    have m0 := cell_k2 hb HK3.out.1
                    have m1 := cell_k2 hb HK3.out.2
                    have q0 := gr_all (Gr.refl wr) m0
                    have q1 := gr_all (Gr.refl wr) m1
                    have HBI := Lib.hid (HB3.out.trans (hb.mono HB3.out.size))
                    have HST2 := Lib.hid (fun (X : World) (hX : Gr wr X) => HST.out X k j hj hlt)
                    have hs.sizee : ¬ (s.size : Int) = 0 := by omega
                    have t1 : ((k : Int)).tdiv (s.size : Int) = ((k / s.size : Nat) : Int) := by rw [Int.tdiv_eq_ediv_of_nonneg (by omega)]; push_cast; rfl
                    have t2 : ((k : Int)).tmod (s.size : Int) = ((k % s.size : Nat) : Int) := by rw [Int.tmod_eq_emod_of_nonneg (by omega)]; push_cast; rfl
                    have b1 : k / s.size ≤ 64 := Nat.le_trans (Nat.div_le_self _ _) (by omega)
                    have b2 : k % s.size ≤ 64 := Nat.le_trans (Nat.mod_le _ _) (by omega)
                    have HM := Lib.hid (And.intro m0 m1)
                    have HO2 := Lib.hid ho
                    have HB2 := Lib.hid hb
                    have HCS := Lib.hid hcs
                    clear ho hb hcs m0 m1
                    cases hst : drv s a (k / s.size) (k % s.size) j
                    · have hnn : nb k j = none := HNBN.out k j hst
                      have HSK := Lib.hid (wl_skip (nb := nb) (F := F) (N := N) (t0 := t0) (n := n) (k := k) (j := j) (by rw [hnn]))
                      obtain ⟨u5, v5, hov⟩ := owV_none hst
                      rw [hov] at HST2
                      clear hov
                      clear hst hnn
                      generalize k / s.size = X3 at *
                      generalize k % s.size = Y3 at *
                      go_wp2
                      (refine wp_region_quiet_grown mixed (by kernel_rfl) ?_; (repeat (first | go_big_quiet_step ((first | (go_at_call 38; exact Calls.grown_of (HST2.out _ (by repeat (first | exact Gr.refl _ | refine Gr.alloc ?_ _ | refine Gr.trans ?_ (by assumption) | refine Gr.drew ?_ | refine Gr.drewN ?_ _ | refine Gr.grow ?_ _ | refine Gr.setCell ?_ (by (try simp); (try omega)) _)))))) | quiet_step ((first | (go_at_call 38; exact Calls.grown_of (HST2.out _ (by repeat (first | exact Gr.refl _ | refine Gr.alloc ?_ _ | refine Gr.trans ?_ (by assumption) | refine Gr.drew ?_ | refine Gr.drewN ?_ _ | refine Gr.grow ?_ _ | refine Gr.setCell ?_ (by (try simp); (try omega)) _)))))))); refine wpQuiet_nil ?_; intro _ hw'; obtain ⟨⟨nq, osq⟩, hw''⟩ := hw'; subst hw'')
                      go_wp2_with fail
                      have gg : Gr wr (Go.Sort.grow (wr.drewN nq) osq) := Gr.grow (Gr.drewN (Gr.refl wr) nq) osq
                      go_roundw
                      case rel => exact ⟨j + 1, by go_num, by omega, ⟨by rw [HSK.out]; exact HO2.out.gr gg, HB2.out.trans (gg.below.mono HB2.out.size)⟩, fun i hi => gg.keep0 (HCS.out i hi), Nat.lt_of_lt_of_le hbsz gg.below.size⟩
                      case measure => simp [intOf]; omega
                    · obtain ⟨m, hnn, hmN, hmx, hmy, hme⟩ := HNBS.out k j hj hlt hst
                      rw [owV_some hst, ← hmx, ← hmy] at HST2
                      have cf := cell_k2 HB2.out (HR3.out m hmN)
                      have hcase : F m = (n : Int) - 1 ∨ F m ≠ (n : Int) - 1 ∧ pth nb (n - 1) m t0 = 0 := by
                        by_cases c : F m = (n : Int) - 1
                        · exact .inl c
                        · refine .inr ⟨c, Decidable.byContradiction fun hne => ?_⟩
                          obtain ⟨x, y⟩ := HOFF.out (n - 1) m hmN hne
                          obtain ⟨j', hj', e'⟩ := HSY.out k j m hlt hj hnn
                          have := (hFD'.out.re m j' k hmN hj' x e').2
                          rw [HFK.out] at this
                          omega
                      have HNN := Lib.hid hnn
                      clear hst hmx hmy hme hnn
                      generalize k / s.size = X3 at *
                      generalize k % s.size = Y3 at *
                      have hPi2 : ((m / s.size : Nat) : Int) * (s.size : Int) = ((m / s.size * s.size : Nat) : Int) := by push_cast; rfl
                      have hdm2 : s.size * (m / s.size) + m % s.size = m := Nat.div_add_mod m s.size
                      rw [Nat.mul_comm] at hdm2
                      generalize m / s.size = U at *
                      generalize m % s.size = V at *
                      generalize U * s.size = P2 at *
                      have hsP3 : (P2 : Int) + (V : Int) = (m : Int) := by omega
                      have b3 : P2 ≤ 64 := by omega
                      have b4 : V ≤ 64 := by omega
                      have zm0 : (0 : Int) ≤ (m : Int) := by omega
                      have zm1 : (m : Int) < (N : Int) := by omega
                      have r0 := gr_all (Gr.refl wr) cf
                      rcases hcase with hFm | ⟨hFm, hpz⟩
                      · rw [hFm] at r0 cf
                        have HADD := Lib.hid (wl_add (nb := nb) (F := F) (N := N) (t0 := t0) (n := n) (k := k) (j := j) hlt hmN HFK.out hFm hn1 HNN.out)
                        obtain ⟨x1, x2⟩ := HO2.out.at (wl_len _ _ _ _) k hlt
                        obtain ⟨x3, _⟩ := HO2.out.at (wl_len _ _ _ _) m hmN
                        generalize (wl nb F N t0 n k j).getD k 0 = vk at *
                        generalize (wl nb F N t0 n k j).getD m 0 = vm at *
                        have hbF : w3.heap.size < wr.heap.size := HO2.out.lt _ rfl
                        have HXX := Lib.hid (And.intro x1 (And.intro x2 x3))
                        have hbe : ((n : Int) - 1 == (n : Int) - 1) = true := by simp
                        clear x1 x2 x3 cf hdm2
                        go_wp2
                        (refine wp_region_quiet_grown mixed (by kernel_rfl) ?_; (repeat (first | go_big_quiet_step ((first | (go_at_call 38; exact Calls.grown_of (HST2.out _ (by repeat (first | exact Gr.refl _ | refine Gr.alloc ?_ _ | refine Gr.trans ?_ (by assumption) | refine Gr.drew ?_ | refine Gr.drewN ?_ _ | refine Gr.grow ?_ _ | refine Gr.setCell ?_ (by (try simp); (try omega)) _)))))) | quiet_step ((first | (go_at_call 38; exact Calls.grown_of (HST2.out _ (by repeat (first | exact Gr.refl _ | refine Gr.alloc ?_ _ | refine Gr.trans ?_ (by assumption) | refine Gr.drew ?_ | refine Gr.drewN ?_ _ | refine Gr.grow ?_ _ | refine Gr.setCell ?_ (by (try simp); (try omega)) _)))))))); refine wpQuiet_nil ?_; intro _ hw'; obtain ⟨⟨nq, osq⟩, hw''⟩ := hw'; subst hw'')
                        go_wp2_with fail
                        have gg : Gr wr (Go.Sort.grow (wr.drewN nq) osq) := Gr.grow (Gr.drewN (Gr.refl wr) nq) osq
                        obtain ⟨wg, hwg⟩ : ∃ wg, Go.Sort.grow (wr.drewN nq) osq = wg := ⟨_, rfl⟩
                        rw [hwg] at gg
                        simp only [hwg]
                        clear hwg q0 q1 r0
                        have r1 := gr_all (Gr.refl wg) (gg.keep0 HXX.out.1)
                        have r2 := gr_all (Gr.refl wg) (gg.keep0 HXX.out.2.2)
                        have r3 := gr_all_f (Gr.refl wg) (Nat.lt_of_lt_of_le hbF gg.below.size) (((bcell gg.below).2 _ _ hbF).trans HXX.out.2.1)
                        (refine wp_region_grown_tail 10 mixed (by kernel_rfl) ?_; simp only [List.take_succ_cons, List.take_zero, List.drop_succ_cons, List.drop_zero]; (repeat (first | go_big_quiet_step ((fail)) | quiet_step ((fail)))); refine wpQuiet_nil ?_; intro _ hw'; obtain ⟨⟨nq, osq⟩, hw''⟩ := hw'; subst hw'')
                        have r3' := r3 nq osq
                        have r1' := r1 nq osq
                        go_wp2_with fail
                        have gh : Gr wr (Go.Sort.grow (wg.drewN nq) osq) := gg.trans (Gr.grow (Gr.drewN (Gr.refl wg) nq) osq)
                        have HGH := Lib.hid gh
                        have HNEW := Lib.hid (OwnI.set (HO2.out.gr gh) (wl_len _ _ _ _) k (IntKind.i64.wrap (vk + vm)))
                        rw [HADD.out, show IntKind.i64.wrap (vk + vm) = wrap64 (vk + vm) from by rw [IntKind.wrap_i64]; unfold wrap64; omega] at HNEW
                        clear r1 r2 r3 r3' r1' gh
                        go_roundw
                        case rel =>
                          refine ⟨j + 1, by go_num, by omega, ⟨HNEW.out, Below.setCell (HB2.out.trans (HGH.out.below.mono HB2.out.size)) (Nat.le_refl _) _⟩, fun i hi => ?_, ?_⟩
                          · exact (World.cell?_setCell_far _ ⟨w3.heap.size, k, none⟩ ⟨wo.heap.size, i, none⟩ _ (by simp; omega)).trans (HGH.out.keep0 (HCS.out i hi))
                          · exact Nat.lt_of_lt_of_le hbsz (Nat.le_trans HGH.out.below.size (by simp))
                        case measure => simp [intOf]; omega
                      · have hbe : (F m == (n : Int) - 1) = false := by simp [hFm]
                        have HSK := Lib.hid (wl_skip (nb := nb) (F := F) (N := N) (t0 := t0) (n := n) (k := k) (j := j) (by rw [HNN.out]; exact hpz))
                        generalize F m = fm at *
                        clear cf hdm2 hpz
                        go_wp2
                        (refine wp_region_quiet_grown mixed (by kernel_rfl) ?_; (repeat (first | go_big_quiet_step ((first | (go_at_call 38; exact Calls.grown_of (HST2.out _ (by repeat (first | exact Gr.refl _ | refine Gr.alloc ?_ _ | refine Gr.trans ?_ (by assumption) | refine Gr.drew ?_ | refine Gr.drewN ?_ _ | refine Gr.grow ?_ _ | refine Gr.setCell ?_ (by (try simp); (try omega)) _)))))) | quiet_step ((first | (go_at_call 38; exact Calls.grown_of (HST2.out _ (by repeat (first | exact Gr.refl _ | refine Gr.alloc ?_ _ | refine Gr.trans ?_ (by assumption) | refine Gr.drew ?_ | refine Gr.drewN ?_ _ | refine Gr.grow ?_ _ | refine Gr.setCell ?_ (by (try simp); (try omega)) _)))))))); refine wpQuiet_nil ?_; intro _ hw'; obtain ⟨⟨nq, osq⟩, hw''⟩ := hw'; subst hw'')
                        go_wp2_with fail
                        have gg : Gr wr (Go.Sort.grow (wr.drewN nq) osq) := Gr.grow (Gr.drewN (Gr.refl wr) nq) osq
                        go_roundw
                        case rel => exact ⟨j + 1, by go_num, by omega, ⟨by rw [HSK.out]; exact HO2.out.gr gg, HB2.out.trans (gg.below.mono HB2.out.size)⟩, fun i hi => gg.keep0 (HCS.out i hi), Nat.lt_of_lt_of_le hbsz gg.below.size⟩
                        case measure => simp [intOf]; omega
                  · obtain rfl : j = 4 := by omega
                    have HO2 := Lib.hid ho
                    have HB2 := Lib.hid hb
                    clear ho hb hcs
                    go_wp2_with fail
                    go_roundw
                    case rel => exact ⟨k + 1, by go_num, by omega, by rw [← wl_done hn1]; exact HO2.out, HB2.out⟩
                    case measure => simp [intOf]; omega
              · have hbn : (F k != (n : Int)) = true := by simp [hFk]
                have HX := Lib.hid (wl_pass (nb := nb) (N := N) (t0 := t0) hFk)
                generalize F k = fk at *
                go_wp2_with fail
                go_roundw
                case rel => exact ⟨k + 1, by go_num, by omega, by rw [← HX.out]; exact HO.out, HB.out⟩
                case measure => simp [intOf]; omega
            · obtain rfl : k = N := by omega
              clear ho hb
              go_wp2_with fail
              go_roundw
              case rel => exact ⟨n + 1, by go_num, by omega, by omega, by rw [← wl_level]; exact HO.out, HB.out⟩
              case measure => simp [intOf]; omega
        · obtain rfl : n = d + 1 := by omega
          have hlast := wl_last (nb := nb) (N := N) (t0 := t0) (F := F) (n := d + 1) hs0N (by omega) (by omega)
          rw [hdd] at hlast
          have e3 := (HO.out.at (wl_len _ _ _ _) s0 hs0N).1
          rw [hlast] at e3
          obtain ⟨res, hres⟩ : ∃ r, IntKind.i64.wrap ((pth nb (d : Int).toNat s0 t0 : Nat) : Int) = r := ⟨_, rfl⟩
          rw [hres] at e3
          have HRS := Lib.hid hres
          clear hres hlast
          have z1 : ¬ (((d + 1 : Nat) : Int) ≤ (d : Int)) := by omega
          have zs2 : (0 : Int) ≤ (s0 : Int) := by omega
          have zs3 : (s0 : Int) < (N : Int) := by omega
          go_wp2_with (first | (go_at_call 34; refine (HD.out _ HBW.out).mono ?_; rintro e w6 ⟨rfl, hb6⟩; have q0 := gr_all (Gr.refl w6) (cell_k2 hb6 e0); have q1 := gr_all (Gr.refl w6) (cell_k2 hb6 e1); have q2 := gr_all (Gr.refl w6) (cell_k2 hb6 e3); have q3 := gr_all (Gr.refl w6) (cell_k2 (HB.out.trans (hb6.mono HB.out.size)) HL3.out.1.1); have q4 := gr_all (Gr.refl w6) (cell_k2 (HB.out.trans (hb6.mono HB.out.size)) HL3.out.1.2); have HBF := Lib.hid (HBW.out.trans (hb6.mono HBW.out.size))))
          (refine wp_region_quiet_grown mixed (by kernel_rfl) ?_; (repeat (first | go_big_quiet_step ((fail)) | quiet_step ((fail)))); refine wpQuiet_nil ?_; intro _ hw'; obtain ⟨⟨nq, osq⟩, hw''⟩ := hw'; subst hw'')
          go_wp2
          go_ret2
          exact ⟨by rw [HRS.out]; rfl, HBF.out.trans ((Gr.grow (Gr.drewN (Gr.refl _) _) _).below.mono HBF.out.size)⟩
end Go.Proofs
