/-
  Contracts of chapter 4: the first one of the shortest ways (the model).
-/
import Derived.Test.YtkgfbdbhllakoaaAvN
import Derived.Test.YtkgfbdbhllakoaaAvS
namespace Go.Proofs
open Go.RowKit Av Gm Go.Maps
set_option linter.unusedVariables false
set_option linter.unusedSimpArgs false
def sgU : Nat → UInt8 | 0 => 101 | 1 => 110 | 2 => 115 | _ => 119
/-- the word of some directions -/
def wsB (l : List Nat) : ByteArray := ⟨(l.map sgU).toArray⟩
theorem wsB_snoc (l : List Nat) (i : Nat) : wsB (l ++ [i]) = wsB l ++ ⟨#[sgU i]⟩ := by
  unfold wsB
  apply ByteArray.ext
  simp
theorem wsB_size (l : List Nat) : (wsB l).size = l.length := by unfold wsB; simp [ByteArray.size]
theorem sgn_bd (j : Nat) : 97 ≤ sgn j ∧ sgn j ≤ 122 := by unfold sgn; split <;> decide
theorem enc_sgn (j : Fin 4) : Utf8.encode (sgn j.1) = ⟨#[sgU j.1]⟩ := by revert j; decide
def fwW (W H : Int) (ps : List Blk) (xs ys : List Int) : ByteArray :=
  wsB (stW (nbC W.toNat H.toNat ps) (f (fin (nbC W.toNat H.toNat ps) (W.toNat * H.toNat) (ys.getD 0 0 * H + ys.getD 1 0).toNat)) (xs.getD 0 0 * H + xs.getD 1 0).toNat (cdI W H ps xs ys).toNat).2
def fwV (W H : Int) (ps : List Blk) (xs ys : List Int) : ByteArray := if cdB W H ps xs ys then fwW W H ps xs ys else ⟨#[]⟩
set_option maxRecDepth 100000 in
set_option maxHeartbeats 4000000 in
theorem Try.sFirstShortestWay (w : World) (W H : Int) (B : Nat) (a : Value) (ps : List Blk) (Ba : Nat) (la : Value) (xs : List Int) (Bb : Nat) (lb : Value) (ys : List Int) (v : ByteArray) (b : Bool) (hv : fwV W H ps xs ys = v) (hb : cdB W H ps xs ys = b) (hl : ps.length ≤ 1048576) (h : OwnB w B a ps) (hla : OwnI w Ba la xs) (hlb : OwnI w Bb lb ys) :
    Calls Try.prog 21 #[.agg #[.int .i64 W, .int .i64 H, a], la, lb] w fun e w' => e = .returned (.tuple #[.string v, .bool b]) ∧ Below w.heap.size w w' := by
  have mixed : Try.prog.follows .mixedOrders = true := by kernel_rfl
  subst hv hb
  obtain ⟨A, c, rfl, h⟩ := OwnE.eta h
  obtain ⟨b1, h1⟩ : ∃ b1, okB W H ps = b1 := ⟨_, rfl⟩
  obtain ⟨b2, h2⟩ : ∃ b1, isC W H xs = b1 := ⟨_, rfl⟩
  obtain ⟨b3, h3⟩ : ∃ b1, isC W H ys = b1 := ⟨_, rfl⟩
  have HA := Lib.hid (fun (X : World) (g : Gr w X) => Try.avAsked X W H B _ ps Ba la xs Bb lb ys b1 b2 b3 h1 h2 h3 hl (h.gr g) (hla.gr g) (hlb.gr g))
  cases hall : (b1 && b2 && b3)
  · have e1 : cdB W H ps xs ys = false := by unfold cdB; rw [h1, h2, h3, hall]; rfl
    have e2 : fwV W H ps xs ys = ⟨#[]⟩ := by unfold fwV; rw [e1]; rfl
    rw [e1, e2]
    rw [hall] at HA
    clear h hla hlb h1 h2 h3 hall e1 e2
    go_enter Try.func21, Try.ntmps21
    go_wp2_with (first | (go_at_call 31; refine (HA.out _ (by repeat (first | exact Gr.refl _ | refine Gr.alloc ?_ _ | refine Gr.trans ?_ (by assumption) | refine Gr.drew ?_ | refine Gr.drewN ?_ _ | refine Gr.grow ?_ _ | refine Gr.setCell ?_ (by (try simp); (try omega)) _))).mono ?_; rintro e w1 ⟨rfl, hbW⟩; have hcW := (bcell hbW.below).1; have hfW := (bcell hbW.below).2; (try have hzW : w.heap.size < w1.heap.size := by have hq := hbW.below.size; (try simp at hq); omega); (try have hyW : w.heap.size + 1 < w1.heap.size := by have hq := hbW.below.size; (try simp at hq); omega); (try have hxW : w.heap.size + 2 < w1.heap.size := by have hq := hbW.below.size; (try simp at hq); omega)))
    go_ret2
    exact ⟨by simp <;> rfl, Gr.below (by repeat (first | exact Gr.refl _ | refine Gr.alloc ?_ _ | refine Gr.trans ?_ (by assumption) | refine Gr.drew ?_ | refine Gr.drewN ?_ _ | refine Gr.grow ?_ _ | refine Gr.setCell ?_ (by (try simp); (try omega)) _))⟩
  · simp only [Bool.and_eq_true] at hall
    obtain ⟨⟨rfl, rfl⟩, rfl⟩ := hall
    obtain ⟨o1, o2, o3, o4, _⟩ := of_decide_eq_true h1
    obtain ⟨p1, p2⟩ := isC_vtx h2 ⟨o1, o2⟩ ⟨o3, o4⟩
    obtain ⟨r1, r2⟩ := isC_vtx h3 ⟨o1, o2⟩ ⟨o3, o4⟩
    have hd : cdI W H ps xs ys = dst W.toNat H.toNat ps (xs.getD 0 0 * H + xs.getD 1 0).toNat (ys.getD 0 0 * H + ys.getD 1 0).toNat := rfl
    have e1 : cdB W H ps xs ys = decide (0 ≤ cdI W H ps xs ys) := by unfold cdB; rw [h1, h2, h3]; rfl
    have e2 : fwV W H ps xs ys = if decide (0 ≤ cdI W H ps xs ys) = true then fwW W H ps xs ys else ⟨#[]⟩ := by unfold fwV; rw [e1]
    rw [e1, e2]
    unfold fwW
    rw [hd]
    generalize (xs.getD 0 0 * H + xs.getD 1 0).toNat = s0 at *
    generalize (ys.getD 0 0 * H + ys.getD 1 0).toNat = t0 at *
    obtain ⟨Wn, rfl⟩ : ∃ Wn : Nat, W = Wn := ⟨W.toNat, by omega⟩
    obtain ⟨Hn, rfl⟩ : ∃ Hn : Nat, H = Hn := ⟨H.toNat, by omega⟩
    simp only [Int.toNat_natCast] at *
    subst p2 r2
    have HD := Lib.hid (fun (X : World) (g : Below w.heap.size w X) => Try.avDistance X Wn Hn B _ ps Ba la s0 Bb lb t0 (by omega) (by omega) p1 r1 hl (OwnE.below h g (Nat.le_refl _)) (OwnI.below hla g (Nat.le_refl _)) (OwnI.below hlb g (Nat.le_refl _)))
    have hbd := dst_bd (ps := ps) p1 r1
    clear h1 h2 h3 e1 e2 hd
    by_cases hz : dst Wn Hn ps s0 t0 < 0
    · have e1 : decide (0 ≤ dst Wn Hn ps s0 t0) = false := by simpa using hz
      rw [e1]
      clear h hla hlb p1 r1
      generalize dst Wn Hn ps s0 t0 = d at *
      clear hbd
      go_enter Try.func21, Try.ntmps21
      go_wp2_with (first | (go_at_call 31; refine (HA.out _ (by repeat (first | exact Gr.refl _ | refine Gr.alloc ?_ _ | refine Gr.trans ?_ (by assumption) | refine Gr.drew ?_ | refine Gr.drewN ?_ _ | refine Gr.grow ?_ _ | refine Gr.setCell ?_ (by (try simp); (try omega)) _))).mono ?_; rintro e w1 ⟨rfl, hbW⟩; have hcW := (bcell hbW.below).1; have hfW := (bcell hbW.below).2; (try have hzW : w.heap.size < w1.heap.size := by have hq := hbW.below.size; (try simp at hq); omega); (try have hyW : w.heap.size + 1 < w1.heap.size := by have hq := hbW.below.size; (try simp at hq); omega); (try have hxW : w.heap.size + 2 < w1.heap.size := by have hq := hbW.below.size; (try simp at hq); omega)) | (go_at_call 32; refine (HD.out _ (Gr.below (show Gr w _ from (by repeat (first | exact Gr.refl _ | refine Gr.alloc ?_ _ | refine Gr.trans ?_ (by assumption) | refine Gr.drew ?_ | refine Gr.drewN ?_ _ | refine Gr.grow ?_ _ | refine Gr.setCell ?_ (by (try simp); (try omega)) _))))).mono ?_; rintro e w2 ⟨rfl, hb2⟩))
      go_ret2
      exact ⟨by simp <;> rfl, Below.trans (show Below w.heap.size w _ from Gr.below (by repeat (first | exact Gr.refl _ | refine Gr.alloc ?_ _ | refine Gr.trans ?_ (by assumption) | refine Gr.drew ?_ | refine Gr.drewN ?_ _ | refine Gr.grow ?_ _ | refine Gr.setCell ?_ (by (try simp); (try omega)) _))) (hb2.mono (Gr.below (show Gr w _ from (by repeat (first | exact Gr.refl _ | refine Gr.alloc ?_ _ | refine Gr.trans ?_ (by assumption) | refine Gr.drew ?_ | refine Gr.drewN ?_ _ | refine Gr.grow ?_ _ | refine Gr.setCell ?_ (by (try simp); (try omega)) _)))).size)⟩
    · have e1 : decide (0 ≤ dst Wn Hn ps s0 t0) = true := by simpa using hz
      rw [e1, if_pos rfl]
      have hsym := dst_sym (ps := ps) p1 r1
      have hFD := fin_dist (@nb_valid Wn Hn ps) r1
      have hI := (fin_bf (@nb_valid Wn Hn ps) r1).inv
      have hF0 : dst Wn Hn ps t0 s0 = f (fin (nbC Wn Hn ps) (Wn * Hn) t0) s0 := rfl
      have HF := Lib.hid (fun (X : World) (g : Below w.heap.size w X) => Try.avFar X Wn Hn B _ ps t0 Bb lb (by omega) (by omega) r1 hl (OwnE.below h g (Nat.le_refl _)) (OwnI.below hlb g (Nat.le_refl _)))
      have HST := Lib.hid (fun (X : World) (g : Below w.heap.size w X) (u j : Nat) (hj : j < 4) (hu : onC Wn Hn (((u / Hn : Nat) : Int), ((u % Hn : Nat) : Int))) => Try.avStep X Wn Hn B _ ps _ _ j hj (by omega) (by omega) hu hl (OwnE.below h g (Nat.le_refl _)))
      have HINV := Lib.hid (stW_inv (@nb_valid Wn Hn ps) (@nb_sym Wn Hn ps) hFD p1)
      have HEX := Lib.hid (fun (u : Nat) hu h0 => cnd_ex (@nb_valid Wn Hn ps) (@nb_sym Wn Hn ps) hFD (u := u) hu h0)
      rcases hla.view with ⟨hx, _⟩ | ⟨_, ga, ca, rfl, _, ga2, _, _, _⟩
      · cases hx
      rcases hlb.view with ⟨hx, _⟩ | ⟨_, gb, cb, rfl, _, gb2, _, _, _⟩
      · cases hx
      obtain ⟨l0, _⟩ := hla.at rfl 0 (by simp)
      obtain ⟨l1, _⟩ := hla.at rfl 1 (by simp)
      simp only [List.getD_cons_zero, List.getD_cons_succ, List.length_cons, List.length_nil, Nat.zero_add, Nat.reduceAdd] at l0 l1 HA HD HF ⊢
      have hfl := hI.fl
      have HV := Lib.hid (show ∀ (w3 : World) (B3 : Nat) (v : Value), OwnI w3 B3 v (fin (nbC Wn Hn ps) (Wn * Hn) t0).far → ∃ g c, v = .slice (some ⟨g, 0, none⟩) (Wn * Hn) c ∧ ∀ k, k < Wn * Hn → w3.cell? ⟨g, k, none⟩ = some (.int .i64 (f (fin (nbC Wn Hn ps) (Wn * Hn) t0) k)) from fun w3 B3 v ho => by
        rcases ho.view with ⟨hx, _⟩ | ⟨_, g, c, rfl, _, _, _, hc, _⟩
        · rw [hx] at hfl; simp at hfl; omega
        · exact ⟨g, c, by rw [hfl], fun k hk => hc k (by rw [hfl]; exact hk)⟩)
      have hN : Wn * Hn ≤ 64 := Nat.mul_le_mul (show Wn ≤ 8 by omega) (show Hn ≤ 8 by omega)
      have HNBS := Lib.hid (fun (n j : Nat) hj hn hh => @nb_some Wn Hn ps n j hj hn hh)
      have HNBN := Lib.hid (fun (n j : Nat) hh => @nb_none Wn Hn ps n j hh)
      have HON := Lib.hid (fun (u : Nat) hu => @on_idx Wn Hn u hu)
      have hN' : (Wn : Int) * Hn = ((Wn * Hn : Nat) : Int) := by push_cast; rfl
      have hdm2 : Hn * (s0 / Hn) + s0 % Hn = s0 := Nat.div_add_mod s0 Hn
      rw [hsym] at HD hz hbd ⊢
      rw [hF0] at HD hz hbd ⊢
      generalize hFF : f (fin (nbC Wn Hn ps) (Wn * Hn) t0) = F at *
      generalize (fin (nbC Wn Hn ps) (Wn * Hn) t0).far = fr at *
      generalize nbC Wn Hn ps = nb at *
      generalize Wn * Hn = N at *
      obtain ⟨d, hdd⟩ : ∃ d : Nat, F s0 = d := ⟨(F s0).toNat, by omega⟩
      rw [hdd] at HD hz hbd ⊢
      rw [Int.toNat_natCast]
      have HDD := Lib.hid hdd
      have hdN : d ≤ 64 := by omega
      obtain ⟨W0, hW0⟩ : ∃ W0, w.alloc (.cells #[.int .i64 Wn, .int .i64 Hn, .slice A ps.length c] 31) = W0 := ⟨_, rfl⟩
      have GW : Gr w W0 := by subst hW0; exact by repeat (first | exact Gr.refl _ | refine Gr.alloc ?_ _ | refine Gr.trans ?_ (by assumption) | refine Gr.drew ?_ | refine Gr.drewN ?_ _ | refine Gr.grow ?_ _ | refine Gr.setCell ?_ (by (try simp); (try omega)) _)
      have k0 : W0.cell? ⟨w.heap.size, 0, none⟩ = some (.int .i64 Wn) := by subst hW0; simp [go_sem]
      have k1 : W0.cell? ⟨w.heap.size, 1, none⟩ = some (.int .i64 Hn) := by subst hW0; simp [go_sem]
      have k2 : W0.cell? ⟨w.heap.size, 2, none⟩ = some (.slice A ps.length c) := by subst hW0; simp [go_sem]
      have HG := Lib.hid GW
      have HK := Lib.hid (And.intro k0 (And.intro k1 k2))
      have HL := Lib.hid (And.intro (GW.keep0 l0) (GW.keep0 l1))
      have dn : decide ((d : Int) < 0) = false := decide_eq_false hz
      obtain ⟨x1, hx1⟩ : ∃ x, (crn Hn s0).1 = x := ⟨_, rfl⟩
      obtain ⟨y1, hy1⟩ : ∃ x, (crn Hn s0).2 = x := ⟨_, rfl⟩
      have HX1 := Lib.hid (And.intro hx1 hy1)
      rw [hx1, hy1] at HL
      clear h hla hlb l0 l1 GW hsym hFD hI hfl hF0 e1 hFF hx1 hy1
      go_enter Try.func21, Try.ntmps21
      go_wp2_with (first | (go_at_call 31; refine (HA.out _ HG.out).mono ?_; rintro e w1 ⟨rfl, hg1⟩; have a0 := hg1.keep0 HK.out.1; have a1 := hg1.keep0 HK.out.2.1; have a2 := hg1.keep0 HK.out.2.2; have hb1 := Below.trans HG.out.below (hg1.below.mono HG.out.below.size)) | (go_at_call 32; refine (HD.out _ hb1).mono ?_; rintro e w2 ⟨rfl, hb2⟩; have c0 := cell_k2 hb2 a0; have c1 := cell_k2 hb2 a1; have c2 := cell_k2 hb2 a2; have hbb := Below.trans hb1 (hb2.mono hb1.size)) | (go_at_call 37; refine (HF.out _ hbb).mono ?_; rintro e w3 ⟨v3, rfl, hown3, hb3⟩; obtain ⟨g3, c3, rfl, hr3⟩ := HV.out _ _ _ hown3; have q0 := gr_all (Gr.refl w3) (cell_k2 hb3 (cell_k2 hb2 (hg1.keep0 HL.out.1))); have q1 := gr_all (Gr.refl w3) (cell_k2 hb3 (cell_k2 hb2 (hg1.keep0 HL.out.2))); have d0 := gr_all (Gr.refl w3) (cell_k2 hb3 c0); have d1 := gr_all (Gr.refl w3) (cell_k2 hb3 c1); have d2 := gr_all (Gr.refl w3) (cell_k2 hb3 c2)))
      (refine wp_region_quiet_grown mixed (by kernel_rfl) ?_; (repeat (first | go_big_quiet_step ((fail)) | quiet_step ((fail)))); refine wpQuiet_nil ?_; intro _ hw'; obtain ⟨⟨nq, osq⟩, hw''⟩ := hw'; subst hw'')
      have gg : Gr w3 (Go.Sort.grow (w3.drewN nq) osq) := Gr.grow (Gr.drewN (Gr.refl w3) nq) osq
      have e0 := d0 nq osq
      have e1 := d1 nq osq
      have e2 := d2 nq osq
      obtain ⟨wg, hwg⟩ : ∃ wg, Go.Sort.grow (w3.drewN nq) osq = wg := ⟨_, rfl⟩
      rw [hwg] at gg e0 e1 e2
      simp only [hwg]
      have hB3 := Below.trans hbb (hb3.mono hbb.size)
      have HBG := Lib.hid (hB3.trans (gg.below.mono hB3.size))
      have HRG := Lib.hid (fun k hk => gg.keep0 (hr3 k hk))
      clear hwg gg q0 q1 d0 d1 d2 a0 a1 a2 c0 c1 c2 hb1 hb2 hb3 hbb hg1 hr3 hown3 hB3
      go_wp2_with (first | (go_at_call 32; refine (HD.out _ HBG.out).mono ?_; rintro e w5 ⟨rfl, hb5⟩))
      have HK5 := Lib.hid (And.intro (cell_k2 hb5 e0) (And.intro (cell_k2 hb5 e1) (cell_k2 hb5 e2)))
      have HR5 := Lib.hid (fun k hk => cell_k2 hb5 (HRG.out k hk))
      have HB5 := Lib.hid (HBG.out.trans (hb5.mono HBG.out.size))
      clear e0 e1 e2 hb5
      go_loopw [9, 10, 11, 12] (fun ov xv yv lv wr => ∃ k : Nat, k ≤ d ∧ ov = .string (wsB (stW nb F s0 k).2) ∧ xv = .int .i64 (crn Hn (stW nb F s0 k).1).1 ∧ yv = .int .i64 (crn Hn (stW nb F s0 k).1).2 ∧ lv = .int .i64 ((d : Int) - k) ∧ Gr w5 wr) (fun _ _ _ l _ => (intOf l).toNat)
      case atStart => exact ⟨0, Nat.zero_le _, rfl, by rw [← HX1.out.1]; rfl, by rw [← HX1.out.2]; rfl, by simp, Gr.refl _⟩
      case round =>
        obtain ⟨k, hk, rfl, rfl, rfl, rfl, hg⟩ := hrel
        have HGR := Lib.hid hg
        obtain ⟨u1, u2, u3, u4⟩ := HINV.out k (by rw [HDD.out]; omega)
        by_cases hkd : k < d
        · have z1 : (0 : Int) < (d : Int) - k := by omega
          rw [HDD.out] at u2
          have HU1 := Lib.hid u1
          have HU2 := Lib.hid u2
          have HNX := Lib.hid (fun j v h1 h2 => @stW_succ nb F s0 k j v h1 h2)
          generalize hst : stW nb F s0 k = st at *
          obtain ⟨u, l⟩ := st
          simp only at u1 u2 u3 u4 HU1 HU2 HNX ⊢
          have hcv := Go.Lib.run_convert_bytes_const (P := Try.prog) wr 60 5 #[.int .u8 101, .int .u8 110, .int .u8 115, .int .u8 119] 4 4 Try.underlying60 Try.underlying5
          clear hg
          go_wp2_with fail
          clear hcv
          have gA : Gr wr (wr.alloc (.cells #[.int .u8 101, .int .u8 110, .int .u8 115, .int .u8 119] 5 (4, 5))) := Gr.alloc (Gr.refl _) _
          rename World => wo
          go_loopw [9, 10, 11, 50] (fun ov xv yv iv wi => ov = .string (wsB l) ∧ xv = .int .i64 (crn Hn u).1 ∧ yv = .int .i64 (crn Hn u).2 ∧ ∃ j : Nat, iv = .int .i64 j ∧ j ≤ 4 ∧ (∀ i, i < j → cnd nb F u i = false) ∧ (∀ i, i < 4 → wi.cell? ⟨wo.heap.size, i, none⟩ = some (.int .u8 (sgn i))) ∧ Gr (wo.alloc (.cells #[.int .u8 101, .int .u8 110, .int .u8 115, .int .u8 119] 5 (4, 5))) wi) (fun _ _ _ i _ => (4 - intOf i).toNat)
          case atStart =>
            refine ⟨rfl, rfl, rfl, 0, rfl, by omega, fun i hi => absurd hi (Nat.not_lt_zero _), fun i hi => ?_, Gr.refl _⟩
            have : i = 0 ∨ i = 1 ∨ i = 2 ∨ i = 3 := by omega
            rcases this with rfl | rfl | rfl | rfl <;> (rw [cell_of_row _ _ _ _ _ _ (heap_alloc_new _ _)]; rfl)
          case round =>
            obtain ⟨rfl, rfl, rfl, j, rfl, hj4, hno, hcs, hgi⟩ := hrel
            by_cases hj : j < 4
            · have hc9 := hcs j hj
              have zj0 : (0 : Int) ≤ (j : Int) := by omega
              have zj1 : (j : Int) < 4 := by omega
              have hgw : Gr w5 wr := (HGR.out.trans gA).trans hgi
              have m0 := hgw.keep0 HK5.out.1
              have m1 := hgw.keep0 HK5.out.2.1
              have m2 := hgw.keep0 HK5.out.2.2
              have HBI := Lib.hid (HB5.out.trans (hgw.below.mono HB5.out.size))
              have HST2 := Lib.hid (fun (X : World) (hX : Gr wr X) => HST.out X (HBI.out.trans (hX.below.mono HBI.out.size)) u j hj (HON.out u HU1.out))
              change Hid (∀ (X : World), Gr wr X → Calls Try.prog 38 #[.agg #[.int .i64 Wn, .int .i64 Hn, .slice A ps.length c], .int .i64 (crn Hn u).1, .int .i64 (crn Hn u).2, .int .u8 (sgn j)] X fun e w' => e = .returned (stV Wn Hn ps (((u / Hn : Nat) : Int)) (((u % Hn : Nat) : Int)) j) ∧ Gr X w') at HST2
              have HGI := Lib.hid hgi
              have HCS := Lib.hid hcs
              have HNO := Lib.hid hno
              obtain ⟨cx, hcx⟩ : ∃ x, (crn Hn u).1 = x := ⟨_, rfl⟩
              obtain ⟨cy, hcy⟩ : ∃ x, (crn Hn u).2 = x := ⟨_, rfl⟩
              have HCX := Lib.hid (And.intro hcx hcy)
              obtain ⟨sj, hsj⟩ : ∃ s, sgn j = s := ⟨_, rfl⟩
              have hsb := sgn_bd j
              have henc := enc_sgn ⟨j, hj⟩
              simp only at henc
              rw [hsj] at hc9 HST2 hsb henc
              rw [hcx, hcy] at HST2 ⊢
              have hsb1 := hsb.1
              have hsb2 := hsb.2
              clear hgi hcs hno hgw hcx hcy hsj hsb
              cases hstp : stp Wn Hn ps (((u / Hn : Nat) : Int), ((u % Hn : Nat) : Int)) j
              · have HC := Lib.hid (cnd_none (F := F) (HNBN.out u j hstp))
                unfold stV at HST2
                rw [hstp] at HST2
                simp only [Bool.false_eq_true, if_false] at HST2
                clear hstp
                go_wp2_with (first | (go_at_call 38; refine (HST2.out _ (by repeat (first | exact Gr.refl _ | refine Gr.alloc ?_ _ | refine Gr.trans ?_ (by assumption) | refine Gr.drew ?_ | refine Gr.drewN ?_ _ | refine Gr.grow ?_ _ | refine Gr.setCell ?_ (by (try simp); (try omega)) _))).mono ?_; rintro e w6 ⟨rfl, hg6⟩))
                go_roundw
                case rel => exact ⟨rfl, rfl, rfl, j + 1, by go_num, by omega, fun i hi => by
                  rcases Nat.lt_or_eq_of_le (Nat.le_of_lt_succ hi) with q | q
                  · exact HNO.out i q
                  · rw [q]; exact HC.out, fun i hi => hg6.keep0 (HCS.out i hi), HGI.out.trans hg6⟩
                case measure => simp [intOf]; omega
              · obtain ⟨m, hnn, hmN, hmx, hmy, hme⟩ := HNBS.out u j hj HU1.out hstp
                unfold stV at HST2
                rw [hstp, if_pos rfl, ← hmx, ← hmy] at HST2
                have cf := ((HGR.out.trans gA).trans HGI.out).keep0 (HR5.out m hmN)
                have HC := Lib.hid (cnd_some (F := F) hnn)
                rw [HU2.out] at HC
                have HNN := Lib.hid hnn
                have HUV := Lib.hid (show (crn Hn m).1 = ((m / Hn : Nat) : Int) ∧ (crn Hn m).2 = ((m % Hn : Nat) : Int) from ⟨rfl, rfl⟩)
                clear hstp hmx hmy hme hnn
                have hPi2 : ((m / Hn : Nat) : Int) * (Hn : Int) = ((m / Hn * Hn : Nat) : Int) := by push_cast; rfl
                have hdm3 : Hn * (m / Hn) + m % Hn = m := Nat.div_add_mod m Hn
                rw [Nat.mul_comm] at hdm3
                generalize m / Hn = U at *
                generalize m % Hn = V at *
                generalize U * Hn = P2 at *
                have hsP3 : (P2 : Int) + (V : Int) = (m : Int) := by omega
                have b3 : P2 ≤ 64 := by omega
                have b4 : V ≤ 64 := by omega
                have zm0 : (0 : Int) ≤ (m : Int) := by omega
                have zm1 : (m : Int) < (N : Int) := by omega
                by_cases hFm : F m = (d : Int) - k - 1
                · have hbe : ((d : Int) - k - 1 == (d : Int) - k - 1) = true := by simp
                  rw [hFm] at cf
                  have HPK := Lib.hid (pk_eq hj (by rw [HC.out]; exact decide_eq_true hFm) HNO.out)
                  have HS := Lib.hid (HNX.out j m HPK.out HNN.out)
                  have hsz : (wsB l).size ≤ 64 := by rw [wsB_size]; omega
                  have HWS := Lib.hid (wsB_snoc l j)
                  generalize wsB l = S at *
                  generalize sgU j = ch at *
                  have hz1 : (⟨#[ch]⟩ : ByteArray).size = 1 := rfl
                  have hadd := fun W => run_string_add (P := Try.prog) (w := W) S ⟨#[ch]⟩ (by omega) (by rw [hz1]; decide)
                  clear hdm3 hsz hz1
                  go_wp2_with (first | (go_at_call 38; refine (HST2.out _ (by repeat (first | exact Gr.refl _ | refine Gr.alloc ?_ _ | refine Gr.trans ?_ (by assumption) | refine Gr.drew ?_ | refine Gr.drewN ?_ _ | refine Gr.grow ?_ _ | refine Gr.setCell ?_ (by (try simp); (try omega)) _))).mono ?_; rintro e w6 ⟨rfl, hg6⟩; have cf6 := hg6.keep0 cf; have n0 := hg6.keep0 m0; have n1 := hg6.keep0 m1))
                  go_roundw
                  case rel =>
                    refine ⟨k + 1, by omega, ?_, ?_, ?_, by go_num, ((HGR.out.trans gA).trans HGI.out).trans hg6⟩
                    · rw [HS.out, HWS.out]
                    · rw [HS.out, HUV.out.1]
                    · rw [HS.out, HUV.out.2]
                  case measure => simp [intOf]; omega
                · have hbe : (F m == (d : Int) - k - 1) = false := by simp [hFm]
                  have HC2 := Lib.hid (show cnd nb F u j = false by rw [HC.out]; exact decide_eq_false hFm)
                  generalize F m = fm at *
                  clear hdm3 henc
                  go_wp2_with (first | (go_at_call 38; refine (HST2.out _ (by repeat (first | exact Gr.refl _ | refine Gr.alloc ?_ _ | refine Gr.trans ?_ (by assumption) | refine Gr.drew ?_ | refine Gr.drewN ?_ _ | refine Gr.grow ?_ _ | refine Gr.setCell ?_ (by (try simp); (try omega)) _))).mono ?_; rintro e w6 ⟨rfl, hg6⟩; have cf6 := hg6.keep0 cf; have n0 := hg6.keep0 m0; have n1 := hg6.keep0 m1))
                  go_roundw
                  case rel => exact ⟨rfl, rfl, rfl, j + 1, by go_num, by omega, fun i hi => by
                    rcases Nat.lt_or_eq_of_le (Nat.le_of_lt_succ hi) with q | q
                    · exact HNO.out i q
                    · rw [q]; exact HC2.out, fun i hi => hg6.keep0 (HCS.out i hi), HGI.out.trans hg6⟩
                  case measure => simp [intOf]; omega
            · obtain ⟨j', v', hj', e', f'⟩ := HEX.out u HU1.out (by rw [HU2.out]; omega)
              have := hno j' (by omega)
              rw [cnd_some e', decide_eq_true f'] at this
              cases this
        · obtain rfl : k = d := by omega
          have z1 : ¬ (0 : Int) < (k : Int) - k := by omega
          have HS := Lib.hid (show wsB (stW nb F s0 k).2 = wsB (stW nb F s0 k).2 from rfl)
          clear hg u1 u2 u3 u4
          go_wp2
          go_ret2
          exact ⟨rfl, HB5.out.trans (HGR.out.below.mono HB5.out.size)⟩
end Go.Proofs
