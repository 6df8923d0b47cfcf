/-
  Chapter 6: the first drive (the model).
-/
import Derived.Test.YtjlbbkbcapleiaaDoorOwZ
import Derived.Test.YtjlbbkbcapleiaaDoorGrAll
namespace Go.Proofs
open Go.RowKit Av Gm Go.Maps
set_option linter.unusedVariables false
set_option linter.unusedSimpArgs false
theorem rev_ex' {s a s' a' : ByteArray} (h : RevW s a s' a') : ∀ n i v, n < a.size * s.size → i < 4 → nbW s' a' n i = some v → ∃ j, j < 4 ∧ nbW s a v j = some n := fun n i v hn hi e => rev_ex h.symm n i v (by rw [h.hs, h.ha]; exact hn) hi e
def sgU : Nat → UInt8 | 0 => 101 | 1 => 110 | 2 => 115 | _ => 119
/-- the word of some directions -/
def wsB (l : List Nat) : ByteArray := ⟨(l.map sgU).toArray⟩
theorem wsB_snoc (l : List Nat) (i : Nat) : wsB (l ++ [i]) = wsB l ++ ⟨#[sgU i]⟩ := by
  unfold wsB
  apply ByteArray.ext
  simp
theorem wsB_size (l : List Nat) : (wsB l).size = l.length := by unfold wsB; simp [ByteArray.size]
theorem sgn_bd (j : Nat) : 97 ≤ sgn j ∧ sgn j ≤ 122 := by unfold sgn; split <;> decide
theorem enc_sgn (j : Fin 4) : Utf8.encode (sgn j.1) = ⟨#[sgU j.1]⟩ := by revert j; decide
/-- the first word -/
def fdW (s a : ByteArray) (s0 t0 : Nat) : ByteArray := wsB (stW (nbW s a) (f (fin (nbW (flB s) (flB a)) (a.size * s.size) t0)) s0 (dsW s a s0 t0).toNat).2
def fdV (s a : ByteArray) (xs ys : List Int) : ByteArray := if wB s a xs ys then fdW s a (vx s xs) (vx s ys) else ⟨#[]⟩
set_option maxRecDepth 100000 in
set_option maxHeartbeats 4000000 in
theorem Tryd.sFirstDrive (w : World) (s a : ByteArray) (hs : s.size ≤ maxLen) (ha : a.size ≤ maxLen) (Ba : Nat) (la : Value) (xs : List Int) (Bb : Nat) (lb : Value) (ys : List Int) (v : ByteArray) (b : Bool) (hv : fdV s a xs ys = v) (hb : wB s a xs ys = b) (hla : OwnI w Ba la xs) (hlb : OwnI w Bb lb ys) :
    Calls Tryd.prog 5 #[.agg #[.string s, .string a], la, lb] w fun e w' => e = .returned (.tuple #[.string v, .bool b]) ∧ Below w.heap.size w w' := by
  have mixed : Tryd.prog.follows .mixedOrders = true := by kernel_rfl
  subst hv hb
  obtain ⟨b1, h1⟩ : ∃ b1, okW s a = b1 := ⟨_, rfl⟩
  obtain ⟨b2, h2⟩ : ∃ b1, isC a.size s.size xs = b1 := ⟨_, rfl⟩
  obtain ⟨b3, h3⟩ : ∃ b1, isC a.size s.size ys = b1 := ⟨_, rfl⟩
  have HA := Lib.hid (fun (X : World) (g : Gr w X) => Tryd.owAsked X s a hs ha Ba la xs Bb lb ys b1 b2 b3 h1 h2 h3 (hla.gr g) (hlb.gr g))
  cases hall : (b1 && b2 && b3)
  · have e1 : wB s a xs ys = false := by unfold wB; rw [h1, h2, h3, hall]; rfl
    have e2 : fdV s a xs ys = ⟨#[]⟩ := by unfold fdV; rw [e1]; rfl
    rw [e1, e2]
    rw [hall] at HA
    clear hla hlb h1 h2 h3 hall e1 e2
    go_enter Tryd.func5, Tryd.ntmps5
    go_wp2_with (first | (go_at_call 10; refine (HA.out _ (by repeat (first | exact Gr.refl _ | refine Gr.alloc ?_ _ | refine Gr.trans ?_ (by assumption) | refine Gr.drew ?_ | refine Gr.drewN ?_ _ | refine Gr.grow ?_ _ | refine Gr.setCell ?_ (by (try simp); (try omega)) _))).mono ?_; rintro e w1 ⟨rfl, hbW⟩; have hcW := (bcell hbW.below).1; have hfW := (bcell hbW.below).2; (try have hzW : w.heap.size < w1.heap.size := by have hq := hbW.below.size; (try simp at hq); omega); (try have hyW : w.heap.size + 1 < w1.heap.size := by have hq := hbW.below.size; (try simp at hq); omega); (try have hxW : w.heap.size + 2 < w1.heap.size := by have hq := hbW.below.size; (try simp at hq); omega)))
    go_ret2
    exact ⟨by simp <;> rfl, Gr.below (by repeat (first | exact Gr.refl _ | refine Gr.alloc ?_ _ | refine Gr.trans ?_ (by assumption) | refine Gr.drew ?_ | refine Gr.drewN ?_ _ | refine Gr.grow ?_ _ | refine Gr.setCell ?_ (by (try simp); (try omega)) _))⟩
  · simp only [Bool.and_eq_true] at hall
    obtain ⟨⟨rfl, rfl⟩, rfl⟩ := hall
    obtain ⟨kk1, kk2⟩ := okW_and h1
    have l1 := okT_len kk1
    have l2 := okT_len kk2
    obtain ⟨p1, p2⟩ := isC_vx h2 l1 l2
    obtain ⟨r1, r2⟩ := isC_vx h3 l1 l2
    have e1 : wB s a xs ys = decide (0 ≤ dsW s a (vx s xs) (vx s ys)) := by unfold wB; rw [h1, h2, h3]; rfl
    have e2 : fdV s a xs ys = if decide (0 ≤ dsW s a (vx s xs) (vx s ys)) = true then fdW s a (vx s xs) (vx s ys) else ⟨#[]⟩ := by unfold fdV; rw [e1]
    rw [e1, e2]
    unfold fdW
    clear h2 h3 e1 e2
    generalize vx s xs = s0 at *
    generalize vx s ys = t0 at *
    subst p2 r2
    have HD := Lib.hid (fun (X : World) (g : Below w.heap.size w X) => Tryd.owDistance X s a kk1 kk2 Ba la s0 Bb lb t0 p1 r1 (OwnI.below hla g (Nat.le_refl _)) (OwnI.below hlb g (Nat.le_refl _)))
    have hbd := dsW_bd (s := s) (a := a) p1 r1
    by_cases hz : dsW s a s0 t0 < 0
    · have e1 : decide (0 ≤ dsW s a s0 t0) = false := by simpa using hz
      rw [e1]
      clear hla hlb p1 r1
      generalize dsW s a s0 t0 = d at *
      clear hbd
      go_enter Tryd.func5, Tryd.ntmps5
      go_wp2_with (first | (go_at_call 10; refine (HA.out _ (by repeat (first | exact Gr.refl _ | refine Gr.alloc ?_ _ | refine Gr.trans ?_ (by assumption) | refine Gr.drew ?_ | refine Gr.drewN ?_ _ | refine Gr.grow ?_ _ | refine Gr.setCell ?_ (by (try simp); (try omega)) _))).mono ?_; rintro e w1 ⟨rfl, hbW⟩; have hcW := (bcell hbW.below).1; have hfW := (bcell hbW.below).2; (try have hzW : w.heap.size < w1.heap.size := by have hq := hbW.below.size; (try simp at hq); omega); (try have hyW : w.heap.size + 1 < w1.heap.size := by have hq := hbW.below.size; (try simp at hq); omega); (try have hxW : w.heap.size + 2 < w1.heap.size := by have hq := hbW.below.size; (try simp at hq); omega)) | (go_at_call 11; refine (HD.out _ (Gr.below (show Gr w _ from (by repeat (first | exact Gr.refl _ | refine Gr.alloc ?_ _ | refine Gr.trans ?_ (by assumption) | refine Gr.drew ?_ | refine Gr.drewN ?_ _ | refine Gr.grow ?_ _ | refine Gr.setCell ?_ (by (try simp); (try omega)) _))))).mono ?_; rintro e w2 ⟨rfl, hb2⟩))
      go_ret2
      exact ⟨by simp <;> rfl, Below.trans (show Below w.heap.size w _ from Gr.below (by repeat (first | exact Gr.refl _ | refine Gr.alloc ?_ _ | refine Gr.trans ?_ (by assumption) | refine Gr.drew ?_ | refine Gr.drewN ?_ _ | refine Gr.grow ?_ _ | refine Gr.setCell ?_ (by (try simp); (try omega)) _))) (hb2.mono (Gr.below (show Gr w _ from (by repeat (first | exact Gr.refl _ | refine Gr.alloc ?_ _ | refine Gr.trans ?_ (by assumption) | refine Gr.drew ?_ | refine Gr.drewN ?_ _ | refine Gr.grow ?_ _ | refine Gr.setCell ?_ (by (try simp); (try omega)) _)))).size)⟩
    · have e1 : decide (0 ≤ dsW s a s0 t0) = true := by simpa using hz
      rw [e1, if_pos rfl]
      have hRV := revW_flB h1
      obtain ⟨m1, m2⟩ := okW_and (okW_flB h1)
      have hv' : ∀ n i v, n < a.size * s.size → nbW (flB s) (flB a) n i = some v → v < a.size * s.size := fun n i v hn e => by
        have := nbW_valid (s := flB s) (a := flB a) n i v (by rw [flB_size, flB_size]; exact hn) e
        rwa [flB_size, flB_size] at this
      have hsym := dsW_rev hRV p1 r1
      have hFD := fin_dist hv' r1
      have hI := (fin_bf hv' r1).inv
      have HBK := Lib.hid (fun (X : World) => Tryd.owBack X s a h1)
      have HF := Lib.hid (fun (X : World) (g : Below w.heap.size w X) => show Calls Tryd.prog 12 #[.agg #[.string (flB s), .string (flB a)], lb] X (fun e w' => ∃ v, e = .returned v ∧ OwnI w' X.heap.size v (fin (nbW (flB s) (flB a)) (a.size * s.size) t0).far ∧ Below X.heap.size X w') by
        have := Tryd.owFar X (flB s) (flB a) m1 m2 t0 Bb lb (by rw [flB_size, flB_size]; exact r1) (by rw [flB_size]; exact OwnI.below hlb g (Nat.le_refl _))
        rw [flB_size, flB_size] at this
        exact this)
      have HINV := Lib.hid (stW_inv2 (nbW_valid (s := s) (a := a)) (rev_ex' hRV) hFD p1)
      have HEX := Lib.hid (fun (u : Nat) hu h0 => cnd_ex2 (rev_ex' hRV) hFD (u := u) hu h0)
      have HST := Lib.hid (fun (X : World) (u j : Nat) (hj : j < 4) (hu : u < a.size * s.size) => Tryd.owStep X s a kk1 kk2 (u / s.size) (u % s.size) (idx_lt2 hu).1 (idx_lt2 hu).2 j hj)
      rcases hla.view with ⟨hx, _⟩ | ⟨_, ga, ca, rfl, _, ga2, _, _, _⟩
      · cases hx
      rcases hlb.view with ⟨hx, _⟩ | ⟨_, gb, cb, rfl, _, gb2, _, _, _⟩
      · cases hx
      obtain ⟨l0, _⟩ := hla.at rfl 0 (by simp)
      obtain ⟨l1, _⟩ := hla.at rfl 1 (by simp)
      simp only [List.getD_cons_zero, List.getD_cons_succ, List.length_cons, List.length_nil, Nat.zero_add, Nat.reduceAdd] at l0 l1 HA HD HF ⊢
      have hfl := hI.fl
      have HV := Lib.hid (show ∀ (w3 : World) (B3 : Nat) (v : Value), OwnI w3 B3 v (fin (nbW (flB s) (flB a)) (a.size * s.size) t0).far → ∃ g c, v = .slice (some ⟨g, 0, none⟩) (a.size * s.size) c ∧ ∀ k, k < a.size * s.size → w3.cell? ⟨g, k, none⟩ = some (.int .i64 (f (fin (nbW (flB s) (flB a)) (a.size * s.size) t0) k)) from fun w3 B3 v ho => by
        rcases ho.view with ⟨hx, _⟩ | ⟨_, g, c, rfl, _, _, _, hc, _⟩
        · rw [hx] at hfl; simp at hfl; omega
        · exact ⟨g, c, by rw [hfl], fun k hk => hc k (by rw [hfl]; exact hk)⟩)
      have hN : a.size * s.size ≤ 64 := Nat.mul_le_mul (show a.size ≤ 8 by omega) (show s.size ≤ 8 by omega)
      have HNBS := Lib.hid (fun (n j : Nat) hj hn hh => @nbW_some s a n j hj hn hh)
      have HNBN := Lib.hid (fun (n j : Nat) hh => @nbW_none s a n j hh)
      have hN' : (a.size : Int) * s.size = ((a.size * s.size : Nat) : Int) := by push_cast; rfl
      have hdm2 : s.size * (s0 / s.size) + s0 % s.size = s0 := Nat.div_add_mod s0 s.size
      rw [hsym] at HD hz hbd ⊢
      generalize hFF : f (fin (nbW (flB s) (flB a)) (a.size * s.size) t0) = F at *
      generalize (fin (nbW (flB s) (flB a)) (a.size * s.size) t0).far = fr at *
      generalize nbW (flB s) (flB a) = nb' at *
      generalize nbW s a = nb at *
      generalize flB s = s' at *
      generalize flB a = a' at *
      generalize a.size * s.size = N at *
      obtain ⟨d, hdd⟩ : ∃ d : Nat, F s0 = d := ⟨(F s0).toNat, by omega⟩
      rw [hdd] at HD hz hbd ⊢
      rw [Int.toNat_natCast]
      have HDD := Lib.hid hdd
      have hdN : d ≤ 64 := by omega
      obtain ⟨W0, hW0⟩ : ∃ W0, w.alloc (.cells #[.string s, .string a] 28) = W0 := ⟨_, rfl⟩
      have GW : Gr w W0 := by subst hW0; exact by repeat (first | exact Gr.refl _ | refine Gr.alloc ?_ _ | refine Gr.trans ?_ (by assumption) | refine Gr.drew ?_ | refine Gr.drewN ?_ _ | refine Gr.grow ?_ _ | refine Gr.setCell ?_ (by (try simp); (try omega)) _)
      have k0 : W0.cell? ⟨w.heap.size, 0, none⟩ = some (.string s) := by subst hW0; simp [go_sem]
      have k1 : W0.cell? ⟨w.heap.size, 1, none⟩ = some (.string a) := by subst hW0; simp [go_sem]
      have HG := Lib.hid GW
      have HK := Lib.hid (And.intro k0 k1)
      have HL := Lib.hid (And.intro (GW.keep0 l0) (GW.keep0 l1))
      have dn : decide ((d : Int) < 0) = false := decide_eq_false hz
      obtain ⟨x1, hx1⟩ : ∃ x, (crn s.size s0).1 = x := ⟨_, rfl⟩
      obtain ⟨y1, hy1⟩ : ∃ x, (crn s.size s0).2 = x := ⟨_, rfl⟩
      have HX1 := Lib.hid (And.intro hx1 hy1)
      rw [hx1, hy1] at HL
      clear hla hlb l0 l1 GW hsym hFD hI hfl e1 hFF hx1 hy1 hRV hv' m1 m2 h1 kk1 kk2 hs ha
      go_enter Tryd.func5, Tryd.ntmps5
      go_wp2_with (first | (go_at_call 10; refine (HA.out _ HG.out).mono ?_; rintro e w1 ⟨rfl, hg1⟩; have a0 := hg1.keep0 HK.out.1; have a1 := hg1.keep0 HK.out.2; have hb1 := Below.trans HG.out.below (hg1.below.mono HG.out.below.size)) | (go_at_call 11; refine (HD.out _ hb1).mono ?_; rintro e w2 ⟨rfl, hb2⟩; have c0 := cell_k2 hb2 a0; have c1 := cell_k2 hb2 a1; have hbb := Below.trans hb1 (hb2.mono hb1.size)) | (go_at_call 13; refine (HBK.out _).mono ?_; rintro e wk ⟨rfl, gk⟩; have c5 := gk.keep0 c0; have c6 := gk.keep0 c1; have hbk := Below.trans hbb (gk.below.mono hbb.size)) | (go_at_call 12; refine (HF.out _ hbk).mono ?_; rintro e w3 ⟨v3, rfl, hown3, hb3⟩; obtain ⟨g3, c3, rfl, hr3⟩ := HV.out _ _ _ hown3; have q0 := gr_all (Gr.refl w3) (cell_k2 hb3 (gk.keep0 (cell_k2 hb2 (hg1.keep0 HL.out.1)))); have q1 := gr_all (Gr.refl w3) (cell_k2 hb3 (gk.keep0 (cell_k2 hb2 (hg1.keep0 HL.out.2)))); have d0 := gr_all (Gr.refl w3) (cell_k2 hb3 c5); have d1 := gr_all (Gr.refl w3) (cell_k2 hb3 c6)))
      (refine wp_region_quiet_grown mixed (by kernel_rfl) ?_; (repeat (first | go_big_quiet_step ((fail)) | quiet_step ((fail)))); refine wpQuiet_nil ?_; intro _ hw'; obtain ⟨⟨nq, osq⟩, hw''⟩ := hw'; subst hw'')
      have gg : Gr w3 (Go.Sort.grow (w3.drewN nq) osq) := Gr.grow (Gr.drewN (Gr.refl w3) nq) osq
      have e0 := d0 nq osq
      have e1 := d1 nq osq
      obtain ⟨wg, hwg⟩ : ∃ wg, Go.Sort.grow (w3.drewN nq) osq = wg := ⟨_, rfl⟩
      rw [hwg] at gg e0 e1
      simp only [hwg]
      have hB3 := Below.trans hbk (hb3.mono hbk.size)
      have HBG := Lib.hid (hB3.trans (gg.below.mono hB3.size))
      have HRG := Lib.hid (fun k hk => gg.keep0 (hr3 k hk))
      clear hwg gg q0 q1 d0 d1 a0 a1 c0 c1 c5 c6 hb1 hb2 hb3 hbb hbk gk hg1 hr3 hown3 hB3
      go_wp2_with (first | (go_at_call 11; refine (HD.out _ HBG.out).mono ?_; rintro e w5 ⟨rfl, hb5⟩))
      have HK5 := Lib.hid (And.intro (cell_k2 hb5 e0) (cell_k2 hb5 e1))
      have HR5 := Lib.hid (fun k hk => cell_k2 hb5 (HRG.out k hk))
      have HB5 := Lib.hid (HBG.out.trans (hb5.mono HBG.out.size))
      clear e0 e1 hb5
      go_loopw [10, 11, 12, 13] (fun ov xv yv lv wr => ∃ k : Nat, k ≤ d ∧ ov = .string (wsB (stW nb F s0 k).2) ∧ xv = .int .i64 (crn s.size (stW nb F s0 k).1).1 ∧ yv = .int .i64 (crn s.size (stW nb F s0 k).1).2 ∧ lv = .int .i64 ((d : Int) - k) ∧ Gr w5 wr) (fun _ _ _ l _ => (intOf l).toNat)
      case atStart => exact ⟨0, Nat.zero_le _, rfl, by rw [← HX1.out.1]; rfl, by rw [← HX1.out.2]; rfl, by simp, Gr.refl _⟩
      case round =>
        obtain ⟨k, hk, rfl, rfl, rfl, rfl, hg⟩ := hrel
        have HGR := Lib.hid hg
        obtain ⟨u1, u2, u3, u4⟩ := HINV.out k (by rw [HDD.out]; omega)
        by_cases hkd : k < d
        · have z1 : (0 : Int) < (d : Int) - k := by omega
          rw [HDD.out] at u2
          have HU1 := Lib.hid u1
          have HU2 := Lib.hid u2
          have HNX := Lib.hid (fun j v h1 h2 => @stW_succ nb F s0 k j v h1 h2)
          generalize hst : stW nb F s0 k = st at *
          obtain ⟨u, l⟩ := st
          simp only at u1 u2 u3 u4 HU1 HU2 HNX ⊢
          have hcv := Go.Lib.run_convert_bytes_const (P := Tryd.prog) wr 37 5 #[.int .u8 101, .int .u8 110, .int .u8 115, .int .u8 119] 4 4 Tryd.underlying37 Tryd.underlying5
          clear hg
          go_wp2_with fail
          clear hcv
          have gA : Gr wr (wr.alloc (.cells #[.int .u8 101, .int .u8 110, .int .u8 115, .int .u8 119] 5 (4, 5))) := Gr.alloc (Gr.refl _) _
          rename World => wo
          go_loopw [10, 11, 12, 55] (fun ov xv yv iv wi => ov = .string (wsB l) ∧ xv = .int .i64 (crn s.size u).1 ∧ yv = .int .i64 (crn s.size u).2 ∧ ∃ j : Nat, iv = .int .i64 j ∧ j ≤ 4 ∧ (∀ i, i < j → cnd nb F u i = false) ∧ (∀ i, i < 4 → wi.cell? ⟨wo.heap.size, i, none⟩ = some (.int .u8 (sgn i))) ∧ Gr (wo.alloc (.cells #[.int .u8 101, .int .u8 110, .int .u8 115, .int .u8 119] 5 (4, 5))) wi) (fun _ _ _ i _ => (4 - intOf i).toNat)
          case atStart =>
            refine ⟨rfl, rfl, rfl, 0, rfl, by omega, fun i hi => absurd hi (Nat.not_lt_zero _), fun i hi => ?_, Gr.refl _⟩
            have : i = 0 ∨ i = 1 ∨ i = 2 ∨ i = 3 := by omega
            rcases this with rfl | rfl | rfl | rfl <;> (rw [cell_of_row _ _ _ _ _ _ (heap_alloc_new _ _)]; rfl)
          case round =>
            obtain ⟨rfl, rfl, rfl, j, rfl, hj4, hno, hcs, hgi⟩ := hrel
            by_cases hj : j < 4
            · have hc9 := hcs j hj
              have zj0 : (0 : Int) ≤ (j : Int) := by omega
              have zj1 : (j : Int) < 4 := by omega
              have hgw : Gr w5 wr := (HGR.out.trans gA).trans hgi
              have m0 := hgw.keep0 HK5.out.1
              have m1 := hgw.keep0 HK5.out.2
              have HBI := Lib.hid (HB5.out.trans (hgw.below.mono HB5.out.size))
              have HST2 := Lib.hid (fun (X : World) (hX : Gr wr X) => HST.out X u j hj HU1.out)
              change Hid (∀ (X : World), Gr wr X → Calls Tryd.prog 14 #[.agg #[.string s, .string a], .int .i64 (crn s.size u).1, .int .i64 (crn s.size u).2, .int .u8 (sgn j)] X fun e w' => e = .returned (owV s a (u / s.size) (u % s.size) j) ∧ Gr X w') at HST2
              have HGI := Lib.hid hgi
              have HCS := Lib.hid hcs
              have HNO := Lib.hid hno
              obtain ⟨cx, hcx⟩ : ∃ x, (crn s.size u).1 = x := ⟨_, rfl⟩
              obtain ⟨cy, hcy⟩ : ∃ x, (crn s.size u).2 = x := ⟨_, rfl⟩
              have HCX := Lib.hid (And.intro hcx hcy)
              obtain ⟨sj, hsj⟩ : ∃ s, sgn j = s := ⟨_, rfl⟩
              have hsb := sgn_bd j
              have henc := enc_sgn ⟨j, hj⟩
              simp only at henc
              rw [hsj] at hc9 HST2 hsb henc
              rw [hcx, hcy] at HST2 ⊢
              have hsb1 := hsb.1
              have hsb2 := hsb.2
              clear hgi hcs hno hgw hcx hcy hsj hsb
              cases hstp : drv s a (u / s.size) (u % s.size) j
              · have HC := Lib.hid (cnd_none (F := F) (HNBN.out u j hstp))
                obtain ⟨u5, v5, hov⟩ := owV_none hstp
                rw [hov] at HST2
                clear hstp hov
                go_wp2_with (first | (go_at_call 14; refine (HST2.out _ (by repeat (first | exact Gr.refl _ | refine Gr.alloc ?_ _ | refine Gr.trans ?_ (by assumption) | refine Gr.drew ?_ | refine Gr.drewN ?_ _ | refine Gr.grow ?_ _ | refine Gr.setCell ?_ (by (try simp); (try omega)) _))).mono ?_; rintro e w6 ⟨rfl, hg6⟩))
                go_roundw
                case rel => exact ⟨rfl, rfl, rfl, j + 1, by go_num, by omega, fun i hi => by
                  rcases Nat.lt_or_eq_of_le (Nat.le_of_lt_succ hi) with q | q
                  · exact HNO.out i q
                  · rw [q]; exact HC.out, fun i hi => hg6.keep0 (HCS.out i hi), HGI.out.trans hg6⟩
                case measure => simp [intOf]; omega
              · obtain ⟨m, hnn, hmN, hmx, hmy, hme⟩ := HNBS.out u j hj HU1.out hstp
                rw [owV_some hstp, ← hmx, ← hmy] at HST2
                have cf := ((HGR.out.trans gA).trans HGI.out).keep0 (HR5.out m hmN)
                have HC := Lib.hid (cnd_some (F := F) hnn)
                rw [HU2.out] at HC
                have HNN := Lib.hid hnn
                have HUV := Lib.hid (show (crn s.size m).1 = ((m / s.size : Nat) : Int) ∧ (crn s.size m).2 = ((m % s.size : Nat) : Int) from ⟨rfl, rfl⟩)
                clear hstp hmx hmy hme hnn
                have hPi2 : ((m / s.size : Nat) : Int) * (s.size : Int) = ((m / s.size * s.size : Nat) : Int) := by push_cast; rfl
                have hdm3 : s.size * (m / s.size) + m % s.size = m := Nat.div_add_mod m s.size
                rw [Nat.mul_comm] at hdm3
                generalize m / s.size = U at *
                generalize m % s.size = V at *
                generalize U * s.size = P2 at *
                have hsP3 : (P2 : Int) + (V : Int) = (m : Int) := by omega
                have b3 : P2 ≤ 64 := by omega
                have b4 : V ≤ 64 := by omega
                have zm0 : (0 : Int) ≤ (m : Int) := by omega
                have zm1 : (m : Int) < (N : Int) := by omega
                by_cases hFm : F m = (d : Int) - k - 1
                · have hbe : ((d : Int) - k - 1 == (d : Int) - k - 1) = true := by simp
                  rw [hFm] at cf
                  have HPK := Lib.hid (pk_eq hj (by rw [HC.out]; exact decide_eq_true hFm) HNO.out)
                  have HS := Lib.hid (HNX.out j m HPK.out HNN.out)
                  have hsz : (wsB l).size ≤ 64 := by rw [wsB_size]; omega
                  have HWS := Lib.hid (wsB_snoc l j)
                  generalize wsB l = S at *
                  generalize sgU j = ch at *
                  have hz1 : (⟨#[ch]⟩ : ByteArray).size = 1 := rfl
                  have hadd := fun W => run_string_add (P := Tryd.prog) (w := W) S ⟨#[ch]⟩ (by omega) (by rw [hz1]; decide)
                  clear hdm3 hsz hz1
                  go_wp2_with (first | (go_at_call 14; refine (HST2.out _ (by repeat (first | exact Gr.refl _ | refine Gr.alloc ?_ _ | refine Gr.trans ?_ (by assumption) | refine Gr.drew ?_ | refine Gr.drewN ?_ _ | refine Gr.grow ?_ _ | refine Gr.setCell ?_ (by (try simp); (try omega)) _))).mono ?_; rintro e w6 ⟨rfl, hg6⟩; have cf6 := hg6.keep0 cf; have n0 := hg6.keep0 m0; have n1 := hg6.keep0 m1))
                  go_roundw
                  case rel =>
                    refine ⟨k + 1, by omega, ?_, ?_, ?_, by go_num, ((HGR.out.trans gA).trans HGI.out).trans hg6⟩
                    · rw [HS.out, HWS.out]
                    · rw [HS.out, HUV.out.1]
                    · rw [HS.out, HUV.out.2]
                  case measure => simp [intOf]; omega
                · have hbe : (F m == (d : Int) - k - 1) = false := by simp [hFm]
                  have HC2 := Lib.hid (show cnd nb F u j = false by rw [HC.out]; exact decide_eq_false hFm)
                  generalize F m = fm at *
                  clear hdm3 henc
                  go_wp2_with (first | (go_at_call 14; refine (HST2.out _ (by repeat (first | exact Gr.refl _ | refine Gr.alloc ?_ _ | refine Gr.trans ?_ (by assumption) | refine Gr.drew ?_ | refine Gr.drewN ?_ _ | refine Gr.grow ?_ _ | refine Gr.setCell ?_ (by (try simp); (try omega)) _))).mono ?_; rintro e w6 ⟨rfl, hg6⟩; have cf6 := hg6.keep0 cf; have n0 := hg6.keep0 m0; have n1 := hg6.keep0 m1))
                  go_roundw
                  case rel => exact ⟨rfl, rfl, rfl, j + 1, by go_num, by omega, fun i hi => by
                    rcases Nat.lt_or_eq_of_le (Nat.le_of_lt_succ hi) with q | q
                    · exact HNO.out i q
                    · rw [q]; exact HC2.out, fun i hi => hg6.keep0 (HCS.out i hi), HGI.out.trans hg6⟩
                  case measure => simp [intOf]; omega
            · obtain ⟨j', v', hj', e', f'⟩ := HEX.out u HU1.out (by rw [HU2.out]; omega)
              have := hno j' (by omega)
              rw [cnd_some e', decide_eq_true f'] at this
              cases this
        · obtain rfl : k = d := by omega
          have z1 : ¬ (0 : Int) < (k : Int) - k := by omega
          have HS := Lib.hid (show wsB (stW nb F s0 k).2 = wsB (stW nb F s0 k).2 from rfl)
          clear hg u1 u2 u3 u4
          go_wp2
          go_ret2
          exact ⟨rfl, HB5.out.trans (HGR.out.below.mono HB5.out.size)⟩
end Go.Proofs
