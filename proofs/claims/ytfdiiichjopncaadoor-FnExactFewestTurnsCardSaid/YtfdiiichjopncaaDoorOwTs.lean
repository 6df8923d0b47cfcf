/-
  Chapter 6: FewestTurns (the model).
-/
import Derived.Test.YtfdiiichjopncaaDoorOwRr
import Derived.Test.YtfdiiichjopncaaDoorOwTy
namespace Go.Proofs
open Go.RowKit Av Gm Go.Maps
set_option linter.unusedVariables false
set_option linter.unusedSimpArgs false
theorem Tryd.infoBl : (Tryd.prog.info? 4).map (fun i => (i.zero, i.size, i.bytes)) = some (some (.bool false), 1, 1) := by kernel_rfl
theorem tab_false (N : Nat) : (tab N (fun _ => false)).map Value.bool = List.replicate N (.bool false) := by
  unfold tab
  apply List.ext_getElem?
  intro i
  by_cases hi : i < N
  · simp [hi]
  · simp [hi, List.getElem?_eq_none]
/-- who is reached with so many parts -/
def btW (F : Nat → Int) (t : Nat) (v : Nat) : Bool := decide (0 ≤ F v ∧ F v ≤ t)
/-- half of a merged row -/
def mgR (R1 R2 Q : Nat → Bool) (i : Nat) : Prop := ∀ v, Q v = if v < i then (R1 v || R2 v) else R1 v
theorem mgR.set {R1 R2 Q : Nat → Bool} {i : Nat} (h : mgR R1 R2 Q i) {b : Bool} (hb : b = (R1 i || R2 i)) : mgR R1 R2 (upd Q i b) (i + 1) := fun v => by
  unfold upd
  by_cases e : v = i
  · subst e; rw [if_pos rfl, if_pos (by omega), hb]
  · rw [if_neg e, h v]
    by_cases q : v < i
    · rw [if_pos q, if_pos (by omega)]
    · rw [if_neg q, if_neg (by omega)]
theorem w8V_hi {s a : ByteArray} (hs : s.size ≤ 8) (ha : a.size ≤ 8) {s0 t0 : Nat} (h0 : s0 < a.size * s.size) (h1 : t0 < a.size * s.size) : -1 ≤ d8W s a s0 t0 ∧ d8W s a s0 t0 < ((a.size * s.size : Nat) : Int) := by
  have h := (Gs.fin_bf (nbL_valid (lsW_valid (s := s) (a := a) 8)) h0).inv
  have x := h.fm t0 h1
  have y := h.len
  unfold d8W
  omega
theorem w8V_top (s a : ByteArray) (xs ys : List Int) : w8V s a xs ys ≤ 1000 := by
  unfold w8V
  split
  · rename_i h
    unfold w8B at h
    simp only [Bool.and_eq_true] at h
    obtain ⟨k1, k2⟩ := okW_and h.1.1.1
    obtain ⟨p1, _⟩ := isC_vx h.1.1.2 (okT_len k1) (okT_len k2)
    obtain ⟨r1, _⟩ := isC_vx h.1.2 (okT_len k1) (okT_len k2)
    have hq := w8V_hi (okT_len k1).2 (okT_len k2).2 p1 r1
    have hN : a.size * s.size ≤ 8 * 8 := Nat.mul_le_mul (okT_len k2).2 (okT_len k1).2
    omega
  · decide
set_option maxRecDepth 100000 in
set_option maxHeartbeats 8000000 in
theorem Tryd.sFewestTurns (w : World) (s a : ByteArray) (hs : s.size ≤ maxLen) (ha : a.size ≤ maxLen) (Ba : Nat) (la : Value) (xs : List Int) (Bb : Nat) (lb : Value) (ys : List Int) (v : Int) (b : Bool) (hv : ftV s a xs ys = v) (hb : w8B s a xs ys = b) (hla : OwnI w Ba la xs) (hlb : OwnI w Bb lb ys) :
    Calls Tryd.prog 5 #[.agg #[.string s, .string a], la, lb] w fun e w' => e = .returned (.tuple #[.int .i64 v, .bool b]) ∧ Below w.heap.size w w' := by
  have mixed : Tryd.prog.follows .mixedOrders = true := by kernel_rfl
  subst hv hb
  obtain ⟨b1, h1⟩ : ∃ b1, okW s a = b1 := ⟨_, rfl⟩
  obtain ⟨b2, h2⟩ : ∃ b1, isC a.size s.size xs = b1 := ⟨_, rfl⟩
  obtain ⟨b3, h3⟩ : ∃ b1, isC a.size s.size ys = b1 := ⟨_, rfl⟩
  have HA := Lib.hid (fun (X : World) (g : Gr w X) => Tryd.owAsked X s a hs ha Ba la xs Bb lb ys b1 b2 b3 h1 h2 h3 (hla.gr g) (hlb.gr g))
  cases hall : (b1 && b2 && b3)
  · have e1 : w8B s a xs ys = false := by unfold w8B; rw [h1, h2, h3, hall]; rfl
    have e2 : ftV s a xs ys = 0 := by unfold ftV w8V; rw [e1]; rfl
    rw [e1, e2]
    rw [hall] at HA
    clear hla hlb h1 h2 h3 hall e1 e2
    go_enter Tryd.func5, Tryd.ntmps5
    go_wp2_with (first | (go_at_call 10; refine (HA.out _ (by repeat (first | exact Gr.refl _ | refine Gr.alloc ?_ _ | refine Gr.trans ?_ (by assumption) | refine Gr.drew ?_ | refine Gr.drewN ?_ _ | refine Gr.grow ?_ _ | refine Gr.setCell ?_ (by (try simp); (try omega)) _))).mono ?_; rintro e w1 ⟨rfl, hbW⟩; have hcW := (bcell hbW.below).1; have hfW := (bcell hbW.below).2; (try have hzW : w.heap.size < w1.heap.size := by have hq := hbW.below.size; (try simp at hq); omega); (try have hyW : w.heap.size + 1 < w1.heap.size := by have hq := hbW.below.size; (try simp at hq); omega); (try have hxW : w.heap.size + 2 < w1.heap.size := by have hq := hbW.below.size; (try simp at hq); omega)))
    go_ret2
    exact ⟨by simp <;> rfl, Gr.below (by repeat (first | exact Gr.refl _ | refine Gr.alloc ?_ _ | refine Gr.trans ?_ (by assumption) | refine Gr.drew ?_ | refine Gr.drewN ?_ _ | refine Gr.grow ?_ _ | refine Gr.setCell ?_ (by (try simp); (try omega)) _))⟩
  · simp only [Bool.and_eq_true] at hall
    obtain ⟨⟨rfl, rfl⟩, rfl⟩ := hall
    obtain ⟨kk1, kk2⟩ := okW_and h1
    have l1 := okT_len kk1
    have l2 := okT_len kk2
    obtain ⟨p1, p2⟩ := isC_vx h2 l1 l2
    obtain ⟨r1, r2⟩ := isC_vx h3 l1 l2
    have hsame := reach_same (s := s) (a := a) p1 r1
    have e1 : w8B s a xs ys = decide (0 ≤ dsW s a (vx s xs) (vx s ys)) := by unfold w8B; rw [h1, h2, h3]; simp [hsame]
    have e2 : ftV s a xs ys = if decide (0 ≤ dsW s a (vx s xs) (vx s ys)) = true then max (d8W s a (vx s xs) (vx s ys) - 1) 0 else 0 := by
      unfold ftV w8V; rw [e1]; split <;> rfl
    rw [e1, e2]
    clear h2 h3 e1 e2
    generalize vx s xs = s0 at *
    generalize vx s ys = t0 at *
    subst p2 r2
    have HD := Lib.hid (fun (X : World) (g : Below w.heap.size w X) => Tryd.owDistance X s a kk1 kk2 Ba la s0 Bb lb t0 p1 r1 (OwnI.below hla g (Nat.le_refl _)) (OwnI.below hlb g (Nat.le_refl _)))
    have hbd := dsW_bd (s := s) (a := a) p1 r1
    by_cases hz : dsW s a s0 t0 < 0
    · have e1 : decide (0 ≤ dsW s a s0 t0) = false := by simpa using hz
      rw [e1]
      clear hla hlb p1 r1 hsame
      generalize dsW s a s0 t0 = d at *
      clear hbd
      go_enter Tryd.func5, Tryd.ntmps5
      go_wp2_with (first | (go_at_call 10; refine (HA.out _ (by repeat (first | exact Gr.refl _ | refine Gr.alloc ?_ _ | refine Gr.trans ?_ (by assumption) | refine Gr.drew ?_ | refine Gr.drewN ?_ _ | refine Gr.grow ?_ _ | refine Gr.setCell ?_ (by (try simp); (try omega)) _))).mono ?_; rintro e w1 ⟨rfl, hbW⟩; have hcW := (bcell hbW.below).1; have hfW := (bcell hbW.below).2; (try have hzW : w.heap.size < w1.heap.size := by have hq := hbW.below.size; (try simp at hq); omega); (try have hyW : w.heap.size + 1 < w1.heap.size := by have hq := hbW.below.size; (try simp at hq); omega); (try have hxW : w.heap.size + 2 < w1.heap.size := by have hq := hbW.below.size; (try simp at hq); omega)) | (go_at_call 11; refine (HD.out _ (Gr.below (show Gr w _ from (by repeat (first | exact Gr.refl _ | refine Gr.alloc ?_ _ | refine Gr.trans ?_ (by assumption) | refine Gr.drew ?_ | refine Gr.drewN ?_ _ | refine Gr.grow ?_ _ | refine Gr.setCell ?_ (by (try simp); (try omega)) _))))).mono ?_; rintro e w2 ⟨rfl, hb2⟩))
      go_ret2
      exact ⟨by simp <;> rfl, Below.trans (show Below w.heap.size w _ from Gr.below (by repeat (first | exact Gr.refl _ | refine Gr.alloc ?_ _ | refine Gr.trans ?_ (by assumption) | refine Gr.drew ?_ | refine Gr.drewN ?_ _ | refine Gr.grow ?_ _ | refine Gr.setCell ?_ (by (try simp); (try omega)) _))) (hb2.mono (Gr.below (show Gr w _ from (by repeat (first | exact Gr.refl _ | refine Gr.alloc ?_ _ | refine Gr.trans ?_ (by assumption) | refine Gr.drew ?_ | refine Gr.drewN ?_ _ | refine Gr.grow ?_ _ | refine Gr.setCell ?_ (by (try simp); (try omega)) _)))).size)⟩
    · have e1 : decide (0 ≤ dsW s a s0 t0) = true := by simpa using hz
      rw [e1, if_pos rfl]
      have h80 : 0 ≤ d8W s a s0 t0 := hsame.2 (by omega)
      have hb8 := w8V_hi l1.2 l2.2 p1 r1
      have h8D := Gs.fin_dist (nbL_valid (lsW_valid (s := s) (a := a) 8)) p1
      have h8z : d8W s a s0 s0 = 0 := h8D.f0
      have h8e : d8W s a s0 t0 = 0 → t0 = s0 := h8D.z t0 r1
      have HB := Lib.hid (fun (t v : Nat) (hv : v < a.size * s.size) => run_both kk1 kk2 p1 hv t)
      have HLO := Lib.hid (show ∀ v, v < a.size * s.size → -1 ≤ d8W s a s0 v from h8D.lo)
      have HR := Lib.hid (fun (X : World) (B g : Nat) (R : Nat → Bool) (ho : OwnT2 4 X B g (a.size * s.size) R) => And.intro (Tryd.owRun X s a kk1 kk2 (a.size * s.size) rfl B g R true s rfl ho) (Tryd.owRun X s a kk1 kk2 (a.size * s.size) rfl B g R false a rfl ho))
      have HB0 := Lib.hid (show ∀ v, v < a.size * s.size → d8W s a s0 v = 0 → v = s0 from fun v hv => h8D.z v hv)
      rcases hla.view with ⟨hx, _⟩ | ⟨_, ga, ca, rfl, _, ga2, _, _, _⟩
      · cases hx
      rcases hlb.view with ⟨hx, _⟩ | ⟨_, gb, cb, rfl, _, gb2, _, _, _⟩
      · cases hx
      obtain ⟨l0, _⟩ := hla.at rfl 0 (by simp)
      obtain ⟨l1', _⟩ := hla.at rfl 1 (by simp)
      obtain ⟨m0, _⟩ := hlb.at rfl 0 (by simp)
      obtain ⟨m1, _⟩ := hlb.at rfl 1 (by simp)
      simp only [List.getD_cons_zero, List.getD_cons_succ, List.length_cons, List.length_nil, Nat.zero_add, Nat.reduceAdd] at l0 l1' m0 m1 HA HD ⊢
      have hN : a.size * s.size ≤ 64 := Nat.mul_le_mul (show a.size ≤ 8 by omega) (show s.size ≤ 8 by omega)
      have hWH : (s.size : Int) * (a.size : Int) = ((a.size * s.size : Nat) : Int) := by rw [Nat.mul_comm]; push_cast; rfl
      have hds : s.size * (s0 / s.size) + s0 % s.size = s0 := Nat.div_add_mod s0 s.size
      have hdt : s.size * (t0 / s.size) + t0 % s.size = t0 := Nat.div_add_mod t0 s.size
      rw [Nat.mul_comm] at hds hdt
      have c0 : (crn s.size s0).1 = ((s0 / s.size : Nat) : Int) := rfl
      have c1 : (crn s.size s0).2 = ((s0 % s.size : Nat) : Int) := rfl
      have c2 : (crn s.size t0).1 = ((t0 / s.size : Nat) : Int) := rfl
      have c3 : (crn s.size t0).2 = ((t0 % s.size : Nat) : Int) := rfl
      rw [c0] at l0
      rw [c1] at l1'
      rw [c2] at m0
      rw [c3] at m1
      have hP1 : ((s0 / s.size : Nat) : Int) * (s.size : Int) = ((s0 / s.size * s.size : Nat) : Int) := by push_cast; rfl
      have hP2 : ((t0 / s.size : Nat) : Int) * (s.size : Int) = ((t0 / s.size * s.size : Nat) : Int) := by push_cast; rfl
      have hsz2 := l1.2
      generalize dsW s a s0 t0 = d at *
      generalize d8W s a s0 = F at *
      obtain ⟨W0, hW0⟩ : ∃ W0, w.alloc (.cells #[.string s, .string a] 28) = W0 := ⟨_, rfl⟩
      have GW : Gr w W0 := by subst hW0; exact by repeat (first | exact Gr.refl _ | refine Gr.alloc ?_ _ | refine Gr.trans ?_ (by assumption) | refine Gr.drew ?_ | refine Gr.drewN ?_ _ | refine Gr.grow ?_ _ | refine Gr.setCell ?_ (by (try simp); (try omega)) _)
      have k0 : W0.cell? ⟨w.heap.size, 0, none⟩ = some (.string s) := by subst hW0; simp [go_sem]
      have k1 : W0.cell? ⟨w.heap.size, 1, none⟩ = some (.string a) := by subst hW0; simp [go_sem]
      have szW : W0.heap.size = w.heap.size + 1 := by subst hW0; simp
      have HG := Lib.hid GW
      have HK := Lib.hid (And.intro k0 k1)
      have HL := Lib.hid (And.intro (And.intro (GW.keep0 l0) (GW.keep0 l1')) (And.intro (GW.keep0 m0) (GW.keep0 m1)))
      have dn : decide ((d : Int) < 0) = false := by simpa using hz
      clear hla hlb l0 l1' m0 m1 GW e1 c0 c1 c2 c3 h8D hsame h1 kk1 kk2 hs ha l1 l2
      generalize s0 / s.size = X1 at *
      generalize s0 % s.size = Y1 at *
      generalize t0 / s.size = X2 at *
      generalize t0 % s.size = Y2 at *
      generalize X1 * s.size = P1 at *
      generalize X2 * s.size = P2 at *
      obtain ⟨N, hNN⟩ : ∃ N, a.size * s.size = N := ⟨_, rfl⟩
      rw [hNN] at hWH hN p1 r1 hb8 hbd HB HLO HR HB0
      have hsP1 : (P1 : Int) + (Y1 : Int) = (s0 : Int) := by omega
      have hsP2 : (P2 : Int) + (Y2 : Int) = (t0 : Int) := by omega
      have b1 : P1 ≤ 64 := by omega
      have b2 : Y1 ≤ 64 := by omega
      have b3 : P2 ≤ 64 := by omega
      have b4 : Y2 ≤ 64 := by omega
      have HP := Lib.hid (And.intro p1 r1)
      clear hds hdt hNN p1 r1
      by_cases hst : s0 = t0
      · have hbe : ((s0 : Int) == (t0 : Int)) = true := by simp [hst]
        have hmx : max (F t0 - 1) 0 = 0 := by rw [← hst, h8z]; rfl
        rw [hmx]
        clear hmx h8z h8e h80 hb8
        go_enter Tryd.func5, Tryd.ntmps5
        go_wp2_with (first | (go_at_call 10; refine (HA.out _ HG.out).mono ?_; rintro e w1 ⟨rfl, hg1⟩; have a0 := hg1.keep0 HK.out.1; have a1 := hg1.keep0 HK.out.2; have hb1 := Below.trans HG.out.below (hg1.below.mono HG.out.below.size)) | (go_at_call 11; refine (HD.out _ hb1).mono ?_; rintro e w2 ⟨rfl, hb2⟩; have c0 := cell_k2 hb2 a0; have c1 := cell_k2 hb2 a1; have hbb := Below.trans hb1 (hb2.mono hb1.size); have q2 := gr_all (Gr.refl w2) (cell_k2 hb2 (hg1.keep0 HL.out.2.1)); have q3 := gr_all (Gr.refl w2) (cell_k2 hb2 (hg1.keep0 HL.out.2.2)); have q0 := gr_all (Gr.refl w2) (cell_k2 hb2 (hg1.keep0 HL.out.1.1)); have q1 := gr_all (Gr.refl w2) (cell_k2 hb2 (hg1.keep0 HL.out.1.2))))
        (refine wp_region_quiet_grown mixed (by kernel_rfl) ?_; (repeat (first | go_big_quiet_step ((fail)) | quiet_step ((fail)))); refine wpQuiet_nil ?_; intro _ hw'; obtain ⟨⟨nq, osq⟩, hw''⟩ := hw'; subst hw'')
        have hbg : Below w.heap.size w (Go.Sort.grow (w2.drewN nq) osq) := hbb.trans ((Gr.grow (Gr.drewN (Gr.refl w2) nq) osq).below.mono hbb.size)
        obtain ⟨wg, hwg⟩ : ∃ wg, Go.Sort.grow (w2.drewN nq) osq = wg := ⟨_, rfl⟩
        have s0' := q0 nq osq
        have s1' := q1 nq osq
        rw [hwg] at hbg s0' s1'
        simp only [hwg]
        have e0 := gr_all (Gr.refl wg) s0'
        have e1 := gr_all (Gr.refl wg) s1'
        clear q0 q1 q2 q3 hwg s0' s1'
        go_wp2_with fail
        (refine wp_region_quiet_grown mixed (by kernel_rfl) ?_; (repeat (first | go_big_quiet_step ((fail)) | quiet_step ((fail)))); refine wpQuiet_nil ?_; intro _ hw'; obtain ⟨⟨nq, osq⟩, hw''⟩ := hw'; subst hw'')
        go_wp2_with fail
        go_ret2
        exact ⟨rfl, hbg.trans ((Gr.grow (Gr.drewN (Gr.refl wg) _) _).below.mono hbg.size)⟩
      · have hbe : ((s0 : Int) == (t0 : Int)) = false := by simp; omega
        have hpos : 0 < F t0 := by rcases Int.lt_or_eq_of_le h80 with q | q; exact q; exact absurd (h8e q.symm).symm hst
        obtain ⟨D, hDD⟩ : ∃ D : Nat, F t0 = (D : Int) + 1 := ⟨(F t0 - 1).toNat, by omega⟩
        have hmx : max (F t0 - 1) 0 = (D : Int) := by rw [hDD, Int.max_def]; split <;> omega
        have hD64 : D ≤ 64 := by omega
        rw [hmx]
        have HDD := Lib.hid hDD
        have H8Z := Lib.hid h8z
        obtain ⟨i0, hi, hz0, hz1, hz2⟩ := info_parts Tryd.infoBl
        have HII := Lib.hid hi
        clear hmx h8z h8e h80 hb8 hpos hDD hi
        go_enter Tryd.func5, Tryd.ntmps5
        go_wp2_with (first | (go_at_call 10; refine (HA.out _ HG.out).mono ?_; rintro e w1 ⟨rfl, hg1⟩; have a0 := hg1.keep0 HK.out.1; have a1 := hg1.keep0 HK.out.2; have hb1 := Below.trans HG.out.below (hg1.below.mono HG.out.below.size)) | (go_at_call 11; refine (HD.out _ hb1).mono ?_; rintro e w2 ⟨rfl, hb2⟩; have c0 := cell_k2 hb2 a0; have c1 := cell_k2 hb2 a1; have hbb := Below.trans hb1 (hb2.mono hb1.size); have q2 := gr_all (Gr.refl w2) (cell_k2 hb2 (hg1.keep0 HL.out.2.1)); have q3 := gr_all (Gr.refl w2) (cell_k2 hb2 (hg1.keep0 HL.out.2.2)); have q0 := gr_all (Gr.refl w2) (cell_k2 hb2 (hg1.keep0 HL.out.1.1)); have q1 := gr_all (Gr.refl w2) (cell_k2 hb2 (hg1.keep0 HL.out.1.2))))
        (refine wp_region_quiet_grown mixed (by kernel_rfl) ?_; (repeat (first | go_big_quiet_step ((fail)) | quiet_step ((fail)))); refine wpQuiet_nil ?_; intro _ hw'; obtain ⟨⟨nq, osq⟩, hw''⟩ := hw'; subst hw'')
        have gg1 : Gr w2 (Go.Sort.grow (w2.drewN nq) osq) := Gr.grow (Gr.drewN (Gr.refl w2) nq) osq
        have hbg : Below w.heap.size w (Go.Sort.grow (w2.drewN nq) osq) := hbb.trans (gg1.below.mono hbb.size)
        obtain ⟨wg, hwg⟩ : ∃ wg, Go.Sort.grow (w2.drewN nq) osq = wg := ⟨_, rfl⟩
        have s0' := q0 nq osq
        have s1' := q1 nq osq
        have d0 := gg1.keep0 c0
        have d1 := gg1.keep0 c1
        rw [hwg] at hbg s0' s1' d0 d1
        simp only [hwg]
        have e0 := gr_all (Gr.refl wg) s0'
        have e1 := gr_all (Gr.refl wg) s1'
        clear q0 q1 q2 q3 hwg a0 a1 c0 c1 gg1 hbb hb1 hb2 hg1
        go_wp2_with fail
        (refine wp_region_quiet_grown mixed (by kernel_rfl) ?_; (repeat (first | go_big_quiet_step ((fail)) | quiet_step ((fail)))); refine wpQuiet_nil ?_; intro _ hw'; obtain ⟨⟨nq, osq⟩, hw''⟩ := hw'; subst hw'')
        have gg2 : Gr wg (Go.Sort.grow (wg.drewN nq) osq) := Gr.grow (Gr.drewN (Gr.refl wg) nq) osq
        obtain ⟨wh, hwh⟩ : ∃ wh, Go.Sort.grow (wg.drewN nq) osq = wh := ⟨_, rfl⟩
        rw [hwh] at gg2
        simp only [hwh]
        have c0 := gg2.keep0 d0
        have c1 := gg2.keep0 d1
        have f0 := gg2.keep0 s0'
        have f1 := gg2.keep0 s1'
        have HBH := Lib.hid (hbg.trans (gg2.below.mono hbg.size))
        clear e0 e1 d0 d1 s0' s1' gg2 hbg hwh
        go_wp2_with (at_make; first
          | (refine wpList_make_full _ rfl _ _ 35 rfl wh.heap.size 4 i0 (.bool false) 1 Tryd.underlying35 HII.out hz0 hz1 .i64 .i64 _ _ N rfl rfl (by rfl) (by rfl) (by rw [hz2]; omega) (by unfold maxLen; omega) (Nat.le_refl _) ?_; intro w5 hown5 hgr5)
          | (refine wpList_make_full _ rfl _ _ 35 rfl w5.heap.size 4 i0 (.bool false) 1 Tryd.underlying35 HII.out hz0 hz1 .i64 .i64 _ _ N rfl rfl (by rfl) (by rfl) (by rw [hz2]; omega) (by unfold maxLen; omega) (Nat.le_refl _) ?_; intro w6 hown6 hgr6))
        have ho5 : OwnT2 4 w5 wh.heap.size wh.heap.size N (fun _ => false) := by
          unfold OwnT2
          rw [tab_false]
          simpa [Value.cells, toList_madeCells_one] using hown5
        have ho6 : OwnT2 4 w6 w5.heap.size w5.heap.size N (fun _ => false) := by
          unfold OwnT2
          rw [tab_false]
          simpa [Value.cells, toList_madeCells_one] using hown6
        have hg56 : wh.grownBy w6 none := grownBy.trans hgr5 hgr6
        have m0 := hg56.cell c0 (by simp)
        have m1 := hg56.cell c1 (by simp)
        have n0 := hg56.cell f0 (by simp)
        have n1 := hg56.cell f1 (by simp)
        have hlt5 := ho5.lt.2
        have hbox : w.heap.size < wh.heap.size := World.block_lt_of_cell? _ _ c0
        have hlt6 := ho6.lt.2
        have hwl := HBH.out.size
        have ho5' := ho5.grown hgr6 (by simp)
        have q0 := gr_all (Gr.refl w6) n0
        have q1 := gr_all (Gr.refl w6) n1
        have r1 := gr_all_f (Gr.refl w6) (show wh.heap.size < w6.heap.size by omega) (ho5'.at s0 HP.out.1).2
        have r2 := gr_all_f (Gr.refl w6) hlt6 (ho6.at s0 HP.out.1).2
        have zs0 : (0 : Int) ≤ (s0 : Int) := by omega
        have zs1 : (s0 : Int) < (N : Int) := by have := HP.out.1; omega
        have r3 := gr_all (Gr.refl w6) (ho5'.at s0 HP.out.1).1
        have r4 := gr_all (Gr.refl w6) (ho6.at s0 HP.out.1).1
        have HO := Lib.hid (And.intro ho5' ho6)
        have HM := Lib.hid (And.intro m0 m1)
        have HG56 := Lib.hid hg56
        have HBE := Lib.hid (HBH.out.grown hg56 hwl (by simp))
        clear ho5 ho6 ho5' hown5 hown6 hgr5 hgr6 hg56 m0 m1 n0 n1 c0 c1 f0 f1
        (refine wp_region_quiet_grown mixed (by kernel_rfl) ?_; (repeat (first | go_big_quiet_step ((fail)) | quiet_step ((fail)))); refine wpQuiet_nil ?_; intro _ hw'; obtain ⟨⟨nq, osq⟩, hw''⟩ := hw'; subst hw'')
        have gg := Gr.grow (Gr.drewN (Gr.refl w6) nq) osq
        have u1 := r1 nq osq
        have u2 := r2 nq osq
        have u3 := r3 nq osq
        have u4 := r4 nq osq
        have szg := gg.below.size
        obtain ⟨wi, hwi⟩ : ∃ wi, Go.Sort.grow (w6.drewN nq) osq = wi := ⟨_, rfl⟩
        rw [hwi] at gg u1 u2 u3 u4 szg
        simp only [hwi]
        have HGI := Lib.hid gg
        generalize wh.heap.size = G1 at *
        generalize w5.heap.size = G2 at *
        have gne : ¬ G1 = G2 := by omega
        have gne' : ¬ G2 = G1 := by omega
        clear q0 q1 r1 r2 r3 r4 gg hwi
        go_wp2_with fail
        obtain ⟨wx, hwx⟩ : ∃ wx, (wi.setCell ⟨G1, s0, none⟩ (.bool true)).setCell ⟨G2, s0, none⟩ (.bool true) = wx := ⟨_, rfl⟩
        have hcg : ∀ v, v < N → upd (fun _ => false) s0 true v = btW F 0 v := fun v hv => by
          unfold upd btW
          by_cases e : v = s0
          · subst e; rw [if_pos rfl, H8Z.out]; rfl
          · rw [if_neg e]
            cases hc : decide (0 ≤ F v ∧ F v ≤ ((0 : Nat) : Int))
            · rfl
            · exact absurd (HB0.out v hv (by have h := of_decide_eq_true hc; have h1 := h.1; have h2 : F v ≤ 0 := h.2; exact Int.le_antisymm h2 h1)) e
        have HX1 := Lib.hid (show OwnT2 4 wx G1 G1 N (btW F 0) by
          rw [← hwx]
          exact (((HO.out.1.grown1 HGI.out).set s0 true).grown (grownBy_setCell (World.grownBy.refl _ (some G2))) (fun e => gne (Option.some.inj e))).congr hcg)
        have HX2 := Lib.hid (show OwnT2 4 wx G2 G2 N (btW F 0) by
          rw [← hwx]
          exact (((HO.out.2.grown1 HGI.out).grown (grownBy_setCell (World.grownBy.refl _ (some G1))) (fun e => gne' (Option.some.inj e))).set s0 true).congr hcg)
        have HBX := Lib.hid (show Below w.heap.size w wx by
          rw [← hwx]
          exact Below.setCell (Below.setCell (HBE.out.trans (HGI.out.below.mono HBE.out.size)) (p := ⟨G1, s0, none⟩) (by simp; omega) _) (p := ⟨G2, s0, none⟩) (by simp; omega) _)
        have HMX := Lib.hid (show wx.cell? ⟨w.heap.size, 0, none⟩ = some (.string s) ∧ wx.cell? ⟨w.heap.size, 1, none⟩ = some (.string a) by
          rw [← hwx]
          exact ⟨(World.cell?_setCell_far _ _ _ _ (by simp; omega)).trans ((World.cell?_setCell_far _ _ _ _ (by simp; omega)).trans (HGI.out.keep0 HM.out.1)), (World.cell?_setCell_far _ _ _ _ (by simp; omega)).trans ((World.cell?_setCell_far _ _ _ _ (by simp; omega)).trans (HGI.out.keep0 HM.out.2))⟩)
        simp only [hwx]
        clear hwx hcg u1 u2 u3 u4
        go_loopw [14] (fun tv wr => ∃ t : Nat, tv = .int .i64 t ∧ t ≤ D ∧ OwnT2 4 wr G1 G1 N (btW F t) ∧ OwnT2 4 wr G2 G2 N (btW F t) ∧ Below G1 wx wr) (fun t _ => D - (intOf t).toNat)
        case atStart => exact ⟨0, rfl, Nat.zero_le _, HX1.out, HX2.out, Below.refl _ _⟩
        case round =>
          obtain ⟨t, rfl, htD, o1, o2, hb⟩ := hrel
          have m0 := (hb.cell (p := ⟨w.heap.size, 0, none⟩) hbox).trans HMX.out.1
          have m1 := (hb.cell (p := ⟨w.heap.size, 1, none⟩) hbox).trans HMX.out.2
          have O1 := Lib.hid o1
          have O2 := Lib.hid o2
          have HB1 := Lib.hid hb
          clear o1 o2 hb
          have hne1 : some w.heap.size ≠ some G1 := fun e => by have := Option.some.inj e; omega
          have HNE1 := Lib.hid hne1
          clear hne1
          go_upto_region 17 with (go_at_call 12; first
            | (have hh := hw7; refine ((HR.out _ _ _ _ (O2.out.grown hw7 (fun e => gne' (Option.some.inj e)))).2).mono ?_; rintro e w8 ⟨rfl, R2, oR2, hx2, hw8⟩)
            | (refine ((HR.out _ _ _ _ O1.out).1).mono ?_; rintro e w7 ⟨rfl, R1, oR1, hx1, hw7⟩; have n0 := hw7.cell m0 HNE1.out; have n1 := hw7.cell m1 HNE1.out))
          have p1 : OwnT2 4 w8 G1 G1 N R1 := oR1.grown hw8 (fun e => gne (Option.some.inj e))
          have x1 := (p1.at t0 HP.out.2).1
          have x2 := (oR2.at t0 HP.out.2).1
          have y1 : (0 : Int) ≤ (t0 : Int) := by omega
          have y2 : (t0 : Int) < (N : Int) := by have := HP.out.2; omega
          have hkey : ∀ v, v < N → (R1 v || R2 v) = btW F (t + 1) v := fun v hv => by
            have hf : (fun u => u < N ∧ btW F t u = true) = (fun u => u < N ∧ 0 ≤ F u ∧ F u ≤ (t : Int)) := by
              funext u
              unfold btW
              simp
            have q1 := hx1 v hv
            have q2 := hx2 v hv
            have q3 := HB.out t v hv
            rw [hf] at q1 q2
            rw [← q1, ← q2] at q3
            unfold btW
            cases hc : decide (0 ≤ F v ∧ F v ≤ ((t + 1 : Nat) : Int))
            · have := of_decide_eq_false hc
              rw [← q3] at this
              cases hr1 : R1 v
              · cases hr2 : R2 v
                · rfl
                · exact absurd (.inr hr2) this
              · exact absurd (.inl hr1) this
            · have := of_decide_eq_true hc
              rcases q3.2 this with r | r
              · rw [r]; rfl
              · rw [r]; cases R1 v <;> rfl
          have hg78 : Below G1 wx w8 := ((HB1.out.grown hw7 (by have := O1.out.lt.2; omega) (fun k e => by cases e; exact Nat.le_refl _))).grown hw8 (by have := oR1.lt.2; omega) (fun k e => by cases e; omega)
          have HB8 := Lib.hid hg78
          have HKEY := Lib.hid hkey
          have P1 := Lib.hid p1
          have P2 := Lib.hid oR2
          have hkt := hkey t0 HP.out.2
          clear hkey hx1 hx2 hw7 hw8 p1 oR1 oR2 hg78 n0 n1 m0 m1
          by_cases hD : t = D
          · have hbt : btW F (t + 1) t0 = true := by unfold btW; exact decide_eq_true (by rw [HDD.out]; omega)
            rw [hbt] at hkt
            subst hD
            cases hq1 : R1 t0
            · have hq2 : R2 t0 = true := by rw [hq1] at hkt; exact hkt
              rw [hq1] at x1
              rw [hq2] at x2
              clear hkt hq1 hq2 hbt
              go_wp2
              go_ret2
              exact ⟨rfl, HBX.out.trans (HB8.out.mono (by omega))⟩
            · rw [hq1] at x1
              clear hkt hq1 hbt x2
              go_wp2
              go_ret2
              exact ⟨rfl, HBX.out.trans (HB8.out.mono (by omega))⟩
          · have hbt : btW F (t + 1) t0 = false := by unfold btW; exact decide_eq_false (by rw [HDD.out]; omega)
            rw [hbt] at hkt
            have hq1 : R1 t0 = false := by cases h : R1 t0 <;> simp [h] at hkt ⊢
            have hq2 : R2 t0 = false := by rw [hq1] at hkt; exact hkt
            rw [hq1] at x1
            rw [hq2] at x2
            clear hkt hq1 hq2 hbt
            go_wp2_with fail
            rename World => wo
            go_loopw [101] (fun iv wr => ∃ (i : Nat) (Q1 Q2 : Nat → Bool), iv = .int .i64 i ∧ i ≤ N ∧ mgR R1 R2 Q1 i ∧ mgR R2 R1 Q2 i ∧ OwnT2 4 wr G1 G1 N Q1 ∧ OwnT2 4 wr G2 G2 N Q2 ∧ Below G1 wx wr) (fun i _ => N - (intOf i).toNat)
            case atStart => exact ⟨0, R1, R2, rfl, Nat.zero_le _, fun v => by simp, fun v => by simp, P1.out, P2.out, HB8.out⟩
            case round =>
              obtain ⟨i, Q1, Q2, rfl, hi, hm1, hm2, o1, o2, hb⟩ := hrel
              have M1 := Lib.hid hm1
              have M2 := Lib.hid hm2
              have O3 := Lib.hid o1
              have O4 := Lib.hid o2
              have HB9 := Lib.hid hb
              by_cases hiN : i < N
              · obtain ⟨c1, d1⟩ := o1.at i hiN
                obtain ⟨c2, d2⟩ := o2.at i hiN
                have e1 : Q1 i = R1 i := by rw [hm1 i]; simp
                have e2 : Q2 i = R2 i := by rw [hm2 i]; simp
                rw [e1] at c1
                rw [e2] at c2
                have z0 : (0 : Int) ≤ (i : Int) := by omega
                have z1 : (i : Int) < (N : Int) := by omega
                clear hm1 hm2 o1 o2 hb e1 e2
                have hcase : ∀ b, b = (R1 i || R2 i) → OwnT2 4 ((wr.setCell ⟨G1, i, none⟩ (.bool b)).setCell ⟨G2, i, none⟩ (.bool b)) G1 G1 N (upd Q1 i b) ∧ OwnT2 4 ((wr.setCell ⟨G1, i, none⟩ (.bool b)).setCell ⟨G2, i, none⟩ (.bool b)) G2 G2 N (upd Q2 i b) ∧ Below G1 wx ((wr.setCell ⟨G1, i, none⟩ (.bool b)).setCell ⟨G2, i, none⟩ (.bool b)) := fun b hb =>
                  ⟨(O3.out.set i b).grown (grownBy_setCell (World.grownBy.refl _ (some G2))) (fun e => gne (Option.some.inj e)),
                   (O4.out.grown (grownBy_setCell (World.grownBy.refl _ (some G1))) (fun e => gne' (Option.some.inj e))).set i b,
                   Below.setCell (Below.setCell HB9.out (p := ⟨G1, i, none⟩) (Nat.le_refl _) _) (p := ⟨G2, i, none⟩) (by simp; omega) _⟩
                have HC := Lib.hid hcase
                clear hcase
                cases hq1 : R1 i
                · rw [hq1] at c1
                  cases hq2 : R2 i
                  · rw [hq2] at c2
                    go_wp2_with fail
                    go_roundw
                    case rel => exact ⟨i + 1, _, _, by go_num, by omega, M1.out.set (by rw [hq1, hq2]; rfl), M2.out.set (by rw [hq1, hq2]; rfl), HC.out false (by rw [hq1, hq2]; rfl)⟩
                    case measure => simp [intOf]; omega
                  · rw [hq2] at c2
                    go_wp2_with fail
                    go_roundw
                    case rel => exact ⟨i + 1, _, _, by go_num, by omega, M1.out.set (by rw [hq1, hq2]; rfl), M2.out.set (by rw [hq1, hq2]; rfl), HC.out true (by rw [hq1, hq2]; rfl)⟩
                    case measure => simp [intOf]; omega
                · rw [hq1] at c1
                  go_wp2_with fail
                  go_roundw
                  case rel => exact ⟨i + 1, _, _, by go_num, by omega, M1.out.set (by rw [hq1]; rfl), M2.out.set (by rw [hq1]; cases R2 i <;> rfl), HC.out true (by rw [hq1]; rfl)⟩
                  case measure => simp [intOf]; omega
              · obtain rfl : i = N := by omega
                have z1 : ¬ (i : Int) < (i : Int) := by omega
                clear hm1 hm2 o1 o2 hb
                go_wp2_with fail
                go_roundw
                case rel => exact ⟨t + 1, by go_num, by omega, O3.out.congr (fun v hv => by rw [M1.out v, if_pos hv]; exact HKEY.out v hv), O4.out.congr (fun v hv => by rw [M2.out v, if_pos hv, Bool.or_comm]; exact HKEY.out v hv), HB9.out⟩
                case measure => simp [intOf]; omega
end Go.Proofs
