/-
  Chapter 6: one goes on along streets, or along avenues (the model).
-/
import Derived.Test.YtfdiiichjopncaaDoorOwRm
import Derived.Test.YtfdiiichjopncaaDoorOfA
import Derived.Test.YtfdiiichjopncaaDoorBls
namespace Go.Proofs
open Go.RowKit Av Gm Go.Maps
set_option linter.unusedVariables false
set_option linter.unusedSimpArgs false
/-- how many of the first n hold -/
def trs (R : Nat → Bool) : Nat → Nat | 0 => 0 | n + 1 => trs R n + (if R n then 1 else 0)
theorem trs_le (R : Nat → Bool) (n : Nat) : trs R n ≤ n := by
  induction n with
  | zero => exact Nat.le_refl _
  | succ n ih => simp only [trs]; split <;> omega
theorem trs_far (R : Nat → Bool) (m n : Nat) (h : n ≤ m) : trs (upd R m true) n = trs R n := by
  induction n with
  | zero => rfl
  | succ n ih =>
    simp only [trs]
    rw [ih (by omega)]
    unfold upd
    rw [if_neg (show ¬ n = m by omega)]
theorem trs_upd (R : Nat → Bool) (m n : Nat) (h : m < n) (hf : R m = false) : trs (upd R m true) n = trs R n + 1 := by
  induction n with
  | zero => omega
  | succ n ih =>
    simp only [trs]
    by_cases e : m = n
    · subst e
      rw [trs_far R m m (Nat.le_refl _), hf]
      unfold upd
      simp
    · rw [ih (by omega)]
      have : upd R m true n = R n := by unfold upd; rw [if_neg (fun h => e h.symm)]
      rw [this]
      omega
def mzR (N : Nat) (b : Bool) (R : Nat → Bool) : Nat := if b then 1 + (N - trs R N) else 0
theorem Gr.grownBy {w w' : World} (h : Gr w w') (row : Option Nat) : w.grownBy w' row := ⟨h.below.os, h.below.tape, h.below.output, h.below.size, fun k hk _ => h.below.block k hk⟩
theorem grownBy.trans {a b c : World} {row : Option Nat} (h : a.grownBy b row) (k : b.grownBy c row) : a.grownBy c row :=
  ⟨k.os.trans h.os, k.tape.trans h.tape, k.output.trans h.output, Nat.le_trans h.size k.size, fun i hi hne => (k.block i (Nat.lt_of_lt_of_le hi h.size) hne).trans (h.block i hi hne)⟩
/-- what holds between the passes -/
structure RunR (N : Nat) (s a : ByteArray) (al : Bool) (R R1 : Nat → Bool) : Prop where
  lo : ∀ v, R v = true → R1 v = true
  hi : ∀ v, v < N → R1 v = true → Rx (rnX s a al) (fun u => u < N ∧ R u = true) v
theorem RunR.step {N : Nat} {s a : ByteArray} {al : Bool} {R R1 : Nat → Bool} (h : RunR N s a al R R1) {u m : Nat} (hu : u < N) (h1 : R1 u = true) (e : rnX s a al u = some m) : RunR N s a al R (upd R1 m true) := by
  refine ⟨fun v hv => ?_, fun v hv hr => ?_⟩
  · unfold upd; split
    · rfl
    · exact h.lo v hv
  · unfold upd at hr
    split at hr
    · subst v; exact .step (h.hi u hu h1) e
    · exact h.hi v hv hr
theorem RunR.fin {N : Nat} {s a : ByteArray} {al : Bool} {R R1 : Nat → Bool} (h : RunR N s a al R R1) (hN : ∀ u v, u < N → rnX s a al u = some v → v < N) (hc : ∀ u v, u < N → R1 u = true → rnX s a al u = some v → R1 v = true) (v : Nat) (hv : v < N) :
    R1 v = true ↔ Rx (rnX s a al) (fun u => u < N ∧ R u = true) v := by
  refine ⟨h.hi v hv, fun hr => ?_⟩
  have : v < N ∧ R1 v = true := by
    clear hv
    induction hr with
    | base h' => exact ⟨h'.1, h.lo _ h'.2⟩
    | step _ e ih => exact ⟨hN _ _ ih.1 e, hc _ _ ih.1 ih.2 e⟩
  exact this.2
/-- what holds within a pass -/
structure RunI (N : Nat) (s a : ByteArray) (al : Bool) (R R1 R2 : Nat → Bool) (b : Bool) (i : Nat) : Prop where
  r : RunR N s a al R R2
  no : b = false → trs R2 N = trs R1 N ∧ ∀ u v, u < i → R2 u = true → rnX s a al u = some v → R2 v = true
  yes : b = true → trs R1 N < trs R2 N
theorem RunI.skip {N : Nat} {s a : ByteArray} {al : Bool} {R R1 R2 : Nat → Bool} {b : Bool} {i : Nat} (h : RunI N s a al R R1 R2 b i) (h2 : ∀ v, R2 i = true → rnX s a al i = some v → R2 v = true) : RunI N s a al R R1 R2 b (i + 1) :=
  ⟨h.r, fun e => ⟨(h.no e).1, fun u v hu hr e' => by
    rcases Nat.lt_or_eq_of_le (Nat.le_of_lt_succ hu) with q | q
    · exact (h.no e).2 u v q hr e'
    · subst q; exact h2 v hr e'⟩, h.yes⟩
theorem RunI.add {N : Nat} {s a : ByteArray} {al : Bool} {R R1 R2 : Nat → Bool} {b : Bool} {i m : Nat} (h : RunI N s a al R R1 R2 b i) (hi : i < N) (h1 : R2 i = true) (e : rnX s a al i = some m) (hm : m < N) (h0 : R2 m = false) : RunI N s a al R R1 (upd R2 m true) true (i + 1) :=
  ⟨h.r.step hi h1 e, fun e => by (exact absurd e (by decide)), fun _ => by
    rw [trs_upd R2 m N hm h0]
    cases b with
    | false => have := (h.no rfl).1; omega
    | true => have := h.yes rfl; omega⟩
theorem rnX_drv {s a : ByteArray} {al : Bool} {u v : Nat} (h : rnX s a al u = some v) : drv s a (u / s.size) (u % s.size) (rnD s a al u) = true := by
  unfold rnX nbW at h
  split at h
  · rename_i q; exact q.2.2
  · cases h
set_option maxRecDepth 100000 in
set_option maxHeartbeats 4000000 in
theorem Tryd.owRun (w : World) (s a : ByteArray) (h1 : okT 101 119 s = true) (h2 : okT 110 115 a = true) (N : Nat) (hN : a.size * s.size = N) (B g : Nat) (R : Nat → Bool) (al : Bool) (sg : ByteArray) (hsg : sg = if al then s else a) (hown : OwnT2 4 w B g N R) :
    Calls Tryd.prog 12 #[.agg #[.string s, .string a], .slice (some ⟨g, 0, none⟩) N N, .string sg, .bool al] w fun e w' => e = .returned (.tuple #[]) ∧ ∃ R', OwnT2 4 w' B g N R' ∧ (∀ v, v < N → (R' v = true ↔ Rx (rnX s a al) (fun u => u < N ∧ R u = true) v)) ∧ w.grownBy w' (some g) := by
  have mixed : Tryd.prog.follows .mixedOrders = true := by kernel_rfl
  obtain ⟨hH0, hH1⟩ := okT_len h1
  obtain ⟨hW0, hW1⟩ := okT_len h2
  have hN64 : N ≤ 64 := by rw [← hN]; exact Nat.mul_le_mul hW1 hH1
  obtain ⟨W0, hWW⟩ : ∃ W0, w.alloc (.cells #[.string s, .string a] 28) = W0 := ⟨_, rfl⟩
  have GW : Gr w W0 := by subst hWW; exact by repeat (first | exact Gr.refl _ | refine Gr.alloc ?_ _ | refine Gr.trans ?_ (by assumption) | refine Gr.drew ?_ | refine Gr.drewN ?_ _ | refine Gr.grow ?_ _ | refine Gr.setCell ?_ (by (try simp); (try omega)) _)
  have k0 : W0.cell? ⟨w.heap.size, 0, none⟩ = some (.string s) := by subst hWW; simp [go_sem]
  have k1 : W0.cell? ⟨w.heap.size, 1, none⟩ = some (.string a) := by subst hWW; simp [go_sem]
  have hgw := hown.lt
  have HG := Lib.hid GW
  have HK := Lib.hid (And.intro k0 k1)
  have HO := Lib.hid (hown.grown1 GW)
  have HNE := Lib.hid (show some w.heap.size ≠ some g from fun e => by have := Option.some.inj e; omega)
  have H1 := Lib.hid h1
  have H2 := Lib.hid h2
  have HNN := Lib.hid hN
  have HVAL := Lib.hid (show ∀ u v, u < N → rnX s a al u = some v → v < N from fun u v hu e => by rw [← hN] at hu ⊢; exact nbW_valid _ _ _ hu e)
  have HSG := Lib.hid hsg
  clear GW h1 h2 hgw hown hsg
  go_enter Tryd.func12, Tryd.ntmps12
  go_wp2_with fail
  clear k0 k1
  go_loopg [9] (N + 2) (fun gk bv wr => ∃ (b : Bool) (R1 : Nat → Bool), bv = .bool b ∧ mzR N b R1 < gk ∧ RunR N s a al R R1 ∧ (b = false → ∀ u v, u < N → R1 u = true → rnX s a al u = some v → R1 v = true) ∧ OwnT2 4 wr B g N R1 ∧ W0.grownBy wr (some g))
  case atStart => exact ⟨true, R, rfl, by unfold mzR; simp; omega, ⟨fun _ h => h, fun v hv h => .base ⟨hv, h⟩⟩, fun e => by (exact absurd e (by decide)), HO.out, (Gr.refl _).grownBy _⟩
  case round =>
    obtain ⟨b, R1, rfl, hmz, hr, hcl, ho, hgb⟩ := hrel
    have HR := Lib.hid hr
    have HCL := Lib.hid hcl
    have HO1 := Lib.hid ho
    have HGB := Lib.hid hgb
    have HMZ := Lib.hid hmz
    clear hr hcl ho hgb hmz
    cases b with
    | false =>
      go_wp2
      refine bodyPost_end (results_none rfl _ _ _) rfl ?_
      exact ⟨rfl, R1, HO1.out, fun v hv => HR.out.fin HVAL.out (HCL.out (by first | rfl | trivial)) v hv, grownBy.trans (HG.out.grownBy _) HGB.out⟩
    | true =>
      go_wp2_with fail
      rename World => wo
      go_loopw [9, 23] (fun bv iv wr => ∃ (b : Bool) (i : Nat) (R2 : Nat → Bool), bv = .bool b ∧ iv = .int .i64 i ∧ i ≤ N ∧ RunI N s a al R R1 R2 b i ∧ OwnT2 4 wr B g N R2 ∧ W0.grownBy wr (some g)) (fun _ i _ => N - (intOf i).toNat)
      case atStart => exact ⟨false, 0, R1, rfl, rfl, Nat.zero_le _, ⟨HR.out, fun _ => ⟨rfl, fun u v hu => absurd hu (Nat.not_lt_zero _)⟩, fun e => by (exact absurd e (by decide))⟩, HO1.out, HGB.out⟩
      case round =>
        obtain ⟨b, i, R2, rfl, rfl, hi, hri, ho2, hg2⟩ := hrel
        have HRI := Lib.hid hri
        have HO2 := Lib.hid ho2
        have HG2 := Lib.hid hg2
        by_cases hiN : i < N
        · have z0 : (0 : Int) ≤ (i : Int) := by omega
          have z1 : (i : Int) < (N : Int) := by omega
          have ci := (ho2.at i hiN).1
          have m0 := hg2.cell HK.out.1 HNE.out
          have m1 := hg2.cell HK.out.2 HNE.out
          clear hri ho2 hg2
          cases hR2 : R2 i
          · rw [hR2] at ci
            go_wp2
            go_roundw
            case rel => exact ⟨b, i + 1, R2, rfl, by go_num, by omega, HRI.out.skip (fun v h => by rw [hR2] at h; cases h), HO2.out, HG2.out⟩
            case measure => simp [intOf]; omega
          · rw [hR2] at ci
            have hud := idx_lt (show i < a.size * s.size by rw [HNN.out]; exact hiN)
            have hj4 := rnD_lt s a al i
            obtain ⟨j, hj⟩ : ∃ j, rnD s a al i = j := ⟨_, rfl⟩
            have HJ := Lib.hid hj
            have HST := Lib.hid (fun (X : World) (hX : Gr wr X) => Tryd.owStep X s a H1.out H2.out (i / s.size) (i % s.size) hud.1 hud.2 j (by rw [← hj]; exact hj4))
            have hHne : ¬ (s.size : Int) = 0 := by omega
            have hHne' : ¬ s.size = 0 := by omega
            have hSne : ¬ (sg.size : Int) = 0 := by rw [HSG.out]; split <;> omega
            have t1 : ((i : Int)).tdiv (s.size : Int) = ((i / s.size : Nat) : Int) := by rw [Int.tdiv_eq_ediv_of_nonneg (by omega)]; push_cast; rfl
            have t2 : ((i : Int)).tmod (s.size : Int) = ((i % s.size : Nat) : Int) := by rw [Int.tmod_eq_emod_of_nonneg (by omega)]; push_cast; rfl
            have b1 : i / s.size ≤ 64 := Nat.le_trans (Nat.div_le_self _ _) (by omega)
            have b2 : i % s.size ≤ 64 := Nat.le_trans (Nat.mod_le _ _) (by omega)
            have q0 := gr_all (Gr.refl wr) m0
            have q1 := gr_all (Gr.refl wr) m1
            cases hal : al
            · subst hal
              have hsa : a = sg := HSG.out.symm
              subst hsa
              have hsn : ((a[i / s.size]'hud.1).toNat : Int) = sgn j := by
                rw [← hj]
                unfold rnD
                rw [if_neg (by decide), ← gb_eq a _ hud.1]
                exact sgi_sgn (okT_sg H2.out sgN sgS _ hud.1)
              have hu1 := hud.1
              have hu2 := hud.2
              have HNS := Lib.hid (fun (hst : drv s a (i / s.size) (i % s.size) j = true) => nbW_some (s := s) (a := a) (n := i) (j := j) (by rw [← hj]; exact hj4) (by rw [HNN.out]; exact hiN) hst)
              have HNO := Lib.hid (fun (hst : drv s a (i / s.size) (i % s.size) j = false) => nbW_none (s := s) (a := a) (n := i) (j := j) hst)
              have HRX := Lib.hid (show rnX s a false i = nbW s a i j by unfold rnX; rw [hj])
              have hjl : j < 4 := by rw [← hj]; exact hj4
              clear hj hj4
              generalize i / s.size = X1 at *
              generalize i % s.size = Y1 at *
              have t3 : (X1 : Int).tmod (a.size : Int) = (X1 : Int) := by rw [Int.tmod_eq_emod_of_nonneg (by omega)]; exact Int.emod_eq_of_lt (by omega) (by omega)
              have z2 : (0 : Int) ≤ (X1 : Int) := by omega
              have z3 : (X1 : Int) < (a.size : Int) := by omega
              have z4 : (0 : Int) ≤ (Y1 : Int) := by omega
              have z5 : (Y1 : Int) < (s.size : Int) := by omega
              cases hst : drv s a X1 Y1 j
              · have hnn := HNO.out hst
                obtain ⟨p, q, PP, hv, hPP, p1, p2, p3, p4, p5, p6⟩ := owV_f hst hu1 hu2 hW1 hH1 hjl
                rw [hv] at HST
                clear hst hv
                have HNN2 := Lib.hid hnn
                clear hnn
                go_wp2_with fail
                (refine wp_region_quiet_grown mixed (by kernel_rfl) ?_; (repeat (first | go_big_quiet_step ((first | (go_at_call 17; exact Calls.grown_of (HST.out _ (by repeat (first | exact Gr.refl _ | refine Gr.alloc ?_ _ | refine Gr.trans ?_ (by assumption) | refine Gr.drew ?_ | refine Gr.drewN ?_ _ | refine Gr.grow ?_ _ | refine Gr.setCell ?_ (by (try simp); (try omega)) _)))))) | quiet_step ((first | (go_at_call 17; exact Calls.grown_of (HST.out _ (by repeat (first | exact Gr.refl _ | refine Gr.alloc ?_ _ | refine Gr.trans ?_ (by assumption) | refine Gr.drew ?_ | refine Gr.drewN ?_ _ | refine Gr.grow ?_ _ | refine Gr.setCell ?_ (by (try simp); (try omega)) _)))))))); refine wpQuiet_nil ?_; intro _ hw'; obtain ⟨⟨nq, osq⟩, hw''⟩ := hw'; subst hw'')
                go_wp2_with fail
                have gg : Gr wr (Go.Sort.grow (wr.drewN nq) osq) := Gr.grow (Gr.drewN (Gr.refl wr) nq) osq
                go_roundw
                case rel =>
                  exact ⟨b, i + 1, R2, rfl, by go_num, by omega, HRI.out.skip (fun v _ h => by rw [HRX.out, HNN2.out] at h; cases h), HO2.out.grown1 gg, grownBy.trans HG2.out (gg.grownBy _)⟩
                case measure => simp [intOf]; omega
              · obtain ⟨m, hnn, hmN, hmx, hmy, hme⟩ := HNS.out hst
                rw [HNN.out] at hmN
                rw [owV_t hst, ← hmx, ← hmy] at HST
                have HNX := Lib.hid (HRX.out.trans hnn)
                clear hst hnn hmx hmy hme
                have hPi2 : ((m / s.size : Nat) : Int) * (s.size : Int) = ((m / s.size * s.size : Nat) : Int) := by push_cast; rfl
                have hdm2 : s.size * (m / s.size) + m % s.size = m := Nat.div_add_mod m s.size
                rw [Nat.mul_comm] at hdm2
                generalize m / s.size = U at *
                generalize m % s.size = V at *
                generalize U * s.size = P2 at *
                have hsP2 : (P2 : Int) + (V : Int) = (m : Int) := by omega
                have b3 : P2 ≤ 64 := by omega
                have b4 : V ≤ 64 := by omega
                have zm0 : (0 : Int) ≤ (m : Int) := by omega
                have zm1 : (m : Int) < (N : Int) := by omega
                obtain ⟨cm, cf⟩ := HO2.out.at m hmN
                have r0 := gr_all (Gr.refl wr) cm
                have r2 := gr_all_f (Gr.refl wr) HO2.out.lt.2 cf
                have HMN := Lib.hid hmN
                clear cm cf hdm2
                cases hRm : R2 m
                · rw [hRm] at r0
                  go_wp2_with fail
                  (refine wp_region_quiet_grown mixed (by kernel_rfl) ?_; (repeat (first | go_big_quiet_step ((first | (go_at_call 17; exact Calls.grown_of (HST.out _ (by repeat (first | exact Gr.refl _ | refine Gr.alloc ?_ _ | refine Gr.trans ?_ (by assumption) | refine Gr.drew ?_ | refine Gr.drewN ?_ _ | refine Gr.grow ?_ _ | refine Gr.setCell ?_ (by (try simp); (try omega)) _)))))) | quiet_step ((first | (go_at_call 17; exact Calls.grown_of (HST.out _ (by repeat (first | exact Gr.refl _ | refine Gr.alloc ?_ _ | refine Gr.trans ?_ (by assumption) | refine Gr.drew ?_ | refine Gr.drewN ?_ _ | refine Gr.grow ?_ _ | refine Gr.setCell ?_ (by (try simp); (try omega)) _)))))))); refine wpQuiet_nil ?_; intro _ hw'; obtain ⟨⟨nq, osq⟩, hw''⟩ := hw'; subst hw'')
                  go_wp2_with fail
                  have gg : Gr wr (Go.Sort.grow (wr.drewN nq) osq) := Gr.grow (Gr.drewN (Gr.refl wr) nq) osq
                  go_roundw
                  case rel =>
                    exact ⟨true, i + 1, _, rfl, by go_num, by omega, HRI.out.add hiN hR2 HNX.out HMN.out hRm, (HO2.out.grown1 gg).set m true, grownBy_setCell (grownBy.trans HG2.out (gg.grownBy _))⟩
                  case measure => simp [intOf]; omega
                · rw [hRm] at r0
                  go_wp2_with fail
                  (refine wp_region_quiet_grown mixed (by kernel_rfl) ?_; (repeat (first | go_big_quiet_step ((first | (go_at_call 17; exact Calls.grown_of (HST.out _ (by repeat (first | exact Gr.refl _ | refine Gr.alloc ?_ _ | refine Gr.trans ?_ (by assumption) | refine Gr.drew ?_ | refine Gr.drewN ?_ _ | refine Gr.grow ?_ _ | refine Gr.setCell ?_ (by (try simp); (try omega)) _)))))) | quiet_step ((first | (go_at_call 17; exact Calls.grown_of (HST.out _ (by repeat (first | exact Gr.refl _ | refine Gr.alloc ?_ _ | refine Gr.trans ?_ (by assumption) | refine Gr.drew ?_ | refine Gr.drewN ?_ _ | refine Gr.grow ?_ _ | refine Gr.setCell ?_ (by (try simp); (try omega)) _)))))))); refine wpQuiet_nil ?_; intro _ hw'; obtain ⟨⟨nq, osq⟩, hw''⟩ := hw'; subst hw'')
                  go_wp2_with fail
                  have gg : Gr wr (Go.Sort.grow (wr.drewN nq) osq) := Gr.grow (Gr.drewN (Gr.refl wr) nq) osq
                  go_roundw
                  case rel =>
                    exact ⟨b, i + 1, R2, rfl, by go_num, by omega, HRI.out.skip (fun v _ h => by rw [HNX.out] at h; cases h; exact hRm), HO2.out.grown1 gg, grownBy.trans HG2.out (gg.grownBy _)⟩
                  case measure => simp [intOf]; omega
            · subst hal
              have hsa : s = sg := HSG.out.symm
              subst hsa
              have hsn : ((s[i % s.size]'hud.2).toNat : Int) = sgn j := by
                rw [← hj]
                unfold rnD
                rw [if_pos rfl, ← gb_eq s _ hud.2]
                exact sgi_sgn (okT_sg H1.out sgE sgW _ hud.2)
              have hu1 := hud.1
              have hu2 := hud.2
              have HNS := Lib.hid (fun (hst : drv s a (i / s.size) (i % s.size) j = true) => nbW_some (s := s) (a := a) (n := i) (j := j) (by rw [← hj]; exact hj4) (by rw [HNN.out]; exact hiN) hst)
              have HNO := Lib.hid (fun (hst : drv s a (i / s.size) (i % s.size) j = false) => nbW_none (s := s) (a := a) (n := i) (j := j) hst)
              have HRX := Lib.hid (show rnX s a true i = nbW s a i j by unfold rnX; rw [hj])
              have hjl : j < 4 := by rw [← hj]; exact hj4
              clear hj hj4
              generalize i / s.size = X1 at *
              generalize i % s.size = Y1 at *
              have t3 : (X1 : Int).tmod (s.size : Int) = ((X1 % s.size : Nat) : Int) := by rw [Int.tmod_eq_emod_of_nonneg (by omega)]; push_cast; rfl
              have t4 : X1 % s.size < s.size := Nat.mod_lt _ (by omega)
              generalize X1 % s.size = X3 at *
              have z6 : (0 : Int) ≤ (X3 : Int) := by omega
              have z7 : (X3 : Int) < (s.size : Int) := by omega
              have z2 : (0 : Int) ≤ (X1 : Int) := by omega
              have z3 : (X1 : Int) < (a.size : Int) := by omega
              have z4 : (0 : Int) ≤ (Y1 : Int) := by omega
              have z5 : (Y1 : Int) < (s.size : Int) := by omega
              cases hst : drv s a X1 Y1 j
              · have hnn := HNO.out hst
                obtain ⟨p, q, PP, hv, hPP, p1, p2, p3, p4, p5, p6⟩ := owV_f hst hu1 hu2 hW1 hH1 hjl
                rw [hv] at HST
                clear hst hv
                have HNN2 := Lib.hid hnn
                clear hnn
                go_wp2_with fail
                (refine wp_region_quiet_grown mixed (by kernel_rfl) ?_; (repeat (first | go_big_quiet_step ((first | (go_at_call 17; exact Calls.grown_of (HST.out _ (by repeat (first | exact Gr.refl _ | refine Gr.alloc ?_ _ | refine Gr.trans ?_ (by assumption) | refine Gr.drew ?_ | refine Gr.drewN ?_ _ | refine Gr.grow ?_ _ | refine Gr.setCell ?_ (by (try simp); (try omega)) _)))))) | quiet_step ((first | (go_at_call 17; exact Calls.grown_of (HST.out _ (by repeat (first | exact Gr.refl _ | refine Gr.alloc ?_ _ | refine Gr.trans ?_ (by assumption) | refine Gr.drew ?_ | refine Gr.drewN ?_ _ | refine Gr.grow ?_ _ | refine Gr.setCell ?_ (by (try simp); (try omega)) _)))))))); refine wpQuiet_nil ?_; intro _ hw'; obtain ⟨⟨nq, osq⟩, hw''⟩ := hw'; subst hw'')
                go_wp2_with fail
                have gg : Gr wr (Go.Sort.grow (wr.drewN nq) osq) := Gr.grow (Gr.drewN (Gr.refl wr) nq) osq
                go_roundw
                case rel =>
                  exact ⟨b, i + 1, R2, rfl, by go_num, by omega, HRI.out.skip (fun v _ h => by rw [HRX.out, HNN2.out] at h; cases h), HO2.out.grown1 gg, grownBy.trans HG2.out (gg.grownBy _)⟩
                case measure => simp [intOf]; omega
              · obtain ⟨m, hnn, hmN, hmx, hmy, hme⟩ := HNS.out hst
                rw [HNN.out] at hmN
                rw [owV_t hst, ← hmx, ← hmy] at HST
                have HNX := Lib.hid (HRX.out.trans hnn)
                clear hst hnn hmx hmy hme
                have hPi2 : ((m / s.size : Nat) : Int) * (s.size : Int) = ((m / s.size * s.size : Nat) : Int) := by push_cast; rfl
                have hdm2 : s.size * (m / s.size) + m % s.size = m := Nat.div_add_mod m s.size
                rw [Nat.mul_comm] at hdm2
                generalize m / s.size = U at *
                generalize m % s.size = V at *
                generalize U * s.size = P2 at *
                have hsP2 : (P2 : Int) + (V : Int) = (m : Int) := by omega
                have b3 : P2 ≤ 64 := by omega
                have b4 : V ≤ 64 := by omega
                have zm0 : (0 : Int) ≤ (m : Int) := by omega
                have zm1 : (m : Int) < (N : Int) := by omega
                obtain ⟨cm, cf⟩ := HO2.out.at m hmN
                have r0 := gr_all (Gr.refl wr) cm
                have r2 := gr_all_f (Gr.refl wr) HO2.out.lt.2 cf
                have HMN := Lib.hid hmN
                clear cm cf hdm2
                cases hRm : R2 m
                · rw [hRm] at r0
                  go_wp2_with fail
                  (refine wp_region_quiet_grown mixed (by kernel_rfl) ?_; (repeat (first | go_big_quiet_step ((first | (go_at_call 17; exact Calls.grown_of (HST.out _ (by repeat (first | exact Gr.refl _ | refine Gr.alloc ?_ _ | refine Gr.trans ?_ (by assumption) | refine Gr.drew ?_ | refine Gr.drewN ?_ _ | refine Gr.grow ?_ _ | refine Gr.setCell ?_ (by (try simp); (try omega)) _)))))) | quiet_step ((first | (go_at_call 17; exact Calls.grown_of (HST.out _ (by repeat (first | exact Gr.refl _ | refine Gr.alloc ?_ _ | refine Gr.trans ?_ (by assumption) | refine Gr.drew ?_ | refine Gr.drewN ?_ _ | refine Gr.grow ?_ _ | refine Gr.setCell ?_ (by (try simp); (try omega)) _)))))))); refine wpQuiet_nil ?_; intro _ hw'; obtain ⟨⟨nq, osq⟩, hw''⟩ := hw'; subst hw'')
                  go_wp2_with fail
                  have gg : Gr wr (Go.Sort.grow (wr.drewN nq) osq) := Gr.grow (Gr.drewN (Gr.refl wr) nq) osq
                  go_roundw
                  case rel =>
                    exact ⟨true, i + 1, _, rfl, by go_num, by omega, HRI.out.add hiN hR2 HNX.out HMN.out hRm, (HO2.out.grown1 gg).set m true, grownBy_setCell (grownBy.trans HG2.out (gg.grownBy _))⟩
                  case measure => simp [intOf]; omega
                · rw [hRm] at r0
                  go_wp2_with fail
                  (refine wp_region_quiet_grown mixed (by kernel_rfl) ?_; (repeat (first | go_big_quiet_step ((first | (go_at_call 17; exact Calls.grown_of (HST.out _ (by repeat (first | exact Gr.refl _ | refine Gr.alloc ?_ _ | refine Gr.trans ?_ (by assumption) | refine Gr.drew ?_ | refine Gr.drewN ?_ _ | refine Gr.grow ?_ _ | refine Gr.setCell ?_ (by (try simp); (try omega)) _)))))) | quiet_step ((first | (go_at_call 17; exact Calls.grown_of (HST.out _ (by repeat (first | exact Gr.refl _ | refine Gr.alloc ?_ _ | refine Gr.trans ?_ (by assumption) | refine Gr.drew ?_ | refine Gr.drewN ?_ _ | refine Gr.grow ?_ _ | refine Gr.setCell ?_ (by (try simp); (try omega)) _)))))))); refine wpQuiet_nil ?_; intro _ hw'; obtain ⟨⟨nq, osq⟩, hw''⟩ := hw'; subst hw'')
                  go_wp2_with fail
                  have gg : Gr wr (Go.Sort.grow (wr.drewN nq) osq) := Gr.grow (Gr.drewN (Gr.refl wr) nq) osq
                  go_roundw
                  case rel =>
                    exact ⟨b, i + 1, R2, rfl, by go_num, by omega, HRI.out.skip (fun v _ h => by rw [HNX.out] at h; cases h; exact hRm), HO2.out.grown1 gg, grownBy.trans HG2.out (gg.grownBy _)⟩
                  case measure => simp [intOf]; omega
        · obtain rfl : i = N := by omega
          clear hri ho2 hg2
          have z1 : ¬ (i : Int) < (i : Int) := by omega
          go_wp2_with fail
          go_roundg (mzR i b R2 + 1)
          case rel => exact ⟨b, R2, rfl, Nat.lt_succ_self _, HRI.out.r, fun e => (HRI.out.no e).2, HO2.out, HG2.out⟩
          case measure =>
            have h1 := HMZ.out
            have h2 := trs_le R2 i
            have h3 := HRI.out.yes
            unfold mzR at h1 ⊢
            cases b
            · simp at h1 ⊢; omega
            · have := h3 rfl
              simp at h1 ⊢; omega
end Go.Proofs
