/-
  Contracts of chapter 4: the first one of the shortest ways (the program).
-/
import Derived.Test.YtnpkhoiblemodaaAvU
namespace Go.Proofs
open Go.RowKit Av Gm Go.Maps
set_option linter.unusedVariables false
set_option linter.unusedSimpArgs false
theorem ownsMap_below {H : Type} {P : Program} {k : TypeId} {R : Value → Option (DataW H × List MemPlace)} {b n : Nat} {D : DataW H} {w w' : World} (h : w.ownsMap P k R b n D) (g : Below w.heap.size w w') : w'.ownsMap P k R b n D :=
  h.kept ⟨g.os, g.tape, g.output, g.size, fun k hk _ => g.block k hk⟩ (row := none) (by simp)
def Try.FwR (F : Nat → Int) (Hn : Nat) (nb : Nat → Nat → Option Nat) (s0 d : Nat) (W3 : World) (gk : Nat) (ov pv : Value) (wr : World) : Prop :=
  ∃ k bk, k + gk = d ∧ ov = .string (wsB (stW nb F s0 k).2) ∧ pv = .pointer (some ⟨bk, 0, none⟩) ∧ W3.heap.size ≤ bk ∧ wr.cell? ⟨bk, 0, none⟩ = some (.int .i64 (crn Hn (stW nb F s0 k).1).1) ∧ wr.cell? ⟨bk, 1, none⟩ = some (.int .i64 (crn Hn (stW nb F s0 k).1).2) ∧
    wr.frozen? ⟨bk, 0, none⟩ = false ∧ wr.frozen? ⟨bk, 1, none⟩ = false ∧ Below W3.heap.size W3 wr
set_option maxRecDepth 100000 in
set_option maxHeartbeats 4000000 in
theorem Try.iFirstShortestWay (w : World) (W H : Int) (B : Nat) (a : Value) (ps : List Blk) (Ba : Nat) (la : Value) (xs : List Int) (Bb : Nat) (lb : Value) (ys : List Int) (v : ByteArray) (b : Bool) (hv : fwV W H ps xs ys = v) (hb : cdB W H ps xs ys = b) (hl : ps.length ≤ 1048576) (h : OwnB w B a ps) (hla : OwnI w Ba la xs) (hlb : OwnI w Bb lb ys) :
    Calls Try.prog 41 #[.agg #[.int .i64 W, .int .i64 H, a], la, lb] w fun e w' => e = .returned (.tuple #[.string v, .bool b]) ∧ Below w.heap.size w w' := by
  have mixed : Try.prog.follows .mixedOrders = true := by kernel_rfl
  subst hv hb
  obtain ⟨A, c, rfl, h⟩ := OwnE.eta h
  obtain ⟨b1, h1⟩ : ∃ b1, okB W H ps = b1 := ⟨_, rfl⟩
  obtain ⟨b2, h2⟩ : ∃ b1, isC W H xs = b1 := ⟨_, rfl⟩
  obtain ⟨b3, h3⟩ : ∃ b1, isC W H ys = b1 := ⟨_, rfl⟩
  have HA := Lib.hid (fun (X : World) (g : Gr w X) => Try.twoCornersOf X W H B _ ps Ba la xs Bb lb ys b1 b2 b3 h1 h2 h3 hl (h.gr g) (hla.gr g) (hlb.gr g))
  cases hall : (b1 && b2 && b3)
  · have e1 : cdB W H ps xs ys = false := by unfold cdB; rw [h1, h2, h3, hall]; rfl
    have e2 : fwV W H ps xs ys = ⟨#[]⟩ := by unfold fwV; rw [e1]; rfl
    rw [e1, e2]
    rw [hall] at HA
    unfold coV at HA
    generalize coX (b1 && b2) xs = x1 at *
    generalize coY (b1 && b2) xs = y1 at *
    generalize coX (b1 && b3) ys = x2 at *
    generalize coY (b1 && b3) ys = y2 at *
    clear h hla hlb h1 h2 h3 hall e1 e2
    go_enter Try.func41, Try.ntmps41
    go_wp2_with (first | (go_at_call 60; refine (HA.out _ (by repeat (first | exact Gr.refl _ | refine Gr.alloc ?_ _ | refine Gr.trans ?_ (by assumption) | refine Gr.drew ?_ | refine Gr.drewN ?_ _ | refine Gr.grow ?_ _ | refine Gr.setCell ?_ (by (try simp); (try omega)) _))).mono ?_; rintro e w1 ⟨rfl, hbW⟩; have hcW := (bcell hbW.below).1; have hfW := (bcell hbW.below).2; (try have hzW : w.heap.size < w1.heap.size := by have hq := hbW.below.size; (try simp at hq); omega); (try have hyW : w.heap.size + 1 < w1.heap.size := by have hq := hbW.below.size; (try simp at hq); omega); (try have hxW : w.heap.size + 2 < w1.heap.size := by have hq := hbW.below.size; (try simp at hq); omega)))
    go_ret2
    exact ⟨rfl, Gr.below (by repeat (first | exact Gr.refl _ | refine Gr.alloc ?_ _ | refine Gr.trans ?_ (by assumption) | refine Gr.drew ?_ | refine Gr.drewN ?_ _ | refine Gr.grow ?_ _ | refine Gr.setCell ?_ (by (try simp); (try omega)) _))⟩
  · simp only [Bool.and_eq_true] at hall
    obtain ⟨⟨rfl, rfl⟩, rfl⟩ := hall
    obtain ⟨o1, o2, o3, o4, _, _, o7⟩ := of_decide_eq_true h1
    obtain ⟨p1, p2⟩ := isC_vtx h2 ⟨o1, o2⟩ ⟨o3, o4⟩
    obtain ⟨r1, r2⟩ := isC_vtx h3 ⟨o1, o2⟩ ⟨o3, o4⟩
    have hd : cdI W H ps xs ys = dst W.toNat H.toNat ps (xs.getD 0 0 * H + xs.getD 1 0).toNat (ys.getD 0 0 * H + ys.getD 1 0).toNat := rfl
    have e1 : cdB W H ps xs ys = decide (0 ≤ cdI W H ps xs ys) := by unfold cdB; rw [h1, h2, h3]; rfl
    have e2 : fwV W H ps xs ys = if decide (0 ≤ cdI W H ps xs ys) = true then fwW W H ps xs ys else ⟨#[]⟩ := by unfold fwV; rw [e1]
    rw [e1, e2]
    unfold fwW
    rw [hd]
    unfold coV coX coY at HA
    simp only [Bool.and_self, if_true] at HA
    generalize (xs.getD 0 0 * H + xs.getD 1 0).toNat = s0 at *
    generalize (ys.getD 0 0 * H + ys.getD 1 0).toNat = t0 at *
    obtain ⟨Wn, rfl⟩ : ∃ Wn : Nat, W = Wn := ⟨W.toNat, by omega⟩
    obtain ⟨Hn, rfl⟩ : ∃ Hn : Nat, H = Hn := ⟨H.toNat, by omega⟩
    simp only [Int.toNat_natCast] at *
    subst p2 r2
    simp only [List.getD_cons_zero, List.getD_cons_succ] at HA
    have HR := Lib.hid (fun (X : World) (g : Below w.heap.size w X) => Try.reachedFrom X Wn Hn B _ ps t0 (by omega) (by omega) o7 r1 hl (OwnE.below h g (Nat.le_refl _)))
    have HO := Lib.hid (fun (X : World) b n D (hown : X.ownsMap Try.prog 66 rElem b n D) (hM : MapIs Hn (Wn * Hn) D (fin (nbC Wn Hn ps) (Wn * Hn) t0)) (W' : World) (g : Gr X W') => Try.lookOk (w := X) (Wn := Wn) (by omega) (by omega) hown hM p1 W' g)
    have HLF := Lib.hid (fun (X : World) b n D (m : Nat) hm h0 (hown : X.ownsMap Try.prog 66 rElem b n D) (hM : MapIs Hn (Wn * Hn) D (fin (nbC Wn Hn ps) (Wn * Hn) t0)) (W' : World) (g : Gr X W') => Try.lookF (w := X) (Wn := Wn) (n := m) (by omega) (by omega) hown hM hm h0 W' g)
    have hbd := dst_bd (ps := ps) p1 r1
    have hsym := dst_sym (ps := ps) p1 r1
    have hF0 : dst Wn Hn ps t0 s0 = f (fin (nbC Wn Hn ps) (Wn * Hn) t0) s0 := rfl
    have hFD := fin_dist (@nb_valid Wn Hn ps) r1
    have HSTP := Lib.hid (fun (X : World) (g : Below w.heap.size w X) (u j : Nat) (hj : j < 4) (hu : onC Wn Hn (((u / Hn : Nat) : Int), ((u % Hn : Nat) : Int))) => Try.iStep X Wn Hn B _ ps _ _ j hj (by omega) (by omega) o7 hu hl (OwnE.below h g (Nat.le_refl _)))
    have HINV := Lib.hid (stW_inv (@nb_valid Wn Hn ps) (@nb_sym Wn Hn ps) hFD p1)
    have HEX := Lib.hid (fun (u : Nat) hu h0 => cnd_ex (@nb_valid Wn Hn ps) (@nb_sym Wn Hn ps) hFD (u := u) hu h0)
    have HNBS := Lib.hid (fun (n j : Nat) hj hn hh => @nb_some Wn Hn ps n j hj hn hh)
    have HNBN := Lib.hid (fun (n j : Nat) hh => @nb_none Wn Hn ps n j hh)
    have HON := Lib.hid (fun (u : Nat) hu => @on_idx Wn Hn u hu)
    have HSY := Lib.hid (@nb_sym Wn Hn ps)
    have HFD := Lib.hid hFD
    have hN : Wn * Hn ≤ 64 := Nat.mul_le_mul (show Wn ≤ 8 by omega) (show Hn ≤ 8 by omega)
    have hN' : (Wn : Int) * Hn = ((Wn * Hn : Nat) : Int) := by push_cast; rfl
    have hFS : dst Wn Hn ps s0 t0 = f (fin (nbC Wn Hn ps) (Wn * Hn) t0) s0 := by rw [hsym, hF0]
    obtain ⟨vB, hvB⟩ : ∃ vB, decide (0 ≤ dst Wn Hn ps s0 t0) = vB := ⟨_, rfl⟩
    rw [hvB]
    rw [hFS] at hbd hvB ⊢
    generalize fin (nbC Wn Hn ps) (Wn * Hn) t0 = fn at *
    generalize hFF : f fn = F at *
    clear h hla hlb h1 h2 h3 e1 e2 hd hsym hF0 hFD hFS
    obtain ⟨x1, hx1⟩ : ∃ x, (crn Hn s0).1 = x := ⟨_, rfl⟩
    obtain ⟨y1, hy1⟩ : ∃ x, (crn Hn s0).2 = x := ⟨_, rfl⟩
    obtain ⟨x2, hx2⟩ : ∃ x, (crn Hn t0).1 = x := ⟨_, rfl⟩
    obtain ⟨y2, hy2⟩ : ∃ x, (crn Hn t0).2 = x := ⟨_, rfl⟩
    have HX := Lib.hid (And.intro (And.intro hx1 hy1) (And.intro hx2 hy2))
    simp only [hx1, hy1, hx2, hy2] at HA HR HO
    clear hx1 hy1 hx2 hy2
    rw [hvB] at HO
    by_cases hz : F s0 < 0
    · have e1 : vB = false := by rw [← hvB]; exact decide_eq_false (by omega)
      subst e1
      rw [if_neg (by omega), if_neg (by omega)] at HO
      go_enter Try.func41, Try.ntmps41
      go_wp2_with (first | (go_at_call 60; refine (HA.out _ (by repeat (first | exact Gr.refl _ | refine Gr.alloc ?_ _ | refine Gr.trans ?_ (by assumption) | refine Gr.drew ?_ | refine Gr.drewN ?_ _ | refine Gr.grow ?_ _ | refine Gr.setCell ?_ (by (try simp); (try omega)) _))).mono ?_; rintro e w1 ⟨rfl, hbW⟩; have hcW := (bcell hbW.below).1; have hyW : w.heap.size < w1.heap.size := (by have hq := hbW.below.size; simp at hq; omega)) | (go_at_call 44; refine (HR.out _ (Gr.below (show Gr w _ from (by repeat (first | exact Gr.refl _ | refine Gr.alloc ?_ _ | refine Gr.trans ?_ (by assumption) | refine Gr.drew ?_ | refine Gr.drewN ?_ _ | refine Gr.grow ?_ _ | refine Gr.setCell ?_ (by (try simp); (try omega)) _))))).mono ?_; rintro e w3 ⟨b3, n3, D3, rfl, hown3, hM3, hb3⟩; have hlk0 := HO.out _ b3 n3 D3 hown3 hM3 w3 (Gr.refl _); have k3 := cell_k2 hb3 (show ((w1.alloc (.cells #[.int .i64 x1, .int .i64 y1] 66)).alloc (.cells #[.int .i64 x2, .int .i64 y2] 66)).cell? ⟨w1.heap.size, 0, none⟩ = some (.int .i64 x1) by simp [go_sem]); have k4 := cell_k2 hb3 (show ((w1.alloc (.cells #[.int .i64 x1, .int .i64 y1] 66)).alloc (.cells #[.int .i64 x2, .int .i64 y2] 66)).cell? ⟨w1.heap.size, 1, none⟩ = some (.int .i64 y1) by simp [go_sem])))
      go_ret2
      refine ⟨rfl, Below.alloc (Below.trans (show Gr w _ from ?_).below (hb3.mono (show Gr w _ from ?_).below.size)) (Nat.le_trans (show Gr w _ from ?_).below.size hb3.size) _⟩
      all_goals exact by repeat (first | exact Gr.refl _ | refine Gr.alloc ?_ _ | refine Gr.trans ?_ (by assumption) | refine Gr.drew ?_ | refine Gr.drewN ?_ _ | refine Gr.grow ?_ _ | refine Gr.setCell ?_ (by (try simp); (try omega)) _)
    · have e1 : vB = true := by rw [← hvB]; exact decide_eq_true (by omega)
      subst e1
      rw [if_pos (by omega), if_pos (by omega)] at HO
      rw [if_pos rfl]
      obtain ⟨d, hdd⟩ : ∃ d : Nat, F s0 = d := ⟨(F s0).toNat, by omega⟩
      have HDD := Lib.hid hdd
      have hdN : d ≤ 64 := by omega
      rw [hdd] at HO ⊢
      rw [Int.toNat_natCast]
      go_enter Try.func41, Try.ntmps41
      go_wp2_with (first | (go_at_call 60; refine (HA.out _ (by repeat (first | exact Gr.refl _ | refine Gr.alloc ?_ _ | refine Gr.trans ?_ (by assumption) | refine Gr.drew ?_ | refine Gr.drewN ?_ _ | refine Gr.grow ?_ _ | refine Gr.setCell ?_ (by (try simp); (try omega)) _))).mono ?_; rintro e w1 ⟨rfl, hbW⟩; have hcW := (bcell hbW.below).1; have hyW : w.heap.size < w1.heap.size := (by have hq := hbW.below.size; simp at hq; omega)) | (go_at_call 44; refine (HR.out _ (Gr.below (show Gr w _ from (by repeat (first | exact Gr.refl _ | refine Gr.alloc ?_ _ | refine Gr.trans ?_ (by assumption) | refine Gr.drew ?_ | refine Gr.drewN ?_ _ | refine Gr.grow ?_ _ | refine Gr.setCell ?_ (by (try simp); (try omega)) _))))).mono ?_; rintro e w3 ⟨b3, n3, D3, rfl, hown3, hM3, hb3⟩; have hlk0 := HO.out _ b3 n3 D3 hown3 hM3 w3 (Gr.refl _); have k3 := cell_k2 hb3 (show ((w1.alloc (.cells #[.int .i64 x1, .int .i64 y1] 66)).alloc (.cells #[.int .i64 x2, .int .i64 y2] 66)).cell? ⟨w1.heap.size, 0, none⟩ = some (.int .i64 x1) by simp [go_sem]); have k4 := cell_k2 hb3 (show ((w1.alloc (.cells #[.int .i64 x1, .int .i64 y1] 66)).alloc (.cells #[.int .i64 x2, .int .i64 y2] 66)).cell? ⟨w1.heap.size, 1, none⟩ = some (.int .i64 y1) by simp [go_sem]); have k5 := cell_k2 hb3 (show ((w1.alloc (.cells #[.int .i64 x1, .int .i64 y1] 66)).alloc (.cells #[.int .i64 x2, .int .i64 y2] 66)).cell? ⟨w1.heap.size + 1, 0, none⟩ = some (.int .i64 x2) by simp [go_sem]); have k6 := cell_k2 hb3 (show ((w1.alloc (.cells #[.int .i64 x1, .int .i64 y1] 66)).alloc (.cells #[.int .i64 x2, .int .i64 y2] 66)).cell? ⟨w1.heap.size + 1, 1, none⟩ = some (.int .i64 y2) by simp [go_sem]); have hs3 := hb3.size; simp at hs3; have hw13 : w1.heap.size < w3.heap.size := (by omega)))
      have gX : Gr (w.alloc (.cells #[.int .i64 Wn, .int .i64 Hn, .slice A ps.length c] 30)) ((w1.alloc (.cells #[.int .i64 x1, .int .i64 y1] 66)).alloc (.cells #[.int .i64 x2, .int .i64 y2] 66)) := (by repeat (first | exact Gr.refl _ | refine Gr.alloc ?_ _ | refine Gr.trans ?_ (by assumption) | refine Gr.drew ?_ | refine Gr.drewN ?_ _ | refine Gr.grow ?_ _ | refine Gr.setCell ?_ (by (try simp); (try omega)) _))
      have hB3 : Below w.heap.size w w3 := Below.trans (show Gr w ((w1.alloc (.cells #[.int .i64 x1, .int .i64 y1] 66)).alloc (.cells #[.int .i64 x2, .int .i64 y2] 66)) from Gr.trans (Gr.alloc (Gr.refl _) _) gX).below (hb3.mono (show Gr w ((w1.alloc (.cells #[.int .i64 x1, .int .i64 y1] 66)).alloc (.cells #[.int .i64 x2, .int .i64 y2] 66)) from Gr.trans (Gr.alloc (Gr.refl _) _) gX).below.size)
      have HK := Lib.hid (And.intro (cell_k2 hb3 (gX.keep0 (show (w.alloc (.cells #[.int .i64 Wn, .int .i64 Hn, .slice A ps.length c] 30)).cell? ⟨w.heap.size, 0, none⟩ = some (.int .i64 Wn) by simp [go_sem]))) (And.intro (cell_k2 hb3 (gX.keep0 (show (w.alloc (.cells #[.int .i64 Wn, .int .i64 Hn, .slice A ps.length c] 30)).cell? ⟨w.heap.size, 1, none⟩ = some (.int .i64 Hn) by simp [go_sem]))) (cell_k2 hb3 (gX.keep0 (show (w.alloc (.cells #[.int .i64 Wn, .int .i64 Hn, .slice A ps.length c] 30)).cell? ⟨w.heap.size, 2, none⟩ = some (.slice A ps.length c) by simp [go_sem])))))
      have HT := Lib.hid (And.intro k5 k6)
      have HOWN := Lib.hid hown3
      have HM3 := Lib.hid hM3
      have HB3 := Lib.hid hB3
      clear hlk0 k3 k4 k5 k6 hown3 hM3 hB3 hb3 gX hbW hcW HO HA HR
      go_loopg [14, 15] d (fun gk ov pv wr => Try.FwR F Hn (nbC Wn Hn ps) s0 d w3 gk ov pv wr)
      case atStart =>
        refine ⟨0, w3.heap.size + 1, by omega, rfl, rfl, by omega, ?_, ?_, by simp [go_sem], by simp [go_sem], (Gr.alloc (Gr.alloc (Gr.refl _) _) _).below⟩
        · rw [show (stW (nbC Wn Hn ps) F s0 0).1 = s0 from rfl, HX.out.1.1]; simp [go_sem]
        · rw [show (stW (nbC Wn Hn ps) F s0 0).1 = s0 from rfl, HX.out.1.2]; simp [go_sem]
      case round =>
        obtain ⟨k, bk, hk, rfl, rfl, hbk, hx, hy, hf0, hf1, hb⟩ := hrel
        obtain ⟨u1, u2, u3, u4⟩ := HINV.out k (by rw [HDD.out]; omega)
        rw [HDD.out] at u2
        have q5 := cell_k2 hb HT.out.1
        have q6 := cell_k2 hb HT.out.2
        by_cases hkd : k < d
        · have hne : (crn Hn (stW (nbC Wn Hn ps) F s0 k).1).1 ≠ x2 ∨ (crn Hn (stW (nbC Wn Hn ps) F s0 k).1).2 ≠ y2 := by
            refine Decidable.byContradiction fun hc => ?_
            have e1 : crn Hn (stW (nbC Wn Hn ps) F s0 k).1 = crn Hn t0 := Prod.ext (by rw [HX.out.2.1]; exact Decidable.byContradiction fun z => hc (.inl z)) (by rw [HX.out.2.2]; exact Decidable.byContradiction fun z => hc (.inr z))
            have e2 := crn_inj e1
            rw [e2, HFD.out.f0] at u2
            omega
          have hE := fun (X : World) => Try.eqlC (crn Hn (stW (nbC Wn Hn ps) F s0 k).1).1 (crn Hn (stW (nbC Wn Hn ps) F s0 k).1).2 x2 y2 X
          rw [decide_eq_false (by simp only [Prod.mk.injEq]; omega)] at hE
          have HU1 := Lib.hid u1
          have HU2 := Lib.hid u2
          have HNX := Lib.hid (fun j v h1 h2 => @stW_succ (nbC Wn Hn ps) F s0 k j v h1 h2)
          generalize hst : stW (nbC Wn Hn ps) F s0 k = st at *
          obtain ⟨u, l⟩ := st
          simp only at u1 u2 u3 u4 HU1 HU2 HNX hx hy hne hE ⊢
          have HBX := Lib.hid hb
          have HAT := Lib.hid (And.intro (And.intro hx hy) (And.intro hf0 hf1))
          clear hst hne
          go_wp2_with fail
          clear q5 q6 hx hy hf0 hf1 hb hE
          rename World => wo
          have hbo : bk < wo.heap.size := World.block_lt_of_cell? _ _ HAT.out.1.1
          have hso := HBX.out.size
          have GI : Gr wo (wo.iter sgB 0) := Gr.alloc (Gr.refl _) _
          go_loopg [14] 4 (fun gk ov wi => ∃ j, j + gk = 4 ∧ ov = .string (wsB l) ∧ (∀ i, i < j → cnd (nbC Wn Hn ps) F u i = false) ∧ wi.heap[wo.heap.size]? = some (.stringIter sgB j) ∧
            ((wi.cell? ⟨bk, 0, none⟩ = some (.int .i64 (crn Hn u).1) ∧ wi.cell? ⟨bk, 1, none⟩ = some (.int .i64 (crn Hn u).2)) ∧ wi.frozen? ⟨bk, 0, none⟩ = false ∧ wi.frozen? ⟨bk, 1, none⟩ = false) ∧ Below w3.heap.size w3 wi)
          case atStart =>
            refine ⟨0, rfl, rfl, fun i hi => absurd hi (Nat.not_lt_zero _), World.iter_heap wo sgB 0, ⟨⟨GI.keep0 HAT.out.1.1, GI.keep0 HAT.out.1.2⟩, ?_, ?_⟩, HBX.out.trans (GI.below.mono HBX.out.size)⟩
            · exact ((bcell GI.below).2 _ _ hbo).trans HAT.out.2.1
            · exact ((bcell GI.below).2 _ _ hbo).trans HAT.out.2.2
          case round =>
            obtain ⟨j, hjg, rfl, hno, hit, hat, hb⟩ := hrel
            have hsz := (Array.getElem?_eq_some_iff.1 hit).1
            by_cases hj : j < 4
            · have hnx : ∀ ty, (Instr.next (.pointer (some ⟨wo.heap.size, 0, none⟩)) true ty).run Try.prog wr = .ok (.tuple #[.bool true, .int .i64 j, .int .i32 (sgn j)]) (wr.iterAt wo.heap.size sgB (j + 1)) := fun ty => by
                have := Go.Lib.run_next_ascii_at (P := Try.prog) wr wo.heap.size sgB j ty hit hj (sgB_lt ⟨j, hj⟩)
                rw [this]
                exact congrArg (fun z => Result.ok (Value.tuple #[.bool true, .int .i64 j, .int .i32 z]) (wr.iterAt wo.heap.size sgB (j + 1))) (sgB_at ⟨j, hj⟩)
              obtain ⟨wi, hwi⟩ : ∃ wi, wr.iterAt wo.heap.size sgB (j + 1) = wi := ⟨_, rfl⟩
              have hitw : wi.heap[wo.heap.size]? = some (.stringIter sgB (j + 1)) := by rw [← hwi]; exact Go.Lib.iterAt_heap wr _ sgB j (j + 1) hit
              have hgi : wr.grownBy wi (some wo.heap.size) := by rw [← hwi]; exact iter_grown
              have hbi : Below w3.heap.size w3 wi := by rw [← hwi]; exact Go.Lib.below_iterAt hb (by omega) _ _
              rw [hwi] at hnx
              have ha0 := hgi.cell hat.1.1 (by simp; omega)
              have ha1 := hgi.cell hat.1.2 (by simp; omega)
              have hf0 : wi.frozen? ⟨bk, 0, none⟩ = false := (World.frozen?_of_block (a := ⟨bk, 0, none⟩) (hgi.block bk (World.block_lt_of_cell? _ _ hat.1.1) (by simp; omega))).trans hat.2.1
              have hf1 : wi.frozen? ⟨bk, 1, none⟩ = false := (World.frozen?_of_block (a := ⟨bk, 1, none⟩) (hgi.block bk (World.block_lt_of_cell? _ _ hat.1.1) (by simp; omega))).trans hat.2.2
              have c0 := cell_k2 hbi HK.out.1
              have c1 := cell_k2 hbi HK.out.2.1
              have c2 := cell_k2 hbi HK.out.2.2
              have HBI := Lib.hid hbi
              have HBW := Lib.hid (HB3.out.trans (hbi.mono HB3.out.size))
              have HST := Lib.hid (fun (X : World) (hX : Gr wi X) => HSTP.out X (HBW.out.trans (hX.below.mono HBW.out.size)) u j hj (HON.out u HU1.out))
              have HAI := Lib.hid (And.intro (And.intro ha0 ha1) (And.intro hf0 hf1))
              have HIT := Lib.hid hitw
              have HNO := Lib.hid hno
              have hbw : bk < wi.heap.size := World.block_lt_of_cell? _ _ ha0
              have hsw : wo.heap.size < wi.heap.size := (Array.getElem?_eq_some_iff.1 hitw).1
              have hsb := sgn_bd j
              have henc := enc_sgn ⟨j, hj⟩
              simp only at henc
              obtain ⟨sj, hsj⟩ : ∃ s, sgn j = s := ⟨_, rfl⟩
              rw [hsj] at hnx HST hsb henc
              have hsb1 := hsb.1
              have hsb2 := hsb.2
              clear hno hit hat hb hwi hitw hgi hbi ha0 ha1 hf0 hf1 hsb hsj
              cases hstp : stp Wn Hn ps (((u / Hn : Nat) : Int), ((u % Hn : Nat) : Int)) j
              · have HC := Lib.hid (cnd_none (F := F) (HNBN.out u j hstp))
                obtain ⟨p, q, hv⟩ := itV_none hstp
                rw [hv] at HST
                change Hid (∀ (X : World), Gr wi X → Calls Try.prog 42 #[.agg #[.int .i64 Wn, .int .i64 Hn, .slice A ps.length c], .agg #[.int .i64 (crn Hn u).1, .int .i64 (crn Hn u).2], .int .i32 sj] X fun e w' => e = .returned (.tuple #[.agg #[.int .i64 p, .int .i64 q], .bool false]) ∧ Gr X w') at HST
                have a0 := HAI.out.1.1
                have a1 := HAI.out.1.2
                clear hstp hv henc
                go_wp2_with (first | (go_at_call 42; refine (HST.out _ (Gr.refl _)).mono ?_; rintro e w6 ⟨rfl, hg6⟩))
                (refine wp_region_quiet_grown mixed (by kernel_rfl) ?_; (repeat (first | go_big_quiet_step ((fail)) | quiet_step ((fail)))); refine wpQuiet_nil ?_; intro _ hw'; obtain ⟨⟨nq, osq⟩, hw''⟩ := hw'; subst hw'')
                go_wp2_with fail
                have gE : Gr wi (Go.Sort.grow ((w6.alloc (.cells #[.int .i64 p, .int .i64 q] 66)).drewN nq) osq) := Gr.grow (Gr.drewN (Gr.alloc hg6 _) _) _
                go_roundg (gk - 1)
                case rel =>
                  refine ⟨j + 1, by omega, rfl, fun i hi => ?_, ?_, ⟨⟨gE.keep0 HAI.out.1.1, gE.keep0 HAI.out.1.2⟩, ?_, ?_⟩, HBI.out.trans (gE.below.mono HBI.out.size)⟩
                  · rcases Nat.lt_or_eq_of_le (Nat.le_of_lt_succ hi) with q | q
                    · exact HNO.out i q
                    · rw [q]; exact HC.out
                  · rw [gE.below.block _ hsw]; exact HIT.out
                  · exact ((bcell gE.below).2 _ _ hbw).trans HAI.out.2.1
                  · exact ((bcell gE.below).2 _ _ hbw).trans HAI.out.2.2
                case measure => omega
              · obtain ⟨m, hnn, hmN, hmx, hmy, hme⟩ := HNBS.out u j hj HU1.out hstp
                rw [itV_some hstp, ← hmx, ← hmy] at HST
                change Hid (∀ (X : World), Gr wi X → Calls Try.prog 42 #[.agg #[.int .i64 Wn, .int .i64 Hn, .slice A ps.length c], .agg #[.int .i64 (crn Hn u).1, .int .i64 (crn Hn u).2], .int .i32 sj] X fun e w' => e = .returned (.tuple #[.agg #[.int .i64 (crn Hn m).1, .int .i64 (crn Hn m).2], .bool true]) ∧ Gr X w') at HST
                obtain ⟨f1, f2⟩ := HFD.out.re u j m HU1.out hj (by rw [HU2.out]; omega) hnn
                obtain ⟨j', hj', e'⟩ := HSY.out u j m HU1.out hj hnn
                have f3 := (HFD.out.re m j' u hmN hj' f1 e').2
                have HC := Lib.hid (cnd_some (F := F) hnn)
                have HNN := Lib.hid hnn
                have HLM := Lib.hid (fun (X : World) (hX : Gr wi X) => HLF.out wi b3 n3 D3 m hmN f1 (ownsMap_below HOWN.out HBI.out) HM3.out X hX)
                have HLU := Lib.hid (fun (X : World) (hX : Gr wi X) => HLF.out wi b3 n3 D3 u HU1.out (by rw [HU2.out]; omega) (ownsMap_below HOWN.out HBI.out) HM3.out X hX)
                have a0 := HAI.out.1.1
                have a1 := HAI.out.1.2
                have hF0 := Try.fieldR0
                clear hstp hnn hmx hmy hme e' hj'
                obtain ⟨cx, hcx⟩ : ∃ x, (crn Hn u).1 = x := ⟨_, rfl⟩
                obtain ⟨cy, hcy⟩ : ∃ x, (crn Hn u).2 = x := ⟨_, rfl⟩
                obtain ⟨mx, hmx⟩ : ∃ x, (crn Hn m).1 = x := ⟨_, rfl⟩
                obtain ⟨my, hmy⟩ : ∃ x, (crn Hn m).2 = x := ⟨_, rfl⟩
                rw [hcx, hcy, hmx, hmy] at HST
                rw [hmx, hmy] at HLM
                rw [hcx, hcy, HU2.out] at HLU
                rw [hcx] at a0
                rw [hcy] at a1
                have HMX := Lib.hid (And.intro hmx hmy)
                have HCX := Lib.hid (And.intro hcx hcy)
                rw [HU2.out] at f2 f3 HC
                clear hcx hcy hmx hmy
                by_cases hFm : F m = (d : Int) - k - 1
                · have hlt : F m < (d : Int) - k := by omega
                  have HPK := Lib.hid (pk_eq hj (by rw [HC.out]; exact decide_eq_true hFm) HNO.out)
                  have HS := Lib.hid (HNX.out j m HPK.out HNN.out)
                  have hsz : (wsB l).size ≤ 64 := by rw [wsB_size]; omega
                  have HWS := Lib.hid (wsB_snoc l j)
                  generalize wsB l = S at *
                  generalize sgU j = ch at *
                  have hz1 : (⟨#[ch]⟩ : ByteArray).size = 1 := rfl
                  have hadd := fun W => run_string_add (P := Try.prog) (w := W) S ⟨#[ch]⟩ (by omega) (by rw [hz1]; decide)
                  generalize F m = fm at *
                  clear hsz hz1 hFm
                  go_wp2_with (first | (go_at_call 42; refine (HST.out _ (Gr.refl _)).mono ?_; rintro e w6 ⟨rfl, hg6⟩; have n0 := gr_all (Gr.refl (w6.alloc (.cells #[.int .i64 mx, .int .i64 my] 66))) (show (w6.alloc (.cells #[.int .i64 mx, .int .i64 my] 66)).cell? ⟨w6.heap.size, 0, none⟩ = some (.int .i64 mx) by simp [go_sem]); have n1 := gr_all (Gr.refl (w6.alloc (.cells #[.int .i64 mx, .int .i64 my] 66))) (show (w6.alloc (.cells #[.int .i64 mx, .int .i64 my] 66)).cell? ⟨w6.heap.size, 1, none⟩ = some (.int .i64 my) by simp [go_sem]); have n2 := gr_all (Gr.alloc hg6 (.cells #[.int .i64 mx, .int .i64 my] 66)) a0; have n3 := gr_all (Gr.alloc hg6 (.cells #[.int .i64 mx, .int .i64 my] 66)) a1; have hlm := fun nn os => HLM.out (Go.Sort.grow ((w6.alloc (.cells #[.int .i64 mx, .int .i64 my] 66)).drewN nn) os) (Gr.grow (Gr.drewN (Gr.alloc hg6 _) nn) os); have hlu := fun nn os => HLU.out (Go.Sort.grow ((w6.alloc (.cells #[.int .i64 mx, .int .i64 my] 66)).drewN nn) os) (Gr.grow (Gr.drewN (Gr.alloc hg6 _) nn) os)))
                  (refine wp_region_quiet_grown mixed (by kernel_rfl) ?_; (repeat (first | go_big_quiet_step ((fail)) | quiet_step ((fail)))); refine wpQuiet_nil ?_; intro _ hw'; obtain ⟨⟨nq, osq⟩, hw''⟩ := hw'; subst hw'')
                  go_wp2_with fail
                  have gE : Gr wi (Go.Sort.grow ((w6.alloc (.cells #[.int .i64 mx, .int .i64 my] 66)).drewN nq) osq) := Gr.grow (Gr.drewN (Gr.alloc hg6 _) _) _
                  have o0 := n0 nq osq
                  have o1 := n1 nq osq
                  obtain ⟨wG, hwG⟩ : ∃ wG, Go.Sort.grow ((w6.alloc (.cells #[.int .i64 mx, .int .i64 my] 66)).drewN nq) osq = wG := ⟨_, rfl⟩
                  rw [hwG] at gE o0 o1
                  simp only [hwG]
                  have hs6 := hg6.below.size
                  clear hwG n0 n1 n2 n3 hlm hlu
                  have r0 := gr_all (Gr.refl wG) o0
                  have r1 := gr_all (Gr.refl wG) o1
                  (refine wp_region_grown_tail 6 mixed (by kernel_rfl) ?_; simp only [List.take_succ_cons, List.take_zero, List.drop_succ_cons, List.drop_zero]; (repeat (first | go_big_quiet_step ((fail)) | quiet_step ((fail)))); refine wpQuiet_nil ?_; intro _ hw'; obtain ⟨⟨nq, osq⟩, hw''⟩ := hw'; subst hw'')
                  have gH : Gr wi (Go.Sort.grow (wG.drewN nq) osq) := gE.trans (Gr.grow (Gr.drewN (Gr.refl wG) nq) osq)
                  obtain ⟨wH, hwH⟩ : ∃ wH, Go.Sort.grow (wG.drewN nq) osq = wH := ⟨_, rfl⟩
                  rw [hwH] at gH
                  simp only [hwH]
                  clear hwH r0 r1 o0 o1 gE
                  have t0' := gH.keep0 a0
                  have t1' := gH.keep0 a1
                  have t2' : wH.frozen? ⟨bk, 0, none⟩ = false := ((bcell gH.below).2 _ _ hbw).trans HAI.out.2.1
                  have t3' : wH.frozen? ⟨bk, 1, none⟩ = false := ((bcell gH.below).2 _ _ hbw).trans HAI.out.2.2
                  have g0 := World.cell?_setCell_same _ _ (.int .i64 mx) t0'
                  have g0' : ((wH.setCell ⟨bk, 0, none⟩ (.int .i64 mx)).setCell ⟨bk, 1, none⟩ (.int .i64 my)).cell? ⟨bk, 0, none⟩ = some (.int .i64 mx) := by
                    rw [World.cell?_setCell_other _ ⟨bk, 1, none⟩ ⟨bk, 0, none⟩ _ (by simp)]; exact g0
                  have g1' : ((wH.setCell ⟨bk, 0, none⟩ (.int .i64 mx)).setCell ⟨bk, 1, none⟩ (.int .i64 my)).cell? ⟨bk, 1, none⟩ = some (.int .i64 my) := World.cell?_setCell_same _ _ (.int .i64 my) (by
                    rw [World.cell?_setCell_other _ ⟨bk, 0, none⟩ ⟨bk, 1, none⟩ _ (by simp)]; exact t1')
                  clear g0
                  go_wp2_with fail
                  have HGH := Lib.hid gH
                  clear g0' g1' t0' t1' t2' t3' gH
                  go_roundg (d - (k + 1))
                  case rel =>
                    have hbz : Below w3.heap.size w3 ((wH.setCell ⟨bk, 0, none⟩ (.int .i64 mx)).setCell ⟨bk, 1, none⟩ (.int .i64 my)) := Below.setCell (Below.setCell (HBI.out.trans (HGH.out.below.mono HBI.out.size)) hbk _) hbk _
                    refine ⟨k + 1, _, by omega, ?_, rfl, ?_, ?_, ?_, ?_, ?_, hbz.alloc hbz.size _⟩
                    · rw [HS.out, HWS.out]
                    · have := hbz.size
                      simpa using this
                    · rw [HS.out, HMX.out.1]; simp [go_sem]
                    · rw [HS.out, HMX.out.2]; simp [go_sem]
                    · simp [go_sem]
                    · simp [go_sem]
                  case measure => omega
                · have hlt : ¬ F m < (d : Int) - k := by omega
                  have HC2 := Lib.hid (show cnd (nbC Wn Hn ps) F u j = false by rw [HC.out]; exact decide_eq_false hFm)
                  generalize F m = fm at *
                  clear hFm henc
                  go_wp2_with (first | (go_at_call 42; refine (HST.out _ (Gr.refl _)).mono ?_; rintro e w6 ⟨rfl, hg6⟩; have n0 := gr_all (Gr.refl (w6.alloc (.cells #[.int .i64 mx, .int .i64 my] 66))) (show (w6.alloc (.cells #[.int .i64 mx, .int .i64 my] 66)).cell? ⟨w6.heap.size, 0, none⟩ = some (.int .i64 mx) by simp [go_sem]); have n1 := gr_all (Gr.refl (w6.alloc (.cells #[.int .i64 mx, .int .i64 my] 66))) (show (w6.alloc (.cells #[.int .i64 mx, .int .i64 my] 66)).cell? ⟨w6.heap.size, 1, none⟩ = some (.int .i64 my) by simp [go_sem]); have n2 := gr_all (Gr.alloc hg6 (.cells #[.int .i64 mx, .int .i64 my] 66)) a0; have n3 := gr_all (Gr.alloc hg6 (.cells #[.int .i64 mx, .int .i64 my] 66)) a1; have hlm := fun nn os => HLM.out (Go.Sort.grow ((w6.alloc (.cells #[.int .i64 mx, .int .i64 my] 66)).drewN nn) os) (Gr.grow (Gr.drewN (Gr.alloc hg6 _) nn) os); have hlu := fun nn os => HLU.out (Go.Sort.grow ((w6.alloc (.cells #[.int .i64 mx, .int .i64 my] 66)).drewN nn) os) (Gr.grow (Gr.drewN (Gr.alloc hg6 _) nn) os)))
                  (refine wp_region_quiet_grown mixed (by kernel_rfl) ?_; (repeat (first | go_big_quiet_step ((fail)) | quiet_step ((fail)))); refine wpQuiet_nil ?_; intro _ hw'; obtain ⟨⟨nq, osq⟩, hw''⟩ := hw'; subst hw'')
                  clear n0 n1 n2 n3 hlm hlu
                  go_wp2_with fail
                  have gE : Gr wi (Go.Sort.grow ((w6.alloc (.cells #[.int .i64 mx, .int .i64 my] 66)).drewN nq) osq) := Gr.grow (Gr.drewN (Gr.alloc hg6 _) _) _
                  go_roundg (gk - 1)
                  case rel =>
                    refine ⟨j + 1, by omega, rfl, fun i hi => ?_, ?_, ⟨⟨gE.keep0 HAI.out.1.1, gE.keep0 HAI.out.1.2⟩, ?_, ?_⟩, HBI.out.trans (gE.below.mono HBI.out.size)⟩
                    · rcases Nat.lt_or_eq_of_le (Nat.le_of_lt_succ hi) with q | q
                      · exact HNO.out i q
                      · rw [q]; exact HC2.out
                    · rw [gE.below.block _ hsw]; exact HIT.out
                    · exact ((bcell gE.below).2 _ _ hbw).trans HAI.out.2.1
                    · exact ((bcell gE.below).2 _ _ hbw).trans HAI.out.2.2
                  case measure => omega
            · obtain ⟨j', v', hj', e', f'⟩ := HEX.out u HU1.out (by rw [HU2.out]; omega)
              have := hno j' (by omega)
              rw [cnd_some e', decide_eq_true f'] at this
              cases this
        · obtain rfl : k = d := by omega
          have e0 : (stW (nbC Wn Hn ps) F s0 k).1 = t0 := HFD.out.z _ u1 (by omega)
          have hE := fun (X : World) => Try.eqlC x2 y2 x2 y2 X
          rw [decide_eq_true rfl] at hE
          rw [e0, HX.out.2.1] at hx
          rw [e0, HX.out.2.2] at hy
          have HBX := Lib.hid hb
          clear hb u1 u2 u3 u4 e0
          go_wp2
          go_ret2
          exact ⟨rfl, HB3.out.trans (HBX.out.mono HB3.out.size)⟩
end Go.Proofs
