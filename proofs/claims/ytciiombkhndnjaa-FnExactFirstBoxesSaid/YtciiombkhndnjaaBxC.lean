/-
  Contracts of chapter 5, the model: the first boxes and their sum (spec.mdFirst, LeastBoxesSum, FirstBoxes).
-/
import Derived.Test.YtciiombkhndnjaaBxB
namespace Go.Proofs
open Go.RowKit
set_option linter.unusedVariables false
set_option linter.unusedSimpArgs false
def MFs (xs : List Int) (W : List Int) (T0 : Int) (kk : Nat) (a : Int) (os : List Int) (tot : Int) : Prop :=
  -1 ≤ a ∧ a < (xs.length : Int) ∧ (0 ≤ tot ∧ tot ≤ T0) ∧ (kk = 0 → os = W ∧ tot + pt xs a xs.length = T0 ∧ 0 ≤ a) ∧ (∀ k, kk = k + 1 → os ++ wayB xs k a = W ∧ tot + (sel xs k a).2 = T0 ∧ (a + 1).toNat + k < xs.length)
theorem mf_step {xs : List Int} (hg : GoodP xs) {W os : List Int} {T0 tot a : Int} {k : Nat} (hk : k ≤ 4) (h : MFs xs W T0 (k + 1) a os tot) :
    ∃ t : Nat, (sel xs k a).1 = (t : Int) ∧ t < xs.length ∧ MFs xs W T0 k (t : Int) (os ++ [(t : Int)]) (tot + pt xs a t) := by
  obtain ⟨a0, a1, b0, _, h2⟩ := h
  obtain ⟨e1, e2, e3⟩ := h2 k rfl
  obtain ⟨t, s1, s2, s3, s4, s5, s6, s7⟩ := sel_ok hg a0 hk e3
  have p := pt_bd hg (a := a) (b := t) (by omega) (.inr (by omega))
  have hG : Gg xs k a t = pt xs a t + rsN xs k t := rfl
  have r := rsN_nn hg k t (by omega)
  have et : (sel xs k a).1.toNat = t := by rw [s1]; omega
  refine ⟨t, s1, by omega, by omega, by omega, by omega, ?_, ?_⟩
  · intro k0
    subst k0
    rw [wayB_z, et] at e1
    have e : rsN xs 0 t = pt xs (t : Int) xs.length := rfl
    exact ⟨e1, by omega, by omega⟩
  · intro k' hk'
    subst hk'
    rw [wayB_s, et] at e1
    have e : rsN xs (k' + 1) t = (sel xs k' (t : Int)).2 := by
      rw [rsN_s, sel, fam_min, show ((t : Int) + 1).toNat = t + 1 by omega]
    refine ⟨by rw [List.append_assoc]; exact e1, by omega, by omega⟩
theorem mf_start {xs : List Int} (hg : GoodP xs) {many : Nat} (h1 : 1 ≤ many) (h5 : many ≤ 5) (hn : many ≤ xs.length) : MFs xs (wayB xs (many - 1) (-1)) (sel xs (many - 1) (-1)).2 many (-1) [] 0 ∧ (sel xs (many - 1) (-1)).2 < big := by
  obtain ⟨t, s1, s2, s3, s4, s5, s6, s7⟩ := sel_ok hg (k := many - 1) (a := -1) (by omega) (by omega) (by have : ((-1 : Int) + 1).toNat = 0 := rfl; omega)
  have := s7 t s2 s3
  refine ⟨⟨by omega, by omega, ⟨by omega, by omega⟩, fun q => by omega, fun k hk => ?_⟩, s5⟩
  subst hk
  exact ⟨rfl, by simp, by have : ((-1 : Int) + 1).toNat = 0 := rfl; omega⟩
def MfRel (xs W : List Int) (T0 : Int) (many : Nat) (w : World) (B : Nat) (o t l i : Value) (wr : World) : Prop :=
  ∃ (kk : Nat) (a : Int) (os : List Int) (tot : Int), kk ≤ many ∧ i = .int .i64 ((kk : Int) - 1) ∧ l = .int .i64 a ∧ t = .int .i64 tot ∧ os.length ≤ 10 - kk ∧ OwnI wr B o os ∧ Below B w wr ∧ MFs xs W T0 kk a os tot
def LfRel (g : Nat → Int) (lo hi : Nat) (w : World) (b s i : Value) (wr : World) : Prop := Gr w wr ∧ ∃ k : Nat, lo + k ≤ hi ∧ i = .int .i64 ((lo + k : Nat) : Int) ∧ b = .int .i64 (fam g lo k).1 ∧ s = .int .i64 (fam g lo k).2
set_option maxRecDepth 100000 in
set_option maxHeartbeats 4000000 in
theorem Try.mdFirst (w : World) (B : Nat) (v : Value) (xs : List Int) (many : Nat) (hg : GoodP xs) (h1 : 1 ≤ many) (h5 : many ≤ 5) (hn : many ≤ xs.length) (h : OwnI w B v xs) :
    Calls Try.prog 50 #[v, .int .i64 (many : Int)] w fun e w' => ∃ v', e = .returned (.tuple #[v', .int .i64 (sel xs (many - 1) (-1)).2]) ∧ OwnI w' w.heap.size v' (wayB xs (many - 1) (-1)) ∧ Below w.heap.size w w' := by
  have mixed : Try.prog.follows .mixedOrders = true := by kernel_rfl
  have hxl := hg.1
  have HO0 := Lib.hid h
  have HGD := Lib.hid hg
  obtain ⟨ms, msb⟩ := mf_start hg h1 h5 hn
  have HMS := Lib.hid ms
  have HRE := Lib.hid (Try.mdRest w B v xs many hg h1 h5 h)
  obtain ⟨A, c, rfl, _⟩ := h.eta
  generalize wayB xs (many - 1) (-1) = WW at *
  generalize (sel xs (many - 1) (-1)).2 = T0 at *
  have m1 : (many : Int) - 1 ≤ 4 := by omega
  clear h hg ms
  go_enter Try.func50, Try.ntmps50
  go_wp2_with (first | (go_at_call 68; refine HRE.out.mono ?_; rintro e wA ⟨vr, rfl, hol, hb1⟩; obtain ⟨go, co, rfl, hrows⟩ := hol.form (by omega)))
  have HROWS := Lib.hid hrows
  have HB1 := Lib.hid hb1
  have sz1 := hb1.size
  clear hol hb1 hrows HRE
  go_loopw [7, 8, 9, 10] (fun o t l i wr => MfRel xs WW T0 many wA wA.heap.size o t l i wr) (fun _ _ _ i _ => (intOf i + 1).toNat)
  case atStart => exact ⟨many, -1, [], 0, Nat.le_refl _, rfl, rfl, rfl, by simp, OwnI.nil2 _ _, Below.refl _ _, HMS.out⟩
  case round =>
    obtain ⟨kk, a, os, tot, hkm, rfl, rfl, rfl, hol, ho, hbl, hm⟩ := hrel
    have HO := Lib.hid ho
    have HL := Lib.hid hbl
    have szr := hbl.size
    have ha0 := hm.1
    have ha1 := hm.2.1
    have hb0 := hm.2.2.1
    by_cases hk0 : kk = 0
    · obtain ⟨f1, f2, f3⟩ := hm.2.2.2.1 hk0
      have HP := Lib.hid (Try.mdPart _ B _ xs a xs.length HGD.out ha0 (by omega) (Nat.le_refl _) (.inl f3) (HO0.out.below (HB1.out.trans (hbl.mono sz1)) (Nat.le_refl _)))
      have bp := pt_bd HGD.out (a := a) (b := xs.length) (Nat.le_refl _) (.inl f3)
      subst hk0
      subst f1
      have ez : ((0 : Nat) : Int) - 1 = -1 := rfl
      rw [ez]
      obtain ⟨A2, c2, rfl, _⟩ := ho.eta
      generalize pt xs a xs.length = pp at *
      unfold big at msb
      have wt : IntKind.i64.wrap (tot + pp) = tot + pp := IntWalk.i64_in _ (by omega)
      rw [← f2]
      clear ho hbl hm
      go_wp2_with (first | (go_at_call 69; refine (HP.out).mono ?_; rintro e w1 ⟨rfl, hbW⟩; have hcW := (bcell hbW.below).1; have hfW := (bcell hbW.below).2; (try have hzW : w.heap.size < w1.heap.size := by have hq := hbW.below.size; (try simp at hq); omega); (try have hyW : w.heap.size + 1 < w1.heap.size := by have hq := hbW.below.size; (try simp at hq); omega); (try have hxW : w.heap.size + 2 < w1.heap.size := by have hq := hbW.below.size; (try simp at hq); omega)))
      go_ret2
      exact ⟨_, rfl, (HO.out.gr hbW).mono sz1, HB1.out.trans ((HL.out.trans (hbW.below.mono szr)).mono sz1)⟩
    · obtain ⟨k, hkk⟩ : ∃ k, kk = k + 1 := ⟨kk - 1, by omega⟩
      subst hkk
      have hk4 : k ≤ 4 := by omega
      have hms := mf_step HGD.out hk4 hm
      have hfe := (hm.2.2.2.2 k rfl).2.2
      obtain ⟨u, hu1, hu2⟩ := HROWS.out k (by omega)
      obtain ⟨gr, cr, rfl, _, _, hu3⟩ := hu2.rowB (by rw [show rowF xs k = tblB (rsN xs k) xs.length from rfl, tblB_len]; omega)
      have HU1 := Lib.hid hu1
      have HU3 := Lib.hid (fun (j : Nat) (hj : j < xs.length) => (show _ ∧ _ from hu3.at rfl j (by rw [show rowF xs k = tblB (rsN xs k) xs.length from rfl, tblB_len]; exact hj)).1)
      have hrl : (rowF xs k).length = xs.length := tblB_len _ _
      rw [hrl] at hu1 HU1
      have ek : ((k + 1 : Nat) : Int) - 1 = (k : Int) := by omega
      rw [ek]
      have y0 : (0 : Int) ≤ (k : Int) := by omega
      have y1 : (k : Int) < (many : Int) := by omega
      have HMS2 := Lib.hid hms
      have hlo : a + 1 = (((a + 1).toNat : Nat) : Int) := by omega
      have HSEL := Lib.hid (show sel xs k a = fam (Gg xs k a) (a + 1).toNat (xs.length - (a + 1).toNat) from rfl)
      have wl : IntKind.i64.wrap (a + 1) = (((a + 1).toNat : Nat) : Int) := by rw [← hlo]; exact IntWalk.i64_in _ (by omega)
      obtain ⟨A2, c2, rfl, _⟩ := ho.eta
      generalize hLO : (a + 1).toNat = lo at *
      clear ho hbl hm hms hu1 hu2 hu3 hrl
      rename World => W2
      go_wp2
      go_loopw [11, 12, 13] (fun b s i wr4 => LfRel (Gg xs k a) lo xs.length W2 b s i wr4) (fun _ _ i _ => (xs.length - intOf i).toNat)
      case atStart => exact ⟨Gr.refl _, 0, by omega, by rw [Nat.add_zero], rfl, rfl⟩
      case round =>
        obtain ⟨gr4, m, hm, rfl, rfl, rfl⟩ := hrel
        have HG4 := Lib.hid gr4
        have h21 := HL.out.trans (gr4.below.mono szr)
        have hsz4 := h21.size
        by_cases ht : lo + m < xs.length
        · have q1 := gr_all (Gr.refl _) (cell_k2 h21 HU1.out)
          have q2 := gr_all (Gr.refl _) (cell_k2 h21 (HU3.out (lo + m) ht))
          rw [show (rowF xs k).getD (lo + m) 0 = rsN xs k (lo + m) from tblB_get _ _ _ ht] at q2
          have bp := pt_bd HGD.out (a := a) (b := lo + m) (by omega) (.inr ht)
          have br := rsN_nn HGD.out k (lo + m) ht
          have hN := fam_s (Gg xs k a) lo m
          rw [show Gg xs k a (lo + m) = pt xs a (lo + m) + rsN xs k (lo + m) from rfl] at hN
          have HPN := Lib.hid (fun W (g : Gr _ W) => Try.mdPart W B _ xs a (lo + m) HGD.out ha0 (by omega) (by omega) (.inr ht) (HO0.out.below (HB1.out.trans ((h21.trans (g.below.mono hsz4)).mono sz1)) (Nat.le_refl _)))
          have HNX := Lib.hid (show ((lo + m : Nat) : Int) + 1 = ((lo + (m + 1) : Nat) : Int) by omega)
          clear gr4 h21
          generalize pt xs a (lo + m) = pp at *
          generalize rsN xs k (lo + m) = rr at *
          obtain ⟨f1, hf1⟩ : ∃ f, fam (Gg xs k a) lo m = f := ⟨_, rfl⟩
          rw [hf1] at hN ⊢
          obtain ⟨fb, fl⟩ := f1
          simp only at hN ⊢
          unfold big at br
          have wp : IntKind.i64.wrap (pp + rr) = pp + rr := IntWalk.i64_in _ (by omega)
          have x0 : (0 : Int) ≤ ((lo + m : Nat) : Int) := by omega
          have x1 : ((lo + m : Nat) : Int) < (xs.length : Int) := by omega
          generalize hT : lo + m = T at *
          by_cases hlt : pp + rr < fl
          · rw [if_pos hlt] at hN
            have HN := Lib.hid hN
            clear hN hf1
            go_wp2_with fail
            (refine wp_region_quiet_grown mixed (by kernel_rfl) ?_; (repeat (first | go_big_quiet_step ((first | (go_at_call 69; exact Calls.grown_of (HPN.out _ (Gr.grow (Gr.drewN (Gr.refl _) _) _))))) | quiet_step ((first | (go_at_call 69; exact Calls.grown_of (HPN.out _ (Gr.grow (Gr.drewN (Gr.refl _) _) _))))))); refine wpQuiet_nil ?_; intro _ hw'; obtain ⟨⟨nq, osq⟩, hw''⟩ := hw'; subst hw'')
            clear q1 q2
            go_wp2
            go_roundw
            case rel => exact ⟨HG4.out.trans (by repeat (first | exact Gr.refl _ | refine Gr.alloc ?_ _ | refine Gr.trans ?_ (by assumption) | refine Gr.drew ?_ | refine Gr.drewN ?_ _ | refine Gr.grow ?_ _ | refine Gr.setCell ?_ (by (try simp); (try omega)) _)), m + 1, by omega, by rw [← HNX.out], by rw [HN.out], by rw [HN.out]⟩
            case measure => simp [intOf]; omega
          · rw [if_neg hlt] at hN
            have HN := Lib.hid hN
            clear hN hf1
            go_wp2_with fail
            (refine wp_region_quiet_grown mixed (by kernel_rfl) ?_; (repeat (first | go_big_quiet_step ((first | (go_at_call 69; exact Calls.grown_of (HPN.out _ (Gr.grow (Gr.drewN (Gr.refl _) _) _))))) | quiet_step ((first | (go_at_call 69; exact Calls.grown_of (HPN.out _ (Gr.grow (Gr.drewN (Gr.refl _) _) _))))))); refine wpQuiet_nil ?_; intro _ hw'; obtain ⟨⟨nq, osq⟩, hw''⟩ := hw'; subst hw'')
            clear q1 q2
            go_wp2
            go_roundw
            case rel => exact ⟨HG4.out.trans (by repeat (first | exact Gr.refl _ | refine Gr.alloc ?_ _ | refine Gr.trans ?_ (by assumption) | refine Gr.drew ?_ | refine Gr.drewN ?_ _ | refine Gr.grow ?_ _ | refine Gr.setCell ?_ (by (try simp); (try omega)) _)), m + 1, by omega, by rw [← HNX.out], by rw [HN.out], by rw [HN.out]⟩
            case measure => simp [intOf]; omega
        · have em : m = xs.length - lo := by omega
          subst em
          rw [← HSEL.out]
          obtain ⟨t, st1, st2, st3⟩ := HMS2.out
          have zt : ¬ ((lo + (xs.length - lo) : Nat) : Int) < (xs.length : Int) := by omega
          rw [st1]
          have bp := pt_bd HGD.out (a := a) (b := t) (by omega) (.inr st2)
          have HP := Lib.hid (Try.mdPart _ B _ xs a t HGD.out ha0 (by omega) (by omega) (.inr st2) (HO0.out.below (HB1.out.trans (h21.mono sz1)) (Nat.le_refl _)))
          have HST := Lib.hid st3
          clear gr4 h21 HMS2 st1 st3
          generalize pt xs a t = pp at *
          generalize (sel xs k a).2 = sv at *
          unfold big at msb
          have wt : IntKind.i64.wrap (tot + pp) = tot + pp := IntWalk.i64_in _ (by omega)
          go_wp2_with (first | (go_at_call 69; refine (HP.out).mono ?_; rintro e w1 ⟨rfl, hbW⟩; have hcW := (bcell hbW.below).1; have hfW := (bcell hbW.below).2; (try have hzW : w.heap.size < w1.heap.size := by have hq := hbW.below.size; (try simp at hq); omega); (try have hyW : w.heap.size + 1 < w1.heap.size := by have hq := hbW.below.size; (try simp at hq); omega); (try have hxW : w.heap.size + 2 < w1.heap.size := by have hq := hbW.below.size; (try simp at hq); omega)) | (at_builtin; refine wpList_app1I rfl _ _ 25 rfl Try.underlying25 Try.infoI2 wA.heap.size _ _ rfl ((HO.out.gr HG4.out).gr hbW) (t : Int) rfl (by omega) (by have := hbW.below.size; omega) ?_; intro v' w3 ho3 hb3 _ _))
          have OW := Lib.hid ho3
          have GB := Lib.hid ((HL.out.trans ((HG4.out.trans hbW).below.mono szr)).trans hb3)
          clear ho3 hb3 hbW hcW hfW
          go_wp2
          go_roundw
          case rel => exact ⟨k, (t : Int), os ++ [(t : Int)], tot + pp, by omega, by go_num, rfl, rfl, by simp; omega, OW.out, GB.out, HST.out⟩
          case measure => simp [intOf]; try omega
def ManyB (xs : List Int) (n : Int) : Prop := GoodP xs ∧ 1 ≤ n ∧ n ≤ 5 ∧ n ≤ (xs.length : Int)
theorem not_trueB {b : Bool} {p : Prop} (hb : b = true ↔ p) (h : ¬ p) : b = false := by
  cases q : b
  · rfl
  · exact absurd (hb.1 q) h
set_option maxHeartbeats 800000 in
theorem Try.mdManyB (w : World) (B : Nat) (v : Value) (xs : List Int) (n : Int) (b : Bool) (hb : b = true ↔ ManyB xs n) (hl : xs.length ≤ 1048576) (h : OwnI w B v xs) :
    Calls Try.prog 49 #[v, .int .i64 n] w fun e w' => e = .returned (.bool b) ∧ Gr w w' := by
  obtain ⟨A, c, rfl, h⟩ := h.eta
  by_cases hg : GoodP xs
  · have HG := Lib.hid (Try.mdGood w B _ xs true ⟨fun _ => hg, fun _ => rfl⟩ hl h)
    obtain ⟨m, hm⟩ : ∃ m, min 5 (xs.length : Int) = m := ⟨_, rfl⟩
    have HM := Lib.hid (fun W => Try.l1LeastB 5 (xs.length : Int) W)
    rw [hm] at HM
    have HI := Lib.hid (show inn n 1 m = b by
      cases q : b
      · have : ¬ ManyB xs n := fun c => by have := hb.2 c; rw [q] at this; cases this
        refine inn_f ?_
        by_cases c1 : n < 1
        · exact .inl c1
        · refine .inr ?_
          rcases Int.lt_or_le m n with c2 | c2
          · exact c2
          · exact absurd ⟨hg, by omega, by omega, by omega⟩ this
      · obtain ⟨_, h1, h2, h3⟩ := hb.1 q
        exact inn_t h1 (by omega))
    clear h hb hg hm
    go_enter Try.func49, Try.ntmps49
    go_wp2_with (first | (go_at_call 66; refine (HG.out).mono ?_; rintro e w1 ⟨rfl, hbW⟩; have hcW := (bcell hbW.below).1; have hfW := (bcell hbW.below).2; (try have hzW : w.heap.size < w1.heap.size := by have hq := hbW.below.size; (try simp at hq); omega); (try have hyW : w.heap.size + 1 < w1.heap.size := by have hq := hbW.below.size; (try simp at hq); omega); (try have hxW : w.heap.size + 2 < w1.heap.size := by have hq := hbW.below.size; (try simp at hq); omega)) | (go_at_call 67; refine (HM.out _).mono ?_; rintro e w1 ⟨rfl, rfl⟩) | (go_at_call 52; refine (Try.l1In _ _ _ _ HI.out _).mono ?_; rintro e w1 ⟨rfl, rfl⟩))
    go_ret
    exact ⟨rfl, by repeat (first | exact Gr.refl _ | refine Gr.alloc ?_ _ | refine Gr.trans ?_ (by assumption) | refine Gr.drew ?_ | refine Gr.drewN ?_ _ | refine Gr.grow ?_ _ | refine Gr.setCell ?_ (by (try simp); (try omega)) _)⟩
  · have HG := Lib.hid (Try.mdGood w B _ xs false ⟨fun q => (by cases q), fun q => absurd q hg⟩ hl h)
    have HF := Lib.hid (not_trueB hb (fun q => hg q.1))
    clear h hb hg
    go_enter Try.func49, Try.ntmps49
    go_wp2_with (first | (go_at_call 66; refine (HG.out).mono ?_; rintro e w1 ⟨rfl, hbW⟩; have hcW := (bcell hbW.below).1; have hfW := (bcell hbW.below).2; (try have hzW : w.heap.size < w1.heap.size := by have hq := hbW.below.size; (try simp at hq); omega); (try have hyW : w.heap.size + 1 < w1.heap.size := by have hq := hbW.below.size; (try simp at hq); omega); (try have hxW : w.heap.size + 2 < w1.heap.size := by have hq := hbW.below.size; (try simp at hq); omega)))
    go_ret
    exact ⟨by rw [HF.out]; rfl, by repeat (first | exact Gr.refl _ | refine Gr.alloc ?_ _ | refine Gr.trans ?_ (by assumption) | refine Gr.drew ?_ | refine Gr.drewN ?_ _ | refine Gr.grow ?_ _ | refine Gr.setCell ?_ (by (try simp); (try omega)) _)⟩
def lbV (xs : List Int) (n : Int) (b : Bool) : Int := if b then (sel xs (n.toNat - 1) (-1)).2 else 0
def fbL (xs : List Int) (n : Int) : List Int := wayB xs (n.toNat - 1) (-1)
set_option maxHeartbeats 800000 in
theorem Try.sLeastBoxesSum (w : World) (B : Nat) (v : Value) (xs : List Int) (n : Int) (b : Bool) (hb : b = true ↔ ManyB xs n) (hl : xs.length ≤ 1048576) (h : OwnI w B v xs) :
    Calls Try.prog 24 #[v, .int .i64 n] w fun e w' => e = .returned (.tuple #[.int .i64 (lbV xs n b), .bool b]) ∧ Below w.heap.size w w' := by
  have HM := Lib.hid (Try.mdManyB w B v xs n b hb hl h)
  have HO := Lib.hid h
  obtain ⟨A, c, rfl, _⟩ := h.eta
  cases q : b
  · rw [q] at HM
    have e : lbV xs n false = 0 := rfl
    rw [e]
    clear h hb q e
    go_enter Try.func24, Try.ntmps24
    go_wp2_with (first | (go_at_call 49; refine (HM.out).mono ?_; rintro e w1 ⟨rfl, hbW⟩; have hcW := (bcell hbW.below).1; have hfW := (bcell hbW.below).2; (try have hzW : w.heap.size < w1.heap.size := by have hq := hbW.below.size; (try simp at hq); omega); (try have hyW : w.heap.size + 1 < w1.heap.size := by have hq := hbW.below.size; (try simp at hq); omega); (try have hxW : w.heap.size + 2 < w1.heap.size := by have hq := hbW.below.size; (try simp at hq); omega)))
    go_ret2
    exact ⟨rfl, Gr.below (by repeat (first | exact Gr.refl _ | refine Gr.alloc ?_ _ | refine Gr.trans ?_ (by assumption) | refine Gr.drew ?_ | refine Gr.drewN ?_ _ | refine Gr.grow ?_ _ | refine Gr.setCell ?_ (by (try simp); (try omega)) _))⟩
  · rw [q] at HM
    obtain ⟨hg, n1, n5, nl⟩ := hb.1 q
    obtain ⟨m, rfl⟩ : ∃ m : Nat, n = (m : Int) := ⟨n.toNat, by omega⟩
    have HF := Lib.hid (fun w1 (g : Gr w w1) => Try.mdFirst w1 B _ xs m hg (by omega) (by omega) (by omega) (HO.out.gr g))
    have e : lbV xs (m : Int) true = (sel xs (m - 1) (-1)).2 := rfl
    rw [e]
    generalize (sel xs (m - 1) (-1)).2 = T0 at *
    clear h hb q hg e
    go_enter Try.func24, Try.ntmps24
    go_wp2_with (first | (go_at_call 49; refine (HM.out).mono ?_; rintro e w1 ⟨rfl, hbW⟩; have hcW := (bcell hbW.below).1; have hfW := (bcell hbW.below).2; (try have hzW : w.heap.size < w1.heap.size := by have hq := hbW.below.size; (try simp at hq); omega); (try have hyW : w.heap.size + 1 < w1.heap.size := by have hq := hbW.below.size; (try simp at hq); omega); (try have hxW : w.heap.size + 2 < w1.heap.size := by have hq := hbW.below.size; (try simp at hq); omega)) | (go_at_call 50; refine (HF.out _ (by assumption)).mono ?_; rintro e w2 ⟨v2, rfl, ho2, hb2⟩))
    go_ret2
    exact ⟨rfl, hbW.below.trans (hb2.mono hbW.below.size)⟩
set_option maxHeartbeats 800000 in
theorem Try.sFirstBoxes (w : World) (B : Nat) (v : Value) (xs : List Int) (n : Int) (b : Bool) (hb : b = true ↔ ManyB xs n) (hl : xs.length ≤ 1048576) (h : OwnI w B v xs) :
    Calls Try.prog 26 #[v, .int .i64 n] w fun e w' => ∃ v', e = .returned (.tuple #[v', .bool b]) ∧ OwnI w' w.heap.size v' (if b then fbL xs n else []) ∧ Below w.heap.size w w' := by
  have HM := Lib.hid (Try.mdManyB w B v xs n b hb hl h)
  have HO := Lib.hid h
  obtain ⟨A, c, rfl, _⟩ := h.eta
  cases q : b
  · rw [q] at HM
    clear h hb q
    go_enter Try.func26, Try.ntmps26
    go_wp2_with (first | (go_at_call 49; refine (HM.out).mono ?_; rintro e w1 ⟨rfl, hbW⟩; have hcW := (bcell hbW.below).1; have hfW := (bcell hbW.below).2; (try have hzW : w.heap.size < w1.heap.size := by have hq := hbW.below.size; (try simp at hq); omega); (try have hyW : w.heap.size + 1 < w1.heap.size := by have hq := hbW.below.size; (try simp at hq); omega); (try have hxW : w.heap.size + 2 < w1.heap.size := by have hq := hbW.below.size; (try simp at hq); omega)))
    go_ret2
    exact ⟨_, rfl, OwnI.nil2 _ _, Gr.below (by repeat (first | exact Gr.refl _ | refine Gr.alloc ?_ _ | refine Gr.trans ?_ (by assumption) | refine Gr.drew ?_ | refine Gr.drewN ?_ _ | refine Gr.grow ?_ _ | refine Gr.setCell ?_ (by (try simp); (try omega)) _))⟩
  · rw [q] at HM
    obtain ⟨hg, n1, n5, nl⟩ := hb.1 q
    obtain ⟨m, rfl⟩ : ∃ m : Nat, n = (m : Int) := ⟨n.toNat, by omega⟩
    have HF := Lib.hid (fun w1 (g : Gr w w1) => Try.mdFirst w1 B _ xs m hg (by omega) (by omega) (by omega) (HO.out.gr g))
    rw [if_pos rfl, show fbL xs (m : Int) = wayB xs (m - 1) (-1) from rfl]
    generalize wayB xs (m - 1) (-1) = R at *
    clear h hb q hg
    go_enter Try.func26, Try.ntmps26
    go_wp2_with (first | (go_at_call 49; refine (HM.out).mono ?_; rintro e w1 ⟨rfl, hbW⟩; have hcW := (bcell hbW.below).1; have hfW := (bcell hbW.below).2; (try have hzW : w.heap.size < w1.heap.size := by have hq := hbW.below.size; (try simp at hq); omega); (try have hyW : w.heap.size + 1 < w1.heap.size := by have hq := hbW.below.size; (try simp at hq); omega); (try have hxW : w.heap.size + 2 < w1.heap.size := by have hq := hbW.below.size; (try simp at hq); omega)) | (go_at_call 50; refine (HF.out _ (by assumption)).mono ?_; rintro e w2 ⟨v2, rfl, ho2, hb2⟩))
    go_ret2
    exact ⟨_, rfl, ho2.mono hbW.below.size, hbW.below.trans (hb2.mono hbW.below.size)⟩
end Go.Proofs
