/-
  Chapter 6: the longest drive, the model (spec.LongestDrive).
-/
import Derived.Test.YtmklniikhdfaiaaDoorLgM
import Derived.Deep.RegionHeld3
namespace Go.Proofs
open Go.RowKit Av Gm Go.Maps
set_option linter.unusedVariables false
set_option linter.unusedSimpArgs false
theorem results_tmp4 {fn : Func} {t u v x : Tmp} (h : fn.results = #[.tmp t, .tmp u, .tmp v, .tmp x]) (tmps : Array Value) (P : Program) (w : World) :
    (results fn tmps).run P w = .ok (.tuple #[tmps.getD t undef, tmps.getD u undef, tmps.getD v undef, tmps.getD x undef]) w := by
  simp [results, h]
theorem own_twoL (w : World) (B : Nat) (h : B ≤ w.heap.size) (x y : Int) : OwnI (w.alloc (.cells #[.int .i64 x, .int .i64 y] 3)) B (.slice (some ⟨w.heap.size, 0, none⟩) 2 2) [x, y] :=
  ⟨rfl, .inr ⟨w.heap.size, 2, #[.int .i64 x, .int .i64 y], rfl, h, heap_alloc_new _ _, Nat.le_refl _, by decide, rfl, rfl⟩⟩
theorem two_lits (w : World) (B : Nat) (h : B ≤ w.heap.size) (x y x' y' : Int) :
    OwnI (((w.alloc (.cells #[.int .i64 x, .int .i64 y] 3)).alloc (.cells #[.int .i64 x', .int .i64 y'] 3)).drew) B (.slice (some ⟨w.heap.size, 0, none⟩) 2 2) [x, y] ∧
    OwnI (((w.alloc (.cells #[.int .i64 x, .int .i64 y] 3)).alloc (.cells #[.int .i64 x', .int .i64 y'] 3)).drew) B (.slice (some ⟨w.heap.size + 1, 0, none⟩) 2 2) [x', y'] := by
  have h1 : ((w.alloc (.cells #[.int .i64 x, .int .i64 y] 3)).alloc (.cells #[.int .i64 x', .int .i64 y'] 3)).heap[w.heap.size]? = some (.cells #[.int .i64 x, .int .i64 y] 3 (0, 0)) := (Below.heap_alloc _ _ _ (by simp)).trans (heap_new' rfl)
  have h2 : ((w.alloc (.cells #[.int .i64 x, .int .i64 y] 3)).alloc (.cells #[.int .i64 x', .int .i64 y'] 3)).heap[w.heap.size + 1]? = some (.cells #[.int .i64 x', .int .i64 y'] 3 (0, 0)) := heap_new' (by simp)
  exact ⟨OwnI.gr (OwnI.mono (own_lit2 h1) h) (Gr.drew (Gr.refl _)), OwnI.gr (OwnI.mono (own_lit2 h2) (by omega)) (Gr.drew (Gr.refl _))⟩
/-- the first farthest one from each -/
def lgR (s a : ByteArray) (i : Nat) : Nat × Int := bsF (fin (nbW s a) (a.size * s.size) i).far (a.size * s.size)
def lgS (s a : ByteArray) : Nat × Nat × Int := outF (lgR s a) (-1) (a.size * s.size)
def lgA (s a : ByteArray) : List Int := if whW s a = true then [(crn s.size (lgS s a).1).1, (crn s.size (lgS s a).1).2] else []
def lgB (s a : ByteArray) : List Int := if whW s a = true then [(crn s.size (lgS s a).2.1).1, (crn s.size (lgS s a).2.1).2] else []
def lgD (s a : ByteArray) : Int := if whW s a = true then (lgS s a).2.2 else 0
theorem lg_no {s a : ByteArray} (h : whW s a = false) : lgA s a = [] ∧ lgB s a = [] ∧ lgD s a = 0 := by
  unfold lgA lgB lgD
  rw [h]
  exact ⟨rfl, rfl, rfl⟩
theorem crn_div {Hn : Nat} (k : Nat) : ((k : Int)).tdiv (Hn : Int) = (crn Hn k).1 ∧ ((k : Int)).tmod (Hn : Int) = (crn Hn k).2 := by
  unfold crn
  rw [Int.tdiv_eq_ediv_of_nonneg (by omega), Int.tmod_eq_emod_of_nonneg (by omega)]
  push_cast
  exact ⟨rfl, rfl⟩
theorem crn_bd {Hn : Nat} {k : Nat} (h : k ≤ 64) : (0 ≤ (crn Hn k).1 ∧ (crn Hn k).1 ≤ 64) ∧ 0 ≤ (crn Hn k).2 ∧ (crn Hn k).2 ≤ 64 :=
  ⟨⟨Int.natCast_nonneg _, show ((k / Hn : Nat) : Int) ≤ ((64 : Nat) : Int) from Int.ofNat_le.2 (Nat.le_trans (Nat.div_le_self k Hn) h)⟩,
    Int.natCast_nonneg _, show ((k % Hn : Nat) : Int) ≤ ((64 : Nat) : Int) from Int.ofNat_le.2 (Nat.le_trans (Nat.mod_le k Hn) h)⟩
def LgRel (R : Nat → Nat × Int) (N : Nat) (W1 : World) (fv tv mv iv : Value) (wr : World) : Prop :=
  ∃ i : Nat, iv = .int .i64 i ∧ i ≤ N ∧ fv = .int .i64 ((outF R (-1) i).1 : Nat) ∧ tv = .int .i64 ((outF R (-1) i).2.1 : Nat) ∧ mv = .int .i64 (outF R (-1) i).2.2 ∧ Below W1.heap.size W1 wr
set_option maxRecDepth 100000 in
set_option maxHeartbeats 3200000 in
theorem Tryd.sLongestDrive (w : World) (s a : ByteArray) (hs : s.size ≤ maxLen) (ha : a.size ≤ maxLen) (b : Bool) (hb : whW s a = b) :
    Calls Tryd.prog 6 #[.agg #[.string s, .string a]] w fun e w' => ∃ v1 v2, e = .returned (.tuple #[v1, v2, .int .i64 (lgD s a), .bool b]) ∧ OwnI w' w.heap.size v1 (lgA s a) ∧ OwnI w' w.heap.size v2 (lgB s a) ∧ Below w.heap.size w w' := by
  have mixed : Tryd.prog.follows .mixedOrders = true := by kernel_rfl
  obtain ⟨b1, h1⟩ : ∃ b1, okW s a = b1 := ⟨_, rfl⟩
  have H1 := Lib.hid (fun (W : World) => Tryd.owGood W s a hs ha b1 h1)
  cases b1
  · have e2 : b = false := by rw [← hb]; unfold whW; rw [h1]; rfl
    subst e2
    obtain ⟨e1, e2, e3⟩ := lg_no hb
    rw [e1, e2, e3]
    clear hs ha hb h1 e1 e2 e3
    go_enter Tryd.func6, Tryd.ntmps6
    go_wp2_with (first | (go_at_call 15; refine (H1.out _).mono ?_; rintro e w1 ⟨rfl, hbW⟩; have hcW := (bcell hbW.below).1; have hfW := (bcell hbW.below).2; (try have hzW : w.heap.size < w1.heap.size := by have hq := hbW.below.size; (try simp at hq); omega); (try have hyW : w.heap.size + 1 < w1.heap.size := by have hq := hbW.below.size; (try simp at hq); omega); (try have hxW : w.heap.size + 2 < w1.heap.size := by have hq := hbW.below.size; (try simp at hq); omega)))
    refine bodyPost_ret (results_tmp4 rfl _ _ _) rfl ?_
    exact ⟨_, _, rfl, OwnI.nil2 _ _, OwnI.nil2 _ _, Gr.below (by repeat (first | exact Gr.refl _ | refine Gr.alloc ?_ _ | refine Gr.trans ?_ (by assumption) | refine Gr.drew ?_ | refine Gr.drewN ?_ _ | refine Gr.grow ?_ _ | refine Gr.setCell ?_ (by (try simp); (try omega)) _))⟩
  · have HB := Lib.hid (fun (X : World) => Tryd.owWhole X s a h1 b hb)
    cases b
    · obtain ⟨e1, e2, e3⟩ := lg_no hb
      rw [e1, e2, e3]
      clear hs ha hb h1 e1 e2 e3
      go_enter Tryd.func6, Tryd.ntmps6
      go_wp2_with (first | (go_at_call 15; refine (H1.out _).mono ?_; rintro e w1 ⟨rfl, hbW⟩; have hcW := (bcell hbW.below).1; have hfW := (bcell hbW.below).2; (try have hzW : w.heap.size < w1.heap.size := by have hq := hbW.below.size; (try simp at hq); omega); (try have hyW : w.heap.size + 1 < w1.heap.size := by have hq := hbW.below.size; (try simp at hq); omega); (try have hxW : w.heap.size + 2 < w1.heap.size := by have hq := hbW.below.size; (try simp at hq); omega)) | (go_at_call 16; refine (HB.out _).mono ?_; rintro e w2 ⟨rfl, hb2⟩))
      refine bodyPost_ret (results_tmp4 rfl _ _ _) rfl ?_
      refine ⟨_, _, rfl, OwnI.nil2 _ _, OwnI.nil2 _ _, Below.trans (show Gr w _ from ?_).below (hb2.mono (show Gr w _ from ?_).below.size)⟩
      all_goals exact by repeat (first | exact Gr.refl _ | refine Gr.alloc ?_ _ | refine Gr.trans ?_ (by assumption) | refine Gr.drew ?_ | refine Gr.drewN ?_ _ | refine Gr.grow ?_ _ | refine Gr.setCell ?_ (by (try simp); (try omega)) _)
    · obtain ⟨k1, k2⟩ := okW_and h1
      have l1 := okT_len k1
      have l2 := okT_len k2
      have HF := Lib.hid (fun (X : World) (i B : Nat) (la : Value) (hi : i < a.size * s.size) (hla : OwnI X B la [(crn s.size i).1, (crn s.size i).2]) => Tryd.owFar X s a k1 k2 i B la hi hla)
      have HFL := Lib.hid (fun (i : Nat) (hi : i < a.size * s.size) => (fin_bf (@nbW_valid s a) hi).inv.fl)
      have eA : lgA s a = [(crn s.size (lgS s a).1).1, (crn s.size (lgS s a).1).2] := by unfold lgA; rw [hb]; rfl
      have eB : lgB s a = [(crn s.size (lgS s a).2.1).1, (crn s.size (lgS s a).2.1).2] := by unfold lgB; rw [hb]; rfl
      have eD : lgD s a = (lgS s a).2.2 := by unfold lgD; rw [hb]; rfl
      rw [eA, eB, eD]
      have hN : s.size * a.size ≤ 64 := Nat.mul_le_mul l1.2 l2.2
      have hN' : (s.size : Int) * a.size = ((a.size * s.size : Nat) : Int) := by push_cast; exact Int.mul_comm _ _
      have hc : a.size * s.size = s.size * a.size := Nat.mul_comm _ _
      have hNB : a.size * s.size ≤ 64 := by rw [hc]; exact hN
      have hwr : IntKind.i64.wrap ((s.size : Int) * a.size) = ((a.size * s.size : Nat) : Int) := by
        rw [hN']
        generalize a.size * s.size = M at hNB
        exact IntWalk.i64_in _ (by omega)
      have hp : 0 < a.size * s.size := Nat.mul_pos (Nat.lt_of_lt_of_le (by decide) l2.1) (Nat.lt_of_lt_of_le (by decide) l1.1)
      have hz : ((s.size : Int) == 0) = false := by rw [beq_eq_false_iff_ne]; omega
      have hz2 : ¬ ((s.size : Int) = 0) := by omega
      have hz3 : ¬ (s.size = 0) := by omega
      have HLS := Lib.hid (show outF (lgR s a) (-1) (a.size * s.size) = lgS s a from rfl)
      have HRD := Lib.hid (fun i => (show lgR s a i = bsF (fin (nbW s a) (a.size * s.size) i).far (a.size * s.size) from rfl))
      have HLT := Lib.hid (outF_lt (lgR s a) (-1) (a.size * s.size) (fun i hi => bsF_lt _ _ hp) hp)
      generalize lgS s a = S at *
      generalize lgR s a = R at *
      generalize (fin (nbW s a) (a.size * s.size)) = FN at *
      generalize a.size * s.size = N at *
      have HNB := Lib.hid hNB
      clear hs ha hb h1 k1 k2 eA eB eD hN' hN hc
      go_enter Tryd.func6, Tryd.ntmps6
      go_wp2_with (first | (go_at_call 15; refine (H1.out _).mono ?_; rintro e w1 ⟨rfl, hbW⟩; have hcW := (bcell hbW.below).1; have hfW := (bcell hbW.below).2; (try have hzW : w.heap.size < w1.heap.size := by have hq := hbW.below.size; (try simp at hq); omega); (try have hyW : w.heap.size + 1 < w1.heap.size := by have hq := hbW.below.size; (try simp at hq); omega); (try have hxW : w.heap.size + 2 < w1.heap.size := by have hq := hbW.below.size; (try simp at hq); omega)) | (go_at_call 16; refine (HB.out _).mono ?_; rintro e W1 ⟨rfl, hb2⟩; have HG1 := Lib.hid (show Gr w w1 from (by repeat (first | exact Gr.refl _ | refine Gr.alloc ?_ _ | refine Gr.trans ?_ (by assumption) | refine Gr.drew ?_ | refine Gr.drewN ?_ _ | refine Gr.grow ?_ _ | refine Gr.setCell ?_ (by (try simp); (try omega)) _))); have cc0 : W1.cell? ⟨w.heap.size, 0, none⟩ = some (.string s) := cell_k2 hb2 (hbW.keep0 (by simp [go_sem])); have cc1 : W1.cell? ⟨w.heap.size, 1, none⟩ = some (.string a) := cell_k2 hb2 (hbW.keep0 (by simp [go_sem]))))
      have HB1 := Lib.hid (HG1.out.below.trans (hb2.mono HG1.out.below.size))
      clear hb2 HG1 H1 HB
      have HC0 := Lib.hid cc0
      have HC1 := Lib.hid cc1
      have hlw : w.heap.size < W1.heap.size := World.block_lt_of_cell? _ _ cc0
      go_loopw [7, 8, 9, 10] (fun fv tv mv iv wr => LgRel R N W1 fv tv mv iv wr) (fun _ _ _ i _ => N - (intOf i).toNat)
      case atStart => exact ⟨0, rfl, Nat.zero_le _, rfl, rfl, rfl, Below.refl _ _⟩
      case round =>
        obtain ⟨i, rfl, hi, rfl, rfl, rfl, hbr⟩ := hrel
        have e0 := cell_k2 hbr HC0.out
        have e1 := cell_k2 hbr HC1.out
        have HBR := Lib.hid hbr
        by_cases hlt : i < N
        · have z0 : (0 : Int) ≤ (i : Int) := by omega
          have z1 : (i : Int) < (N : Int) := by omega
          obtain ⟨t1, t2⟩ := crn_div (Hn := s.size) i
          have HNi := HNB.out
          obtain ⟨b1', b2'⟩ := crn_bd (Hn := s.size) (k := i) (by omega)
          have HFi := Lib.hid (fun X B la hla => HF.out X i B la hlt hla)
          have hfl := HFL.out i hlt
          have hRi := HRD.out i
          have hst : outF R (-1) (i + 1) = if (outF R (-1) i).2.2 < (R i).2 then (i, (R i).1, (R i).2) else outF R (-1) i := rfl
          rw [hRi] at hst
          have hge := outF_ge R (-1) i
          have HST := Lib.hid hst
          have HGE := Lib.hid hge
          have HV := Lib.hid (fun (w3 : World) (B3 : Nat) (v : Value) (ho : OwnI w3 B3 v (FN i).far) => OwnI.cellsN ho hfl (show 0 < N by omega))
          generalize outF R (-1) i = P at *
          generalize (FN i).far = fr at *
          generalize (crn s.size i).1 = x1 at *
          generalize (crn s.size i).2 = y1 at *
          have ww1 : IntKind.i64.wrap x1 = x1 := IntWalk.i64_in _ (by omega)
          have ww2 : IntKind.i64.wrap y1 = y1 := IntWalk.i64_in _ (by omega)
          clear hbr hst hge hRi hfl b1' b2'
          go_wp2_with fail
          go_region_held3 (fun W' => W'.cell? ⟨w.heap.size, 0, none⟩ = some (.string s) ∧ W'.cell? ⟨w.heap.size, 1, none⟩ = some (.string a))
            (first | exact ⟨e0, e1⟩ | assumption | exact ⟨(Gr.drew (Gr.refl _)).keep0 e0, (Gr.drew (Gr.refl _)).keep0 e1⟩ | exact ⟨(Gr.alloc (Gr.refl _) _).keep0 e0, (Gr.alloc (Gr.refl _) _).keep0 e1⟩ | exact ⟨(Gr.drew (Gr.alloc (Gr.refl _) _)).keep0 e0, (Gr.drew (Gr.alloc (Gr.refl _) _)).keep0 e1⟩ | exact ⟨(Gr.alloc (Gr.drew (Gr.refl _)) _).keep0 e0, (Gr.alloc (Gr.drew (Gr.refl _)) _).keep0 e1⟩ | exact hS3 | exact ⟨(Gr.drew (Gr.refl _)).keep0 hS3.1, (Gr.drew (Gr.refl _)).keep0 hS3.2⟩)
            ((go_at_call 17; refine (HFi.out _ wr.heap.size _ (by first | exact own_twoL _ _ (Nat.le_refl _) _ _ | exact OwnI.gr (own_twoL _ _ (Nat.le_refl _) _ _) (Gr.drew (Gr.refl _)))).mono ?_; rintro e w3 ⟨v3, rfl, hown3, hb3⟩; obtain ⟨g3, c3, rfl, hr3⟩ := HV.out _ _ _ hown3; have hB3 : Below wr.heap.size wr w3 := Below.trans (show Gr wr _ from (by repeat (first | exact Gr.refl _ | refine Gr.alloc ?_ _ | refine Gr.trans ?_ (by assumption) | refine Gr.drew ?_ | refine Gr.drewN ?_ _ | refine Gr.grow ?_ _ | refine Gr.setCell ?_ (by (try simp); (try omega)) _))).below (hb3.mono (show Gr wr _ from (by repeat (first | exact Gr.refl _ | refine Gr.alloc ?_ _ | refine Gr.trans ?_ (by assumption) | refine Gr.drew ?_ | refine Gr.drewN ?_ _ | refine Gr.grow ?_ _ | refine Gr.setCell ?_ (by (try simp); (try omega)) _))).below.size); have hS3 := And.intro (cell_k2 hB3 e0) (cell_k2 hB3 e1)))
          all_goals
            have HB3 := Lib.hid (HBR.out.trans (hB3.mono HBR.out.size))
            have HR3 := Lib.hid hr3
            have HS3 := Lib.hid hS3
            clear hr3 hown3 hb3 hB3 hS3 e0 e1
            go_wp2_with fail
            go_loopw [7, 8, 9, 43] (fun fv tv mv kv wk => Gr w3 wk ∧ ∃ k : Nat, kv = .int .i64 k ∧ k ≤ N ∧ fv = .int .i64 ((inF fr i P k).1 : Nat) ∧ tv = .int .i64 ((inF fr i P k).2.1 : Nat) ∧ mv = .int .i64 (inF fr i P k).2.2) (fun _ _ _ k _ => N - (intOf k).toNat)
            case atStart => exact ⟨by repeat (first | exact Gr.refl _ | refine Gr.alloc ?_ _ | refine Gr.trans ?_ (by assumption) | refine Gr.drew ?_ | refine Gr.drewN ?_ _ | refine Gr.grow ?_ _ | refine Gr.setCell ?_ (by (try simp); (try omega)) _), 0, rfl, Nat.zero_le _, rfl, rfl, rfl⟩
            case round =>
              obtain ⟨gr, k, rfl, hk, rfl, rfl, rfl⟩ := hrel
              by_cases hlk : k < N
              · have e1 := gr.keep0 (HR3.out k hlk)
                have z0 : (0 : Int) ≤ (k : Int) := by omega
                have z1 : (k : Int) < (N : Int) := by omega
                have hst : inF fr i P (k + 1) = if (inF fr i P k).2.2 < fr.getD k 0 then (i, k, fr.getD k 0) else inF fr i P k := rfl
                generalize inF fr i P k = p at *
                generalize fr.getD k 0 = d at *
                obtain ⟨p1, p2, p3⟩ := p
                simp only at hst ⊢
                have GRK := Lib.hid gr
                by_cases hd : p3 < d
                · rw [if_pos hd] at hst
                  have HS := Lib.hid hst
                  clear hst gr
                  go_wp2_with fail
                  go_roundw
                  case rel => exact ⟨GRK.out, k + 1, by go_num, by omega, by rw [HS.out], by rw [HS.out], by rw [HS.out]⟩
                  case measure => simp [intOf]; omega
                · rw [if_neg hd] at hst
                  have HS := Lib.hid hst
                  clear hst gr
                  go_wp2_with fail
                  go_roundw
                  case rel => exact ⟨GRK.out, k + 1, by go_num, by omega, by rw [HS.out], by rw [HS.out], by rw [HS.out]⟩
                  case measure => simp [intOf]; omega
              · obtain rfl : k = N := by omega
                have HX := Lib.hid ((inF_is fr i P HGE.out k).trans HST.out.symm)
                have hX := HX.out
                generalize inF fr i P k = p at *
                subst hX
                have GRK := Lib.hid gr
                clear gr
                go_wp2_with fail
                go_roundw
                case rel => exact ⟨i + 1, by go_num, by omega, rfl, rfl, rfl, HB3.out.trans (GRK.out.below.mono HB3.out.size)⟩
                case measure => simp [intOf]; omega
        · obtain rfl : i = N := by omega
          obtain ⟨f1, f2⟩ := HLT.out i (Nat.le_refl _)
          have hS := HLS.out
          rw [hS] at f1 f2 ⊢
          obtain ⟨r1, r2, m⟩ := S
          simp only at f1 f2 ⊢
          have HNi := HNB.out
          obtain ⟨t1, t2⟩ := crn_div (Hn := s.size) r1
          obtain ⟨t3, t4⟩ := crn_div (Hn := s.size) r2
          obtain ⟨b1', b2'⟩ := crn_bd (Hn := s.size) (k := r1) (by omega)
          obtain ⟨b3', b4'⟩ := crn_bd (Hn := s.size) (k := r2) (by omega)
          obtain ⟨x1, hx1⟩ : ∃ x, (crn s.size r1).1 = x := ⟨_, rfl⟩
          obtain ⟨y1, hy1⟩ : ∃ x, (crn s.size r1).2 = x := ⟨_, rfl⟩
          obtain ⟨x2, hx2⟩ : ∃ x, (crn s.size r2).1 = x := ⟨_, rfl⟩
          obtain ⟨y2, hy2⟩ : ∃ x, (crn s.size r2).2 = x := ⟨_, rfl⟩
          rw [hx1] at t1 b1'
          rw [hy1] at t2 b2'
          rw [hx2] at t3 b3'
          rw [hy2] at t4 b4'
          have HXX := Lib.hid (And.intro hx1 (And.intro hy1 (And.intro hx2 hy2)))
          clear hx1 hy1 hx2 hy2
          have ww1 : IntKind.i64.wrap x1 = x1 := IntWalk.i64_in _ (by omega)
          have ww2 : IntKind.i64.wrap y1 = y1 := IntWalk.i64_in _ (by omega)
          have ww3 : IntKind.i64.wrap x2 = x2 := IntWalk.i64_in _ (by omega)
          have ww4 : IntKind.i64.wrap y2 = y2 := IntWalk.i64_in _ (by omega)
          have HBT := Lib.hid (HB1.out.trans (HBR.out.mono HB1.out.size))
          have HWL := Lib.hid HBT.out.size
          clear hbr hS b1' b2' b3' b4' f1 f2
          go_wp2_with fail
          go_region_held3 (fun _ => True) (trivial) (fail)
          all_goals
            go_wp2_with fail
            refine bodyPost_ret (results_tmp4 rfl _ _ _) rfl ?_
            obtain ⟨hx1, hy1, hx2, hy2⟩ := HXX.out
            refine ⟨_, _, rfl, ?_, ?_, ?_⟩
            · rw [hx1, hy1]
              first
                | exact (two_lits _ _ HWL.out _ _ _ _).1
                | exact (two_lits _ _ HWL.out _ _ _ _).2
            · rw [hx2, hy2]
              first
                | exact (two_lits _ _ HWL.out _ _ _ _).1
                | exact (two_lits _ _ HWL.out _ _ _ _).2
            · exact HBT.out.trans ((Gr.drew (Gr.alloc (Gr.alloc (Gr.refl _) _) _)).below.mono HWL.out)
end Go.Proofs
