/-
  Contracts of chapter 3: the deliveries for numbers, the program's.
-/
import Derived.Test.YtcmlojidcpomjacPoC
import Derived.Test.YtcmlojidcpomjacArgs
import Derived.Test.YtcmlojidcpomjacQTail
import Derived.Deep.DeepCutAuto
import Derived.Deep.RegionHeld3
namespace Go.Proofs
open Go.RowKit
set_option linter.unusedVariables false
set_option linter.unusedSimpArgs false
theorem OwnI.elems {w : World} {B n c : Nat} {A : Option Addr} {xs : List Int} (h : OwnI w B (.slice A n c) xs) (hp : 0 < xs.length) : ∃ g, A = some ⟨g, 0, none⟩ ∧ g < w.heap.size ∧ ∀ j, j < xs.length → w.cell? ⟨g, j, none⟩ = some (.int .i64 (xs.getD j 0)) := by
  rcases h.view with ⟨rfl, _⟩ | ⟨_, g, c', hv, _, hg, _, hc, _⟩
  · simp at hp
  · cases hv; exact ⟨g, rfl, hg, hc⟩
def DRel (xs : List Int) (k : Int) (P : Nat) (w4 : World) (i : Value) (wr : World) : Prop := ∃ m : Nat, m ≤ xs.length ∧ i = .int .i64 m ∧ OwnI wr w4.heap.size (.slice (some ⟨w4.heap.size, 0, none⟩) P P) (ldR_ xs k P m) ∧ Below w4.heap.size w4 wr
def ERelS (xs : List Int) (k : Int) (P : Nat) (W : World) (s i : Value) (wr : World) : Prop := Gr W wr ∧ ∃ m : Nat, m ≤ P ∧ i = .int .i64 m ∧ s = .string (dls xs k P m)
set_option maxRecDepth 100000 in
set_option maxHeartbeats 3200000 in
theorem Try.iDeliveriesOf (w : World) (B : Nat) (v : Value) (xs : List Int) (k p : Int) (hl : xs.length ≤ 1048576) (h : OwnI w B v xs) :
    Calls Try.prog 24 #[.agg #[.int .i64 k, .int .i64 p], v] w fun e w' => e = .returned (.tuple #[.string (doV k p xs), .bool (doB k p xs)]) ∧ Below w.heap.size w w' := by
  have mixed : Try.prog.follows .mixedOrders = true := by kernel_rfl
  have HBX := Lib.hid (fun (W : World) (g : Gr (w.alloc (.cells #[.int .i64 k, .int .i64 p] 35)) W) => boxG (w := w) g)
  have ga : Gr w (w.alloc (.cells #[.int .i64 k, .int .i64 p] 35)) := Gr.alloc (Gr.refl _) _
  have ca : (w.alloc (.cells #[.int .i64 k, .int .i64 p] 35)).cell? ⟨w.heap.size, 0, none⟩ = some (.int .i64 k) := by simp [go_sem]
  have cb : (w.alloc (.cells #[.int .i64 k, .int .i64 p] 35)).cell? ⟨w.heap.size, 1, none⟩ = some (.int .i64 p) := by simp [go_sem]
  cases hg : gd k p
  · have hB : doB k p xs = false := by simp [doB, hg]
    rw [show doV k p xs = ⟨#[]⟩ by simp [doV, hB], hB]
    have HG := Lib.hid hg
    obtain ⟨A, c, rfl, h⟩ := h.eta
    clear h hg hB
    go_enter Try.func24, Try.ntmps24
    go_wp2_with (first | (go_at_call 48; refine (Try.iIsStreet _ _ _ HG.out _).mono ?_; rintro e w1 ⟨rfl, g1⟩; have ca1 := g1.keep0 ca; have cb1 := g1.keep0 cb))
    go_ret2
    exact ⟨rfl, (ga.trans (by repeat (first | exact Gr.refl _ | refine Gr.alloc ?_ _ | refine Gr.trans ?_ (by assumption) | refine Gr.drew ?_ | refine Gr.drewN ?_ _ | refine Gr.grow ?_ _ | refine Gr.setCell ?_ (by (try simp); (try omega)) _))).below⟩
  · have HG := Lib.hid hg
    obtain ⟨a1, a2, a3, a4⟩ := gd_t hg
    by_cases h60 : p ≤ 60
    · have d60 : decide (60 < p) = false := by simp; omega
      cases hr : risB xs 1 (hs k p)
      · have hB : doB k p xs = false := by simp [doB, hr]
        rw [show doV k p xs = ⟨#[]⟩ by simp [doV, hB], hB]
        have HR := Lib.hid (fun (W : World) (g : Gr w W) => Try.areHouses W B v xs k p false hg (risB_iff xs 1 (hs k p) false hr) hl (h.gr g))
        obtain ⟨A, c, rfl, h⟩ := h.eta
        clear h hg hB hr
        go_enter Try.func24, Try.ntmps24
        go_wp2_with (first | (go_at_call 48; refine (Try.iIsStreet _ _ _ HG.out _).mono ?_; rintro e w1 ⟨rfl, g1⟩; have ca1 := g1.keep0 ca; have cb1 := g1.keep0 cb) | (go_at_call 49; refine (HR.out _ (ga.trans g1)).mono ?_; rintro e w4 ⟨rfl, g4⟩))
        go_ret2
        exact ⟨rfl, (ga.trans (by repeat (first | exact Gr.refl _ | refine Gr.alloc ?_ _ | refine Gr.trans ?_ (by assumption) | refine Gr.drew ?_ | refine Gr.drewN ?_ _ | refine Gr.grow ?_ _ | refine Gr.setCell ?_ (by (try simp); (try omega)) _))).below⟩
      · have hB : doB k p xs = true := by simp [doB, hr, hg, h60]
        rw [show doV k p xs = dls xs k p p.toNat by simp [doV, hB], hB]
        have hR := (risB_iff xs 1 (hs k p) true hr).1 rfl
        have HR := Lib.hid (fun (W : World) (g : Gr w W) => Try.areHouses W B v xs k p true hg (risB_iff xs 1 (hs k p) true hr) hl (h.gr g))
        have HRI := Lib.hid hR
        have HO := Lib.hid h
        have GDD := Lib.hid (show Gd k p from of_decide_eq_true hg)
        obtain ⟨i0, hi, hz0, hz1, hz2⟩ := info_parts Try.infoI
        have HII := Lib.hid hi
        obtain ⟨P, hP⟩ : ∃ P : Nat, p = (P : Int) := ⟨p.toNat, by omega⟩
        subst hP
        rw [show ((P : Int)).toNat = P by omega]
        obtain ⟨A, c, rfl, h⟩ := h.eta
        have HEL := Lib.hid (fun hp => h.elems hp)
        clear h hg hB hr hR hi
        go_enter Try.func24, Try.ntmps24
        go_wp2_with (first | (go_at_call 48; refine (Try.iIsStreet _ _ _ HG.out _).mono ?_; rintro e w1 ⟨rfl, g1⟩; have ca1 := g1.keep0 ca; have cb1 := g1.keep0 cb) | (go_at_call 49; refine (HR.out _ (ga.trans g1)).mono ?_; rintro e w4 ⟨rfl, g4⟩; have ca4 := g4.keep0 ca1; have cb4 := g4.keep0 cb1) | (at_make; refine wpList_make_full _ rfl _ _ 33 rfl w4.heap.size 3 i0 (.int .i64 0) 1 Try.underlying33 HII.out hz0 hz1 .i64 .i64 _ _ P rfl rfl (by rfl) (by rfl) (by rw [hz2]; omega) (by unfold maxLen; omega) (Nat.le_refl _) ?_; intro w2 hown2 hgrow2))
        have hb2 : Below w4.heap.size w4 w2 := (Below.refl _ _).grown hgrow2 (Nat.le_refl _) (by simp)
        have ho2 : OwnI w2 w4.heap.size (.slice (some ⟨w4.heap.size, 0, none⟩) P P) (ldR_ xs k P 0) := by
          unfold OwnI
          rw [ldR_zero, show ((P : Int)).toNat = P by omega]
          simpa [Value.cells, toList_madeCells_one] using hown2
        have HO2 := Lib.hid ho2
        have HB2 := Lib.hid hb2
        have G4 := Lib.hid (ga.trans (g1.trans g4))
        have CA := Lib.hid ca4
        have CB := Lib.hid cb4
        have zw4 : w.heap.size < w4.heap.size := World.block_lt_of_cell? _ _ ca4
        clear hown2 hgrow2 ho2 hb2 ga g1 g4 ca1 cb1 ca4 cb4 ca cb
        go_loopw [8, 9, 32] (fun _ _ i wr => DRel xs k P w4 i wr) (fun _ _ i _ => (xs.length - intOf i).toNat)
        case atStart => exact ⟨0, Nat.zero_le _, rfl, HO2.out, HB2.out⟩
        case round =>
          obtain ⟨m, hm, rfl, ho, hb⟩ := hrel
          have c0 := (bcell hb).1 _ _ zw4 |>.trans CA.out
          have c1 := (bcell hb).1 _ _ zw4 |>.trans CB.out
          by_cases hlt : m < xs.length
          · obtain ⟨g, rfl, hgw, hc⟩ := HEL.out (by omega)
            have e1 := (hb.cell (p := ⟨g, m, none⟩) (Nat.lt_of_lt_of_le hgw G4.out.below.size)).trans (G4.out.keep2 (hc m hlt))
            have hst := (HRI.out m hlt).1
            have HST := Lib.hid (ldR_step GDD.out HRI.out hlt)
            have hsb := sdo_bd k P (xs.getD m 0) hst.1
            have hpb := plo_bd k P (xs.getD m 0) a3 hst.1 hst.2
            have z0 : (0 : Int) ≤ (m : Int) := by omega
            have z1 : (m : Int) < (xs.length : Int) := by omega
            have hlr := ldR_len xs k P m
            rw [show ((P : Int)).toNat = P by omega] at hlr
            generalize xs.getD m 0 = y at *
            have HPO := Lib.hid (fun (W : World) => Try.placeOf k P y W a1 a2 a3 a4 hst.1 hst.2)
            obtain ⟨q, hq⟩ : ∃ q : Nat, plo k P y = (q : Int) := ⟨(plo k P y).toNat, by omega⟩
            have hqP : q < P := by omega
            obtain ⟨s0, s1⟩ := ho.at hlr q hqP
            have hbd := ldR_bd xs k P m q (by omega)
            rw [hq] at HPO HST
            rw [show ((q : Int)).toNat = q by omega] at HST
            generalize (ldR_ xs k P m).getD q 0 = u at *
            have zq0 : (0 : Int) ≤ (q : Int) := by omega
            have zq1 : (q : Int) < (P : Int) := by omega
            have HOO := Lib.hid ho
            have HBB := Lib.hid hb
            have HLR := Lib.hid hlr
            have hs01 : sdo k P y = 0 ∨ sdo k P y = 1 := by omega
            clear ho hb hc hgw hst hpb hq hsb hlr
            generalize sdo k P y = sd at *
            rcases hs01 with rfl | rfl
            · go_wp2_with (first | (go_at_call 50; refine (HPO.out _).mono ?_; rintro e w5 ⟨rfl, g5⟩; have d0 := g5.keep0 c0; have d1 := g5.keep0 c1; have d2 := g5.keep2 s0))
              have gal : Gr w5 (w5.alloc (.cells #[.int .i64 0, .int .i64 q] 62)) := Gr.alloc (Gr.refl _) _
              obtain ⟨f2, f3⟩ := boxG (w := w5) (Gr.refl (w5.alloc (.cells #[.int .i64 0, .int .i64 q] 62)))
              have f4 := gr_all gal d2
              have hz4 : w4.heap.size < w5.heap.size := Nat.lt_of_lt_of_le (World.ownsRow.lt HOO.out _ rfl).2 g5.below.size
              have f5 := gr_all_f gal hz4 (((bcell g5.below).2 _ _ (World.ownsRow.lt HOO.out _ rfl).2).trans s1)
              clear gal
              (refine wp_region_grown_tail 9 mixed (by kernel_rfl) ?_; simp only [List.take_succ_cons, List.take_zero, List.drop_succ_cons, List.drop_zero]; (repeat (first | go_big_quiet_step ((fail)) | quiet_step ((fail)))); refine wpQuiet_nil ?_; intro _ hw'; obtain ⟨⟨nq, osq⟩, hw''⟩ := hw'; subst hw'')
              go_wp2
              go_roundw
              case rel =>
                have e := HST.out
                simp only [show ((0 : Int) = 0) = True from by simp, if_true, if_false] at e
                refine ⟨m + 1, by omega, by go_num, ?_, ?_⟩
                · rw [← e]
                  exact OwnI.set (OwnI.gr HOO.out (g5.trans (by repeat (first | exact Gr.refl _ | refine Gr.alloc ?_ _ | refine Gr.trans ?_ (by assumption) | refine Gr.drew ?_ | refine Gr.drewN ?_ _ | refine Gr.grow ?_ _ | refine Gr.setCell ?_ (by (try simp); (try omega)) _)))) HLR.out q (u + 1)
                · exact ((HBB.out.trans (g5.below.mono HBB.out.size)).trans (Gr.below (by repeat (first | exact Gr.refl _ | refine Gr.alloc ?_ _ | refine Gr.trans ?_ (by assumption) | refine Gr.drew ?_ | refine Gr.drewN ?_ _ | refine Gr.grow ?_ _ | refine Gr.setCell ?_ (by (try simp); (try omega)) _)) |>.mono (Nat.le_of_lt hz4))).setCell (Nat.le_refl _) _
              case measure => simp [intOf]; omega
            · go_wp2_with (first | (go_at_call 50; refine (HPO.out _).mono ?_; rintro e w5 ⟨rfl, g5⟩; have d0 := g5.keep0 c0; have d1 := g5.keep0 c1; have d2 := g5.keep2 s0))
              have gal : Gr w5 (w5.alloc (.cells #[.int .i64 1, .int .i64 q] 62)) := Gr.alloc (Gr.refl _) _
              obtain ⟨f2, f3⟩ := boxG (w := w5) (Gr.refl (w5.alloc (.cells #[.int .i64 1, .int .i64 q] 62)))
              have f4 := gr_all gal d2
              have hz4 : w4.heap.size < w5.heap.size := Nat.lt_of_lt_of_le (World.ownsRow.lt HOO.out _ rfl).2 g5.below.size
              have f5 := gr_all_f gal hz4 (((bcell g5.below).2 _ _ (World.ownsRow.lt HOO.out _ rfl).2).trans s1)
              clear gal
              (refine wp_region_grown_tail 9 mixed (by kernel_rfl) ?_; simp only [List.take_succ_cons, List.take_zero, List.drop_succ_cons, List.drop_zero]; (repeat (first | go_big_quiet_step ((fail)) | quiet_step ((fail)))); refine wpQuiet_nil ?_; intro _ hw'; obtain ⟨⟨nq, osq⟩, hw''⟩ := hw'; subst hw'')
              go_wp2
              go_roundw
              case rel =>
                have e := HST.out
                simp only [show ((1 : Int) = 0) = False from by simp, if_true, if_false] at e
                refine ⟨m + 1, by omega, by go_num, ?_, ?_⟩
                · rw [← e]
                  exact OwnI.set (OwnI.gr HOO.out (g5.trans (by repeat (first | exact Gr.refl _ | refine Gr.alloc ?_ _ | refine Gr.trans ?_ (by assumption) | refine Gr.drew ?_ | refine Gr.drewN ?_ _ | refine Gr.grow ?_ _ | refine Gr.setCell ?_ (by (try simp); (try omega)) _)))) HLR.out q (u + 2)
                · exact ((HBB.out.trans (g5.below.mono HBB.out.size)).trans (Gr.below (by repeat (first | exact Gr.refl _ | refine Gr.alloc ?_ _ | refine Gr.trans ?_ (by assumption) | refine Gr.drew ?_ | refine Gr.drewN ?_ _ | refine Gr.grow ?_ _ | refine Gr.setCell ?_ (by (try simp); (try omega)) _)) |>.mono (Nat.le_of_lt hz4))).setCell (Nat.le_refl _) _
              case measure => simp [intOf]; omega
          · obtain rfl : m = xs.length := by omega
            have HOO := Lib.hid ho
            have HBB := Lib.hid hb
            have hlr := ldR_len xs k P xs.length
            rw [show ((P : Int)).toNat = P by omega] at hlr
            have HLR := Lib.hid hlr
            have HRC := Lib.hid (fun (j : Nat) (hj : j < P) => ((ho.at hlr j hj).1).trans (congrArg (fun z => some (Value.int .i64 z)) (ldR_all xs k P j (by omega))))
            clear ho hb hlr
            have HBW := Lib.hid (G4.out.below.trans (HBB.out.mono G4.out.below.size))
            go_wp2
            go_loopw [10, 12, 52] (fun t _ i w6 => ERelS xs k P wr t i w6) (fun _ _ i _ => (P - intOf i).toNat)
            case atStart => exact ⟨Gr.refl _, 0, Nat.zero_le _, rfl, rfl⟩
            case round =>
              obtain ⟨gr, j, hj, rfl, rfl⟩ := hrel
              by_cases hjl : j < P
              · have e1 := gr.keep2 (HRC.out j hjl)
                have hS := dls_size xs k P j
                have HD := Lib.hid (dls_succ xs k P j)
                have hbd := ld_bd xs k P j
                have z0 : (0 : Int) ≤ (j : Int) := by omega
                have z1 : (j : Int) < (P : Int) := by omega
                have GR := Lib.hid gr
                have hcs : ld xs k P j = 0 ∨ ld xs k P j = 1 ∨ ld xs k P j = 2 ∨ ld xs k P j = 3 := by omega
                clear gr hbd
                generalize dls xs k P j = S at *
                have hz : ∀ c : UInt8, (⟨#[c]⟩ : ByteArray).size = 1 := fun _ => rfl
                have hadd := fun c W => run_string_add (P := Try.prog) (w := W) S ⟨#[c]⟩ (by omega) (by rw [hz]; decide)
                clear hz
                rcases hcs with q | q | q | q
                all_goals
                  rw [q] at HD e1
                  have HD2 := Lib.hid HD.out
                  clear HD q
                  go_wp2
                  exact ⟨⟨GR.out, j + 1, by omega, by go_num, by rw [HD2.out]; exact congrArg (fun z => Value.string (S ++ z)) (by first | rfl | decide)⟩, by simp [intOf]; omega⟩
              · obtain rfl : j = P := by omega
                have GR := Lib.hid gr
                clear gr
                go_wp2
                go_ret2
                exact ⟨rfl, HBW.out.trans (GR.out.below.mono HBW.out.size)⟩
    · have d60 : decide (60 < p) = true := by simp; omega
      have hB : doB k p xs = false := by simp [doB, h60]
      rw [show doV k p xs = ⟨#[]⟩ by simp [doV, hB], hB]
      obtain ⟨A, c, rfl, h⟩ := h.eta
      clear h hg hB
      go_enter Try.func24, Try.ntmps24
      go_wp2_with (first | (go_at_call 48; refine (Try.iIsStreet _ _ _ HG.out _).mono ?_; rintro e w1 ⟨rfl, g1⟩; have ca1 := g1.keep0 ca; have cb1 := g1.keep0 cb))
      go_ret2
      exact ⟨rfl, (ga.trans (by repeat (first | exact Gr.refl _ | refine Gr.alloc ?_ _ | refine Gr.trans ?_ (by assumption) | refine Gr.drew ?_ | refine Gr.drewN ?_ _ | refine Gr.grow ?_ _ | refine Gr.setCell ?_ (by (try simp); (try omega)) _))).below⟩
end Go.Proofs
