/-
  Contracts: what is reached by a function that tells where one comes (the program's search).
-/
import Derived.Test.YtfdiiichjopncaaDoorRbA
import Derived.Deep.LoopGhost
namespace Go.Proofs
open Go.RowKit Av Gm Go.Maps
set_option linter.unusedVariables false
set_option linter.unusedSimpArgs false
def Tryd.R1 (Hn N : Nat) (nb : Nat → Nat → Option Nat) (s0 b : Nat) (W0 : World) (gk : Nat) (v : Value) (wr : World) : Prop :=
  ∃ k n D, k + gk = N ∧ Below W0.heap.size W0 wr ∧ QOwn 47 2 (ccs Hn) wr W0.heap.size v ((run nb N s0 k).q.drop k) ∧ (∀ g, v.ownBlock = some g → g ≠ b) ∧
    wr.ownsMap Tryd.prog 47 rElem b n D ∧ n ≤ 1 + 4 * k ∧ MapIs Hn N D (run nb N s0 k) ∧ k ≤ (run nb N s0 k).q.length
def Tryd.R2 (Hn N : Nat) (nb : Nat → Nat → Option Nat) (ls : Nat → List Nat) (u : Nat) (st : St) (k b bat BL : Nat) (lv : Value) (W0 : World) (gk : Nat) (v jv : Value) (wr : World) : Prop :=
  ∃ j n D, j + gk = (ls u).length ∧ jv = .int .i64 (j : Nat) ∧ Below W0.heap.size W0 wr ∧ QOwn 47 2 (ccs Hn) wr W0.heap.size v ((scan nb u st j).q.drop k) ∧ (∀ g, v.ownBlock = some g → g ≠ b ∧ g ≠ bat ∧ lv.ownBlock ≠ some g) ∧
    wr.ownsMap Tryd.prog 47 rElem b n D ∧ n ≤ 1 + 4 * k + j ∧ MapIs Hn N D (scan nb u st j) ∧ OwnE 47 2 (ccs Hn) wr BL lv (ls u) ∧
    wr.cell? ⟨bat, 0, none⟩ = some (.int .i64 (crn Hn u).1) ∧ wr.cell? ⟨bat, 1, none⟩ = some (.int .i64 (crn Hn u).2)
set_option maxRecDepth 100000 in
set_option maxHeartbeats 4000000 in
theorem Tryd.reachedByW (w : World) (Wn Hn : Nat) (ls : Nat → List Nat) (bw bb : Nat) (s0 : Nat) (hW : 1 ≤ Wn ∧ Wn ≤ 8) (hH : 1 ≤ Hn ∧ Hn ≤ 8) (hls : ∀ u, u < Wn * Hn → ∀ v ∈ ls u, v < Wn * Hn) (h4 : ∀ u, (ls u).length ≤ 4) (hs : s0 < Wn * Hn)
    (HN0 : ∀ (X : World) (u : Nat), u < Wn * Hn → Below w.heap.size w X → Calls Tryd.prog 26 (#[.agg #[.int .i64 (crn Hn u).1, .int .i64 (crn Hn u).2]] ++ #[.pointer (some ⟨bw, 0, none⟩), .pointer (some ⟨bb, 0, none⟩)]) X fun e w' => ∃ v, e = .returned v ∧ OwnE 47 2 (ccs Hn) w' X.heap.size v (ls u) ∧ Below X.heap.size X w') :
    Calls Tryd.prog 25 #[.agg #[.int .i64 (crn Hn s0).1, .int .i64 (crn Hn s0).2], .func (.func 26) #[] #[.pointer (some ⟨bw, 0, none⟩), .pointer (some ⟨bb, 0, none⟩)]] w fun e w' => ∃ b n D, e = .returned (.map (some b)) ∧
      w'.ownsMap Tryd.prog 47 rElem b n D ∧ MapIs Hn (Wn * Hn) D (fin (nbL ls) (Wn * Hn) s0) ∧ Below w.heap.size w w' := by
  have mixed : Tryd.prog.follows .mixedOrders = true := by kernel_rfl
  have HN := Lib.hid HN0
  clear HN0
  obtain ⟨W0, hW0⟩ : ∃ W0, w.alloc (.cells #[.int .i64 (crn Hn s0).1, .int .i64 (crn Hn s0).2] 47) = W0 := ⟨_, rfl⟩
  have GW : Gr w W0 := by subst hW0; exact by repeat (first | exact Gr.refl _ | refine Gr.alloc ?_ _ | refine Gr.trans ?_ (by assumption) | refine Gr.drew ?_ | refine Gr.drewN ?_ _ | refine Gr.grow ?_ _ | refine Gr.setCell ?_ (by (try simp); (try omega)) _)
  have k3 : W0.cell? ⟨w.heap.size, 0, none⟩ = some (.int .i64 (crn Hn s0).1) := by subst hW0; simp [go_sem]
  have k4 : W0.cell? ⟨w.heap.size, 1, none⟩ = some (.int .i64 (crn Hn s0).2) := by subst hW0; simp [go_sem]
  -- the map with the first corner
  have hmm := fun (W : World) => (run_makeMap (P := Tryd.prog) 50 W)
  have hown0 := World.ownsMap_made (H := Unit) W0 Tryd.prog 47 rElem
  obtain ⟨w1, hrun1, hown1, hgr1⟩ := hown0.update Tryd.cLaw Tryd.underlying50 (by decide) (Tryd.keyOfC (crn Hn s0) (crn_wf hW.2 hH.2 hs)) (rElem_mk 0 1)
  unfold keyC at hrun1
  have hms := Tryd.mapStart hW.2 hH.2 hs
  have hb1 : Below W0.heap.size W0 w1 := ((Below.refl _ W0).alloc (Nat.le_refl _) _).trans (Below.grown (Below.refl _ _) hgr1 (by simp) (fun j hj => by cases hj; exact Nat.le_refl _))
  have l3 := (hb1.cell (p := ⟨w.heap.size, 0, none⟩) (World.block_lt_of_cell? _ _ k3)).trans k3
  have l4 := (hb1.cell (p := ⟨w.heap.size, 1, none⟩) (World.block_lt_of_cell? _ _ k4)).trans k4
  have m3 := (Gr.alloc (Gr.refl W0) (.map #[] 0)).keep0 k3
  have m4 := (Gr.alloc (Gr.refl W0) (.map #[] 0)).keep0 k4
  have HB1 := Lib.hid hb1
  have HM1 := Lib.hid hown1
  have HMS := Lib.hid hms
  have HG := Lib.hid GW
  have sz1 : W0.heap.size + 1 ≤ w1.heap.size := by have := hgr1.size; simpa using this
  clear hown0 hown1 hgr1 hms hb1 GW
  go_enter Tryd.func25, Tryd.ntmps25
  go_wp2_with fail
  clear hmm hrun1 l3 l4 m3 m4 k3 k4
  have hv := @nbL_valid ls (Wn * Hn) hls
  have HV := Lib.hid hv
  have hN : Wn * Hn ≤ 64 := Nat.mul_le_mul hW.2 hH.2
  clear hv
  go_loopg [6] (Wn * Hn) (fun gk v wr => Tryd.R1 Hn (Wn * Hn) (nbL ls) s0 W0.heap.size W0 gk v wr)
  case atStart =>
    have gA := Gr.alloc (Gr.refl w1) (.cells #[.int .i64 (crn Hn s0).1, .int .i64 (crn Hn s0).2] 47)
    exact ⟨0, 1, _, by omega, HB1.out.trans (gA.below.mono HB1.out.size), QOwn.one (ccs_len Hn) (heap_alloc_new w1 _) HB1.out.size, fun g hg => by simp only [Value.ownBlock, Option.some.injEq] at hg; omega, ownsMap_gr' HM1.out gA, by omega, HMS.out, Nat.zero_le _⟩
  case round =>
    obtain ⟨k, n, D, hkg, hbl, hq, hqb, hown, hn, hM, hkl⟩ := hrel
    have hbf : Bf (nbL ls) (Wn * Hn) s0 (run (nbL ls) (Wn * Hn) s0 k) k 0 := by
      rcases run_bf HV.out hs k with ⟨_, b⟩ | ⟨q, _⟩
      · exact b
      · omega
    by_cases hk : k < (run (nbL ls) (Wn * Hn) s0 k).q.length
    · have hnext : run (nbL ls) (Wn * Hn) s0 (k + 1) = scan (nbL ls) ((run (nbL ls) (Wn * Hn) s0 k).q.getD k 0) (run (nbL ls) (Wn * Hn) s0 k) 4 := by
        simp only [run]; rw [if_pos hk]
      have hdrop : (run (nbL ls) (Wn * Hn) s0 k).q.drop k = (run (nbL ls) (Wn * Hn) s0 k).q.getD k 0 :: (run (nbL ls) (Wn * Hn) s0 k).q.drop (k + 1) := by
        rw [List.drop_eq_getElem_cons hk]; simp [List.getD, hk]
      generalize run (nbL ls) (Wn * Hn) s0 k = st at *
      have hum := Gm.getD_mem _ _ hk
      generalize huu : st.q.getD k 0 = u at *
      have huN := hbf.inv.qn u hum
      have hu0 := (hbf.inv.fq u huN).2 hum
      have hu1 := (hbf.inv.fm u huN).2
      have hlen := hbf.inv.len
      rw [hdrop] at hq
      obtain ⟨g, o, c1, rfl, hg1, hg2, hc1, hc2, hcell, htail⟩ := hq.uncons (ccs_len Hn)
      have e0 := hcell 0 _ rfl
      have e1 := hcell 1 _ rfl
      rw [Nat.add_zero] at e0
      have hlk := Tryd.lookF hW.2 hH.2 hown hM huN hu0 (wr.alloc (.cells #[.int .i64 (crn Hn u).1, .int .i64 (crn Hn u).2] 47)) (Gr.alloc (Gr.refl _) _)
      have hwf : IntKind.i64.wrap (f st u + 1) = f st u + 1 := IntWalk.i64_in _ (by omega)
      have hf64 : f st u ≤ 64 := by omega
      have hF0 := Tryd.fieldR0
      have hF1 := Tryd.fieldR1
      generalize hdl : (st.q.drop (k + 1)).length = dl at *
      have HDL := Lib.hid hdl
      clear hdl
      have z1 : (0 : Int) < (dl : Int) + 1 := by omega
      have z2 : (0 : Int) ≤ (dl : Int) + 1 := by omega
      have HQ := Lib.hid hq
      have HTL := Lib.hid htail
      have HOWN := Lib.hid hown
      have HMM := Lib.hid hM
      have HBL := Lib.hid hbl
      have HBF := Lib.hid hbf
      have HQB := Lib.hid hqb
      have HNX := Lib.hid hnext
      have HDR := Lib.hid hdrop
      have HUU := Lib.hid huu
      have HKG := Lib.hid hkg
      clear hq htail hown hM hbl hbf hqb hnext hcell hdrop hum huu hkg
      obtain ⟨wo, rfl⟩ : ∃ x, x = wr := ⟨_, rfl⟩
      go_wp2_with (first | (go_at_call 26; refine (HN.out _ u huN (HG.out.below.trans ((HBL.out.alloc HBL.out.size _).mono HG.out.below.size))).mono ?_; rintro e w4 ⟨lv0, rfl, hL, hb4⟩; obtain ⟨lA, lc, rfl, hL⟩ := OwnE.eta hL; rw [World.size_alloc] at hL hb4))
      clear hlk e0 e1 hwf z1 z2
      have GA : Gr wo (wo.alloc (.cells #[.int .i64 (crn Hn u).1, .int .i64 (crn Hn u).2] 47)) := Gr.alloc (Gr.refl _) _
      have ba0 := (hb4.cell (p := ⟨wo.heap.size, 0, none⟩) (by simp)).trans (show (wo.alloc (.cells #[.int .i64 (crn Hn u).1, .int .i64 (crn Hn u).2] 47)).cell? ⟨wo.heap.size, 0, none⟩ = some (.int .i64 (crn Hn u).1) by simp [go_sem])
      have ba1 := (hb4.cell (p := ⟨wo.heap.size, 1, none⟩) (by simp)).trans (show (wo.alloc (.cells #[.int .i64 (crn Hn u).1, .int .i64 (crn Hn u).2] 47)).cell? ⟨wo.heap.size, 1, none⟩ = some (.int .i64 (crn Hn u).2) by simp [go_sem])
      have hs4 := hb4.size
      have hlt4 := fun g hg => (World.ownsRow.lt hL g hg)
      have BQ := HQ.out.lt
      have hsb := HBL.out.size
      obtain ⟨lv, hlv⟩ : ∃ lv, Value.slice lA (ls u).length lc = lv := ⟨_, rfl⟩
      have hneq : lv.ownBlock ≠ some W0.heap.size := fun e => by rw [← hlv] at e; have := (hlt4 _ e).1; omega
      have HLB := Lib.hid (show lv.ownBlock = none ∨ lv.ownBlock ≠ some W0.heap.size from .inr hneq)
      have HR4 := Lib.hid (show OwnE 47 2 (ccs Hn) w4 (wo.heap.size + 1) lv (ls u) by rw [← hlv]; exact hL)
      have HL4 := Lib.hid hlt4
      have HLV := Lib.hid hlv
      have HB4 := Lib.hid (GA.below.trans (hb4.mono (Nat.le_succ _)) : Below wo.heap.size wo w4)
      have HBA := Lib.hid (And.intro ba0 ba1)
      have HNE := Lib.hid hneq
      clear GA hL hb4 hlt4 BQ ba0 ba1 hneq hlv
      go_loopg [6, 36] (ls u).length (fun gk v jv wr => Tryd.R2 Hn (Wn * Hn) (nbL ls) ls u st k W0.heap.size wo.heap.size (wo.heap.size + 1) lv W0 gk v jv wr)
      case atStart =>
        refine ⟨0, n, D, by omega, rfl, HBL.out.trans (HB4.out.mono HBL.out.size), by rw [show (scan (nbL ls) u st 0) = st from rfl, HDR.out]; exact HQ.out.ofBelow HB4.out (Nat.le_refl _), fun g' hg' => ?_, ownsMap_ofBelow HOWN.out HB4.out (Nat.le_refl _), by omega, HMM.out, HR4.out, HBA.out.1, HBA.out.2⟩
        have := HQB.out g' hg'
        simp only [Value.ownBlock, Option.some.injEq] at hg'
        refine ⟨by omega, by omega, fun e => ?_⟩
        rw [← HLV.out] at e
        have := (HL4.out _ e).1
        omega
      case round =>
        obtain ⟨j, n2, D2, hjg, rfl, hbl2, hq2, hqb2, hown2, hn2, hM2, hrow, ha0, ha1⟩ := hrel
        have hjl : j ≤ (ls u).length := by omega
        have hl4 := h4 u
        obtain ⟨bf2, qk2, lt2, kp2⟩ := HBF.out.scan HV.out hk HUU.out j (by omega)
        have hu2 : u ∈ (scan (nbL ls) u st j).q := by have := Gm.getD_mem _ _ lt2; rwa [qk2] at this
        have hfu : f (scan (nbL ls) u st j) u = f st u := kp2 u hu0
        have hw0 := hbl2.size
        have hwo := HBL.out.size
        by_cases hj : j < (ls u).length
        · obtain ⟨m, hm⟩ : ∃ m, (ls u).getD j 0 = m := ⟨_, rfl⟩
          have hmem : m ∈ ls u := by rw [← hm]; exact Gm.getD_mem _ _ hj
          have hmN : m < Wn * Hn := hls u huN m hmem
          have hnb : nbL ls u j = some m := by unfold nbL; rw [← hm]; simp [List.getD, hj]
          have hrow' := hrow
          rw [← HLV.out] at hrow'
          rcases hrow'.view (ccs_len Hn) 0 with ⟨hx, _⟩ | ⟨_, gl, cl, hvl, _, gl2, hcl1, hcl2, hcell, _⟩
          · rw [hx] at hj; simp at hj
          have r0 := hcell j 0 hj (by decide)
          have r1 := hcell j 1 hj (by decide)
          rw [hm] at r0 r1
          change _ = some (Value.int .i64 (crn Hn m).1) at r0
          change _ = some (Value.int .i64 (crn Hn m).2) at r1
          rw [Nat.add_zero] at r0
          have zz0 : (j : Int) < ((ls u).length : Int) := by omega
          have zz1 : (0 : Int) ≤ (j : Int) := by omega
          simp only [Value.slice.injEq] at hvl
          obtain ⟨rfl, -, rfl⟩ := hvl
          have HLT := Lib.hid (fun g hg => (World.ownsRow.lt hrow g hg).2)
          have g3 : Gr wr wr := Gr.refl wr
          have HLW := Lib.hid hrow
          have HBI := Lib.hid hbl2
          have HQI := Lib.hid hq2
          have HOWI := Lib.hid hown2
          have HMI := Lib.hid hM2
          have HQB2 := Lib.hid hqb2
          have BF2 := Lib.hid bf2
          have LT2 := Lib.hid lt2
          have QK2 := Lib.hid qk2
          have HU2 := Lib.hid hu2
          have HFU := Lib.hid hfu
          have HAI := Lib.hid (And.intro ha0 ha1)
          have HNS := Lib.hid (show scan (nbL ls) u st (j + 1) = Gm.visit u (scan (nbL ls) u st j) (some m) by show Gm.visit u (scan (nbL ls) u st j) (nbL ls u j) = _; rw [hnb])
          clear hrow hrow' hbl2 hq2 hown2 hM2 hqb2 bf2 lt2 qk2 hu2 hfu ha0 ha1 kp2 hnb hmem hm hcell
          generalize scan (nbL ls) u st j = sj at *
          have hI := BF2.out.inv
          have hfm := hI.fm m hmN
          have hln := hI.len
          have hu0' : 0 ≤ f sj u := by rw [HFU.out]; exact hu0
          have HU0 := Lib.hid hu0'
          have HI := Lib.hid hI
          have HLO := Lib.hid (fun (W : World) (k' : Gr wr W) => Tryd.lookOk hW.2 hH.2 HOWI.out HMI.out hmN W k')
          have hkm := Tryd.keyOfC (crn Hn m) (crn_wf hW.2 hH.2 hmN)
          have HKM := Lib.hid hkm
          have hwf : IntKind.i64.wrap (f st u + 1) = f st u + 1 := IntWalk.i64_in _ (by omega)
          have HWF := Lib.hid hwf
          clear hI hu0' hkm hwf
          by_cases hnew : f sj m < 0
          · have hg0 : Gm.g sj m = 0 := HI.out.w0 m hmN hnew
            rw [if_neg (by omega), if_neg (by omega), decide_eq_false (by omega)] at HLO
            have HNEW := Lib.hid hnew
            have HG0 := Lib.hid hg0
            have hql : (sj.q.drop k).length ≤ 64 := by rw [List.length_drop]; omega
            have hqp : 0 < (sj.q.drop k).length := by have := LT2.out; rw [List.length_drop]; omega
            have HQL := Lib.hid hql
            have HQP := Lib.hid hqp
            clear hnew hg0 hql hqp
            have HQNE := Lib.hid (fun b hb => HQI.out.lt b hb HQP.out)
            have QNE := Lib.hid (show ∀ b, wr.heap.size ≤ b → some b ≠ u6.ownBlock from fun b hb e => by have := HQNE.out b e.symm; omega)
            have hs0 := HBI.out.size
            have hlo := HLO.out (wr.alloc (.cells #[.int .i64 (crn Hn m).1, .int .i64 (crn Hn m).2] 47)) (Gr.alloc g3 _)
            go_wp2_with (first | (at_builtin; refine wpList_appQ rfl (ccs_len Hn) (ccs_one Hn) _ _ 61 rfl Tryd.underlying61 Tryd.infoC rfl (by decide) (by decide) rfl (HQI.out.gr (Gr.alloc (Gr.alloc (Gr.alloc g3 _) _) _)) HQP.out (Nat.le_trans HQL.out (by decide)) ⟨wr.heap.size + 1 + 1, 0, none⟩ m rfl (fun j u hu => alloc_cells' (by simp) (by simpa [ccs] using hu)) (by simp; omega) ?_))
            intro vq wq hqq hgq hbq hblk
            have gWA : Gr wr (((wr.alloc (.cells #[.int .i64 (crn Hn m).1, .int .i64 (crn Hn m).2] 47)).alloc (.cells #[.int .i64 (f st u + 1), .int .i64 0] 38)).alloc (.cells #[.int .i64 (crn Hn m).1, .int .i64 (crn Hn m).2] 47)) := Gr.alloc (Gr.alloc (Gr.alloc g3 _) _) _
            have hsq := hgq.size
            rw [World.size_alloc, World.size_alloc, World.size_alloc] at hsq
            have tc0 := hgq.cell (a := ⟨wr.heap.size + 1, 0, none⟩) (v := .int .i64 (f st u + 1)) (by simp [go_sem]) (QNE.out (wr.heap.size + 1) (by omega))
            have tc1 := hgq.cell (a := ⟨wr.heap.size + 1, 1, none⟩) (v := .int .i64 0) (by simp [go_sem]) (QNE.out (wr.heap.size + 1) (by omega))
            have tn0 := hgq.cell (a := ⟨wr.heap.size, 0, none⟩) (v := .int .i64 (crn Hn m).1) (by simp [go_sem]) (QNE.out (wr.heap.size) (by omega))
            have tn1 := hgq.cell (a := ⟨wr.heap.size, 1, none⟩) (v := .int .i64 (crn Hn m).2) (by simp [go_sem]) (QNE.out (wr.heap.size) (by omega))
            have ta0 := hgq.cell (gWA.keep0 HAI.out.1) (fun e => (HQB2.out _ e.symm).2.1 rfl)
            have ta1 := hgq.cell (gWA.keep0 HAI.out.2) (fun e => (HQB2.out _ e.symm).2.1 rfl)
            have tf1 : wq.frozen? ⟨wr.heap.size + 1, 1, none⟩ = false := (World.frozen?_of_block (a := ⟨wr.heap.size + 1, 1, none⟩) (hgq.block (wr.heap.size + 1) (by simp) (QNE.out (wr.heap.size + 1) (by omega)))).trans (by simp [go_sem])
            have HOQ := Lib.hid ((ownsMap_gr' HOWI.out gWA).kept hgq (fun e => (HQB2.out _ e.symm).1 rfl))
            have HITQ := Lib.hid ((HLW.out.gr gWA).grown hgq (Decidable.or_iff_not_imp_left.2 fun _ e => by
              cases hx : u6.ownBlock with
              | none => rw [hx] at e; exact absurd e (by assumption)
              | some y => exact (HQB2.out y hx).2.2 (e.trans hx)))
            have HQQ := Lib.hid hqq
            have HGQ := Lib.hid hgq
            have HBQ := Lib.hid (HBI.out.trans ((gWA.below.mono HBI.out.size).trans hbq))
            have HBK := Lib.hid hblk
            clear hqq hgq hbq hblk hlo gWA
            go_wp2_with fail
            have tlt : wr.heap.size + 1 < wq.heap.size := by omega
            have q0 := gr_all (Gr.refl wq) tc0
            have q1 := gr_all (Gr.refl wq) tc1
            have q2 := gr_all_f (Gr.refl wq) tlt tf1
            have q3 := gr_all (Gr.refl wq) ta0
            have q4 := gr_all (Gr.refl wq) ta1
            have q5 := gr_all (Gr.refl wq) tn0
            have q6 := gr_all (Gr.refl wq) tn1
            have hlku := fun nn os => Tryd.lookF hW.2 hH.2 HOQ.out HMI.out huN HU0.out (Go.Sort.grow (wq.drewN nn) os) (Gr.grow (Gr.drewN (Gr.refl _) nn) os)
            have HTA := Lib.hid (And.intro ta0 ta1)
            clear tc0 tc1 tf1 ta0 ta1 tn0 tn1
            have hef : f (Gm.visit u sj (some m)) m = f st u + 1 := by rw [f_visit HI.out hmN, if_pos ⟨rfl, HNEW.out⟩, HFU.out]
            have heg : Gm.g (Gm.visit u sj (some m)) m = wrap64 (Gm.g sj u) := by rw [g_visit HI.out hmN, if_pos ⟨rfl, .inl HNEW.out⟩, HG0.out, Int.zero_add, IntKind.wrap_i64]; unfold wrap64; omega
            have hmv := Tryd.MapIs.visit hW.2 hH.2 HMI.out HI.out HU2.out hmN
            rw [hef, heg] at hmv
            have HMV := Lib.hid hmv
            have HQV := Lib.hid (show (scan (nbL ls) u st (j + 1)).q.drop k = sj.q.drop k ++ [m] by
              rw [HNS.out, q_visit, if_pos HNEW.out, List.drop_append_of_le_length (by have := LT2.out; omega)])
            clear hef heg hmv
            (refine wp_region_grown_tail 8 mixed (by kernel_rfl) ?_; simp only [List.take_succ_cons, List.take_zero, List.drop_succ_cons, List.drop_zero]; (repeat (first | go_big_quiet_step ((fail)) | quiet_step ((fail)))); refine wpQuiet_nil ?_; intro _ hw'; obtain ⟨⟨nq, osq⟩, hw''⟩ := hw'; subst hw'')
            have q2' := q2 nq osq
            have q0' : ((Go.Sort.grow (wq.drewN nq) osq).setCell ⟨wr.heap.size + 1, 1, none⟩ (.int .i64 (wrap64 (Gm.g sj u)))).cell? ⟨wr.heap.size + 1, 0, none⟩ = some (.int .i64 (f st u + 1)) := by
              rw [World.cell?_setCell_other (Go.Sort.grow (wq.drewN nq) osq) ⟨wr.heap.size + 1, 1, none⟩ ⟨wr.heap.size + 1, 0, none⟩ _ (by simp)]; exact q0 nq osq
            have q1' := World.cell?_setCell_same _ _ (.int .i64 (wrap64 (Gm.g sj u))) (q1 nq osq)
            clear hlku q3 q4
            have GX := Lib.hid (Gr.grow (Gr.drewN (Gr.refl wq) nq) osq)
            have HXO := Lib.hid (World.ownsMap.setCell (ownsMap_gr' HOQ.out GX.out) (a := ⟨wr.heap.size + 1, 1, none⟩) (by simp; omega) (.int .i64 (wrap64 (Gm.g sj u))))
            have HXB := Lib.hid (Below.setCell (HBQ.out.trans (GX.out.below.mono HBQ.out.size)) (p := ⟨wr.heap.size + 1, 1, none⟩) (by simp; omega) (.int .i64 (wrap64 (Gm.g sj u))))
            have hbk : ∀ g', vq.ownBlock = some g' → g' ≠ wr.heap.size + 1 ∧ g' ≠ W0.heap.size ∧ g' ≠ wo.heap.size ∧ lv.ownBlock ≠ some g' := fun g' hg' => by
              rcases HBK.out g' hg' with x | x
              · have x1 := HQNE.out g' x
                have x2 := HQB2.out g' x
                exact ⟨by omega, x2.1, x2.2.1, x2.2.2⟩
              · exact ⟨by omega, by omega, by omega, fun e => by have := HLT.out g' e; omega⟩
            have HXQ := Lib.hid (QOwn.setCell (HQQ.out.gr GX.out) (a := ⟨wr.heap.size + 1, 1, none⟩) (fun g' hg' => (hbk g' hg').1) (.int .i64 (wrap64 (Gm.g sj u))))
            have hxi := (HITQ.out.gr GX.out).under (w' := (Go.Sort.grow (wq.drewN nq) osq).setCell ⟨wr.heap.size + 1, 1, none⟩ (.int .i64 (wrap64 (Gm.g sj u)))) (C := wr.heap.size) (Below.setCell (Below.refl _ _) (by simp) _) HLT.out
            have hxa0 := (World.cell?_setCell_far (Go.Sort.grow (wq.drewN nq) osq) ⟨wr.heap.size + 1, 1, none⟩ ⟨wo.heap.size, 0, none⟩ (.int .i64 (wrap64 (Gm.g sj u))) (by simp; omega)).trans (GX.out.keep0 HTA.out.1)
            have hxa1 := (World.cell?_setCell_far (Go.Sort.grow (wq.drewN nq) osq) ⟨wr.heap.size + 1, 1, none⟩ ⟨wo.heap.size, 1, none⟩ (.int .i64 (wrap64 (Gm.g sj u))) (by simp; omega)).trans (GX.out.keep0 HTA.out.2)
            have HXI := Lib.hid (And.intro hxi (And.intro hxa0 hxa1))
            have HBK2 := Lib.hid hbk
            clear hxi hxa0 hxa1 hbk
            go_wp2_with (at_mapUpdate; refine wpList_mapUpdate_own _ rfl _ _ _ 50 rfl 47 38 Tryd.cLaw Tryd.underlying50 rElem W0.heap.size n2 D2 rfl HXO.out (by unfold maxLen; omega) _ _ (klc (crn Hn m)) rfl rfl HKM.out (.agg [.lit (.int .i64 (f st u + 1)), .lit (.int .i64 (wrap64 (Gm.g sj u)))]) [] rfl ?_)
            intro w5 hown5 hgr5
            have H5 := Lib.hid hown5
            have G5 := Lib.hid hgr5
            clear hown5 hgr5
            go_wp2_with fail
            go_roundg (gk - 1)
            case rel =>
              refine ⟨j + 1, n2 + 1, _, by omega, by go_num, HXB.out.trans (Below.grown (Below.refl _ _) G5.out HXB.out.size (fun j hj => by cases hj; exact Nat.le_refl _)), by rw [HQV.out]; exact HXQ.out.kept G5.out (fun b hb g' hg' => by cases hb; exact (HBK2.out g' hg').2.1), fun g' hg' => (HBK2.out g' hg').2, H5.out, by omega, by rw [HNS.out]; exact HMV.out (H5.out.tidy Tryd.cLaw), ?_, ?_, ?_⟩
              · exact HXI.out.1.grown G5.out HLB.out
              · exact G5.out.cell HXI.out.2.1 (by simp; omega)
              · exact G5.out.cell HXI.out.2.2 (by simp; omega)
            case measure => omega
          · have hf0 : 0 ≤ f sj m := by omega
            rw [if_pos hf0, if_pos hf0, decide_eq_true hf0] at HLO
            have HF0' := Lib.hid hf0
            have hs0 := HBI.out.size
            by_cases heq : f sj m = f st u + 1
            · rw [heq] at HLO
              have HEQ := Lib.hid heq
              have HNEW := Lib.hid hnew
              clear heq hnew hf0
              have hlo := HLO.out (wr.alloc (.cells #[.int .i64 (crn Hn m).1, .int .i64 (crn Hn m).2] 47)) (Gr.alloc g3 _)
              go_wp2_with fail
              obtain ⟨wt, hwt⟩ : ∃ wt, ((wr.alloc (.cells #[.int .i64 (crn Hn m).1, .int .i64 (crn Hn m).2] 47)).alloc (.cells #[.int .i64 (f st u + 1), .int .i64 (Gm.g sj m)] 38)) = wt := ⟨_, rfl⟩
              have gWT : Gr wr ((wr.alloc (.cells #[.int .i64 (crn Hn m).1, .int .i64 (crn Hn m).2] 47)).alloc (.cells #[.int .i64 (f st u + 1), .int .i64 (Gm.g sj m)] 38)) := Gr.alloc (Gr.alloc g3 _) _
              have tlt : wr.heap.size + 1 < ((wr.alloc (.cells #[.int .i64 (crn Hn m).1, .int .i64 (crn Hn m).2] 47)).alloc (.cells #[.int .i64 (f st u + 1), .int .i64 (Gm.g sj m)] 38)).heap.size := by simp
              have q0 := gr_all (Gr.refl _) (show ((wr.alloc (.cells #[.int .i64 (crn Hn m).1, .int .i64 (crn Hn m).2] 47)).alloc (.cells #[.int .i64 (f st u + 1), .int .i64 (Gm.g sj m)] 38)).cell? ⟨wr.heap.size + 1, 0, none⟩ = some (.int .i64 (f st u + 1)) by simp [go_sem])
              have q1 := gr_all (Gr.refl _) (show ((wr.alloc (.cells #[.int .i64 (crn Hn m).1, .int .i64 (crn Hn m).2] 47)).alloc (.cells #[.int .i64 (f st u + 1), .int .i64 (Gm.g sj m)] 38)).cell? ⟨wr.heap.size + 1, 1, none⟩ = some (.int .i64 (Gm.g sj m)) by simp [go_sem])
              have q2 := gr_all_f (Gr.refl _) tlt (show ((wr.alloc (.cells #[.int .i64 (crn Hn m).1, .int .i64 (crn Hn m).2] 47)).alloc (.cells #[.int .i64 (f st u + 1), .int .i64 (Gm.g sj m)] 38)).frozen? ⟨wr.heap.size + 1, 1, none⟩ = false by simp [go_sem])
              have q5 := gr_all (Gr.refl _) (show ((wr.alloc (.cells #[.int .i64 (crn Hn m).1, .int .i64 (crn Hn m).2] 47)).alloc (.cells #[.int .i64 (f st u + 1), .int .i64 (Gm.g sj m)] 38)).cell? ⟨wr.heap.size, 0, none⟩ = some (.int .i64 (crn Hn m).1) by simp [go_sem])
              have q6 := gr_all (Gr.refl _) (show ((wr.alloc (.cells #[.int .i64 (crn Hn m).1, .int .i64 (crn Hn m).2] 47)).alloc (.cells #[.int .i64 (f st u + 1), .int .i64 (Gm.g sj m)] 38)).cell? ⟨wr.heap.size, 1, none⟩ = some (.int .i64 (crn Hn m).2) by simp [go_sem])
              have q3 := gr_all (Gr.refl _) (gWT.keep0 HAI.out.1)
              have q4 := gr_all (Gr.refl _) (gWT.keep0 HAI.out.2)
              rw [hwt] at tlt gWT q0 q1 q2 q3 q4 q5 q6
              simp only [hwt]
              have hlku := fun nn os => Tryd.lookF hW.2 hH.2 HOWI.out HMI.out huN HU0.out (Go.Sort.grow (wt.drewN nn) os) (gWT.trans (Gr.grow (Gr.drewN (Gr.refl _) nn) os))
              have GWT := Lib.hid gWT
              have hnl : ¬ f sj m < 0 := Int.not_lt.2 HNEW.out
              have hef : f (Gm.visit u sj (some m)) m = f st u + 1 := by rw [f_visit HI.out hmN, if_neg (fun x => hnl x.2), HEQ.out]
              have heg : Gm.g (Gm.visit u sj (some m)) m = wrap64 (Gm.g sj m + Gm.g sj u) := by rw [g_visit HI.out hmN, if_pos ⟨rfl, .inr (by rw [HEQ.out, HFU.out])⟩, IntKind.wrap_i64]; unfold wrap64; omega
              have hmv := Tryd.MapIs.visit hW.2 hH.2 HMI.out HI.out HU2.out hmN
              rw [hef, heg] at hmv
              have HMV := Lib.hid hmv
              have HQV := Lib.hid (show (scan (nbL ls) u st (j + 1)).q.drop k = sj.q.drop k by
                rw [HNS.out, q_visit, if_neg hnl])
              clear hef heg hmv hlo hwt gWT g3 hnl
              (refine wp_region_grown_tail 8 mixed (by kernel_rfl) ?_; simp only [List.take_succ_cons, List.take_zero, List.drop_succ_cons, List.drop_zero]; (repeat (first | go_big_quiet_step ((fail)) | quiet_step ((fail)))); refine wpQuiet_nil ?_; intro _ hw'; obtain ⟨⟨nq, osq⟩, hw''⟩ := hw'; subst hw'')
              have q2' := q2 nq osq
              have q0' : ((Go.Sort.grow (wt.drewN nq) osq).setCell ⟨wr.heap.size + 1, 1, none⟩ (.int .i64 (wrap64 (Gm.g sj m + Gm.g sj u)))).cell? ⟨wr.heap.size + 1, 0, none⟩ = some (.int .i64 (f st u + 1)) := by
                rw [World.cell?_setCell_other (Go.Sort.grow (wt.drewN nq) osq) ⟨wr.heap.size + 1, 1, none⟩ ⟨wr.heap.size + 1, 0, none⟩ _ (by simp)]; exact q0 nq osq
              have q1' := World.cell?_setCell_same _ _ (.int .i64 (wrap64 (Gm.g sj m + Gm.g sj u))) (q1 nq osq)
              have q3' := q3 nq osq
              have q4' := q4 nq osq
              have HTA := Lib.hid (And.intro q3' q4')
              clear hlku q3 q4 q3' q4'
              have GX := Lib.hid (GWT.out.trans (Gr.grow (Gr.drewN (Gr.refl wt) nq) osq))
              have HXO := Lib.hid (World.ownsMap.setCell (ownsMap_gr' HOWI.out GX.out) (a := ⟨wr.heap.size + 1, 1, none⟩) (by simp; omega) (.int .i64 (wrap64 (Gm.g sj m + Gm.g sj u))))
              have HXB := Lib.hid (Below.setCell (HBI.out.trans (GX.out.below.mono HBI.out.size)) (p := ⟨wr.heap.size + 1, 1, none⟩) (by simp; omega) (.int .i64 (wrap64 (Gm.g sj m + Gm.g sj u))))
              have hbk : ∀ g', u6.ownBlock = some g' → g' ≠ wr.heap.size + 1 ∧ g' ≠ W0.heap.size ∧ g' ≠ wo.heap.size ∧ lv.ownBlock ≠ some g' := fun g' hg' => by
                have x1 := HQI.out.lt g' hg' (by have := LT2.out; rw [List.length_drop]; omega)
                have x2 := HQB2.out g' hg'
                exact ⟨by omega, x2.1, x2.2.1, x2.2.2⟩
              have HXQ := Lib.hid (QOwn.setCell (HQI.out.gr GX.out) (a := ⟨wr.heap.size + 1, 1, none⟩) (fun g' hg' => (hbk g' hg').1) (.int .i64 (wrap64 (Gm.g sj m + Gm.g sj u))))
              have hxi := (HLW.out.gr GX.out).under (w' := (Go.Sort.grow (wt.drewN nq) osq).setCell ⟨wr.heap.size + 1, 1, none⟩ (.int .i64 (wrap64 (Gm.g sj m + Gm.g sj u)))) (C := wr.heap.size) (Below.setCell (Below.refl _ _) (by simp) _) HLT.out
              have hxa0 := (World.cell?_setCell_far (Go.Sort.grow (wt.drewN nq) osq) ⟨wr.heap.size + 1, 1, none⟩ ⟨wo.heap.size, 0, none⟩ (.int .i64 (wrap64 (Gm.g sj m + Gm.g sj u))) (by simp; omega)).trans HTA.out.1
              have hxa1 := (World.cell?_setCell_far (Go.Sort.grow (wt.drewN nq) osq) ⟨wr.heap.size + 1, 1, none⟩ ⟨wo.heap.size, 1, none⟩ (.int .i64 (wrap64 (Gm.g sj m + Gm.g sj u))) (by simp; omega)).trans HTA.out.2
              have HXI := Lib.hid (And.intro hxi (And.intro hxa0 hxa1))
              have HBK2 := Lib.hid hbk
              clear hxi hxa0 hxa1 hbk
              go_wp2_with (at_mapUpdate; refine wpList_mapUpdate_own _ rfl _ _ _ 50 rfl 47 38 Tryd.cLaw Tryd.underlying50 rElem W0.heap.size n2 D2 rfl HXO.out (by unfold maxLen; omega) _ _ (klc (crn Hn m)) rfl rfl HKM.out (.agg [.lit (.int .i64 (f st u + 1)), .lit (.int .i64 (wrap64 (Gm.g sj m + Gm.g sj u)))]) [] rfl ?_)
              intro w5 hown5 hgr5
              have H5 := Lib.hid hown5
              have G5 := Lib.hid hgr5
              clear hown5 hgr5
              go_wp2_with fail
              go_roundg (gk - 1)
              case rel =>
                refine ⟨j + 1, n2 + 1, _, by omega, by go_num, HXB.out.trans (Below.grown (Below.refl _ _) G5.out HXB.out.size (fun j hj => by cases hj; exact Nat.le_refl _)), by rw [HQV.out]; exact HXQ.out.kept G5.out (fun b hb g' hg' => by cases hb; exact (HBK2.out g' hg').2.1), fun g' hg' => (HBK2.out g' hg').2, H5.out, by omega, by rw [HNS.out]; exact HMV.out (H5.out.tidy Tryd.cLaw), ?_, ?_, ?_⟩
                · exact HXI.out.1.grown G5.out HLB.out
                · exact G5.out.cell HXI.out.2.1 (by simp; omega)
                · exact G5.out.cell HXI.out.2.2 (by simp; omega)
              case measure => omega
            · have hbe : (f sj m == f st u + 1) = false := by simpa using heq
              have HEQ := Lib.hid heq
              have HNEW := Lib.hid hnew
              clear hnew hf0
              have hnl : ¬ f sj m < 0 := HNEW.out
              have hef : f (Gm.visit u sj (some m)) m = f sj m := by rw [f_visit HI.out hmN, if_neg (fun x => hnl x.2)]
              have heg : Gm.g (Gm.visit u sj (some m)) m = Gm.g sj m := by rw [g_visit HI.out hmN, if_neg (fun x => x.2.elim hnl (fun y => HEQ.out (by rw [y, HFU.out])))]
              have hmv := Tryd.MapIs.visit hW.2 hH.2 HMI.out HI.out HU2.out hmN
              rw [hef, heg] at hmv
              have HMV := Lib.hid hmv
              have HQV := Lib.hid (show (scan (nbL ls) u st (j + 1)).q.drop k = sj.q.drop k by
                rw [HNS.out, q_visit, if_neg hnl])
              clear hef heg hmv hnl
              have hlo := HLO.out (wr.alloc (.cells #[.int .i64 (crn Hn m).1, .int .i64 (crn Hn m).2] 47)) (Gr.alloc g3 _)
              have GWT := Lib.hid (show Gr wr ((wr.alloc (.cells #[.int .i64 (crn Hn m).1, .int .i64 (crn Hn m).2] 47)).alloc (.cells #[.int .i64 (f sj m), .int .i64 (Gm.g sj m)] 38)) from Gr.alloc (Gr.alloc g3 _) _)
              have HXO := Lib.hid (ownsMap_gr' HOWI.out GWT.out)
              go_wp2_with (first | (at_mapUpdate; refine wpList_mapUpdate_own _ rfl _ _ _ 50 rfl 47 38 Tryd.cLaw Tryd.underlying50 rElem W0.heap.size n2 D2 rfl HXO.out (by unfold maxLen; omega) _ _ (klc (crn Hn m)) rfl rfl HKM.out (.agg [.lit (.int .i64 (f sj m)), .lit (.int .i64 (Gm.g sj m))]) [] rfl ?_))
              have HXB := Lib.hid (HBI.out.trans (GWT.out.below.mono HBI.out.size))
              have HXQ := Lib.hid (HQI.out.gr GWT.out)
              clear hlo
              intro w5 hown5 hgr5
              have H5 := Lib.hid hown5
              have G5 := Lib.hid hgr5
              clear hown5 hgr5
              go_wp2_with fail
              go_roundg (gk - 1)
              case rel =>
                refine ⟨j + 1, n2 + 1, _, by omega, by go_num, HXB.out.trans (Below.grown (Below.refl _ _) G5.out HXB.out.size (fun j hj => by cases hj; exact Nat.le_refl _)), by rw [HQV.out]; exact HXQ.out.kept G5.out (fun b hb g' hg' => by cases hb; exact (HQB2.out g' hg').1), HQB2.out, H5.out, by omega, by rw [HNS.out]; exact HMV.out (H5.out.tidy Tryd.cLaw), ?_, ?_, ?_⟩
                · exact (HLW.out.gr GWT.out).grown G5.out HLB.out
                · exact G5.out.cell (GWT.out.keep0 HAI.out.1) (by simp; omega)
                · exact G5.out.cell (GWT.out.keep0 HAI.out.2) (by simp; omega)
              case measure => omega

        · obtain rfl : j = (ls u).length := by omega
          have zz0 : ¬ ((ls u).length : Int) < ((ls u).length : Int) := by omega
          rw [← scan_end ls u st 4 hl4] at hq2 hM2 lt2 qk2
          have hdr : (scan (nbL ls) u st 4).q.drop k = u :: (scan (nbL ls) u st 4).q.drop (k + 1) := by
            have e : (scan (nbL ls) u st 4).q[k] = (scan (nbL ls) u st 4).q.getD k 0 := by simp [List.getD, lt2]
            rw [List.drop_eq_getElem_cons lt2, e, qk2]
          rw [hdr] at hq2
          obtain ⟨g2', o2, c2, rfl, hg3, hg4, hc3, hc4, _, htail⟩ := hq2.uncons (ccs_len Hn)
          have hb2 := hqb2 g2' rfl
          have HT := Lib.hid htail
          have HBL2 := Lib.hid hbl2
          have HOWN2 := Lib.hid hown2
          have HM2 := Lib.hid hM2
          have LT2 := Lib.hid lt2
          have y1 : (1 : Int) ≤ ((scan (nbL ls) u st 4).q.drop (k + 1)).length + 1 := by omega
          clear htail hbl2 hown2 hM2 hq2 hdr lt2 hqb2 hrow ha0 ha1 qk2 kp2 bf2
          generalize hql : ((scan (nbL ls) u st 4).q.drop (k + 1)).length = ql at *
          have HQL := Lib.hid hql
          clear hql
          by_cases hc1' : c2 = 1
          · subst hc1'
            obtain rfl : ql = 0 := by omega
            have HX := Lib.hid (HT.out (some ⟨g2', o2, none⟩) (fun q => absurd rfl q))
            go_wp2
            go_roundg (Wn * Hn - (k + 1))
            case rel =>
              refine ⟨k + 1, n2, D2, by omega, HBL2.out, by rw [HNX.out]; exact HX.out, fun g' hg' => ?_, HOWN2.out, by omega, by rw [HNX.out]; exact HM2.out, by rw [HNX.out]; exact LT2.out⟩
              simp only [Value.ownBlock, Option.some.injEq] at hg'
              omega
            case measure => have := HKG.out; omega
          · have HX := Lib.hid (HT.out (some ⟨g2', o2 + 2, none⟩) (fun _ => rfl))
            go_wp2
            go_roundg (Wn * Hn - (k + 1))
            case rel =>
              refine ⟨k + 1, n2, D2, by omega, HBL2.out, by rw [HNX.out]; exact HX.out, fun g' hg' => ?_, HOWN2.out, by omega, by rw [HNX.out]; exact HM2.out, by rw [HNX.out]; exact LT2.out⟩
              simp only [Value.ownBlock, Option.some.injEq] at hg'
              omega
            case measure => have := HKG.out; omega
    · have he : k = (run (nbL ls) (Wn * Hn) s0 k).q.length := by omega
      have hfin := run_end HV.out hs he
      rw [List.drop_eq_nil_of_le (by omega)] at hq
      rw [hfin] at hM
      obtain ⟨A1, c1, rfl⟩ := hq.form
      have HOWN := Lib.hid hown
      have HMM := Lib.hid hM
      have HBL := Lib.hid (Below.trans HG.out.below (hbl.mono HG.out.below.size))
      clear hown hM hbl hq hqb hfin hbf hkl hk he hn
      go_wp2
      go_ret
      exact ⟨_, n, D, rfl, HOWN.out, HMM.out, HBL.out⟩
end Go.Proofs
