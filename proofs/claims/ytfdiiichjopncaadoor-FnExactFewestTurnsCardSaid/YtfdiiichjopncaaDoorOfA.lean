/-
  Contracts of chapter 6: the specification's search.
-/
import Derived.Test.YtfdiiichjopncaaDoorOwJ
import Derived.Test.YtfdiiichjopncaaDoorRbA
import Derived.Deep.LoopGhost
import Derived.Test.YtfdiiichjopncaaDoorInts3
import Derived.Lib.SlBytesConst
namespace Go.Proofs
open Go.RowKit Av Gm Go.Maps
set_option linter.unusedVariables false
set_option linter.unusedSimpArgs false
/-- a vertex as an element of the specification's queue -/
def ncs (n : Nat) : List Value := [.int .i64 (n : Int)]
theorem ncs_len : ∀ n, (ncs n).length = 1 := fun _ => rfl
theorem ncs_one : ∀ n, ∀ u ∈ ncs n, u.oneCell' = true := by
  intro n u hu
  simp [ncs] at hu
  subst hu; rfl
theorem ncs_at : ∀ (qs : List Nat) (j : Nat), j < qs.length → (ecs ncs qs)[j]? = some (.int .i64 ((qs.getD j 0 : Nat) : Int))
  | [], j, h => absurd h (Nat.not_lt_zero _)
  | q :: qs, 0, _ => rfl
  | q :: qs, j + 1, h => by
    have := ncs_at qs j (by simpa using h)
    simpa [ecs, ncs] using this
theorem QOwn.atN {T : TypeId} {w : World} {B : Nat} {v : Value} {qs : List Nat} (h : QOwn T 1 ncs w B v qs) (h0 : 0 < qs.length) : ∃ g o c, v = .slice (some ⟨g, o, none⟩) qs.length c ∧ B ≤ g ∧ g < w.heap.size ∧
    ∀ j, j < qs.length → w.cell? ⟨g, o + j, none⟩ = some (.int .i64 ((qs.getD j 0 : Nat) : Int)) := by
  rcases h with ⟨rfl, _⟩ | ⟨_, g, o, c, cur, rfl, hb, hg, hc, hm, hs, hh⟩
  · simp at h0
  · refine ⟨g, o, c, rfl, hb, (Array.getElem?_eq_some_iff.1 hg).1, fun j hj => ?_⟩
    rw [cell_of_row w g (o + j) cur T (0, 0) hg]
    exact hh j _ (ncs_at qs j hj)
/-- the first i are marked as not reached -/
def fil (N i : Nat) : List Int := List.replicate i (-1) ++ List.replicate (N - i) 0
theorem fil_len (N i : Nat) (h : i ≤ N) : (fil N i).length = N := by simp [fil]; omega
theorem fil_zero (N : Nat) : fil N 0 = List.replicate N 0 := by simp [fil]
theorem fil_all (N : Nat) : fil N N = List.replicate N (-1) := by simp [fil]
theorem fil_set (N i : Nat) (h : i < N) : (fil N i).set i (-1) = fil N (i + 1) := by
  unfold fil
  rw [List.set_append_right _ _ (by simp), List.length_replicate, Nat.sub_self, show N - i = (N - (i + 1)) + 1 by omega, List.replicate_succ, List.set_cons_zero, List.replicate_succ', List.append_assoc]
  rfl
theorem idx_lt {Wn Hn n : Nat} (hn : n < Wn * Hn) : n / Hn < Wn ∧ n % Hn < Hn := by
  have ho := on_idx hn
  unfold onC at ho
  simp only at ho
  omega
theorem dxy_bd (j : Nat) : -1 ≤ dx j ∧ dx j ≤ 1 ∧ -1 ≤ dy j ∧ dy j ≤ 1 := by
  unfold dx dy
  split <;> split <;> decide
theorem owV_t {s a : ByteArray} {x y j : Nat} (h : drv s a x y j = true) : owV s a x y j = .tuple #[.int .i64 ((x : Int) + dx j), .int .i64 ((y : Int) + dy j), .bool true] := by
  unfold drv at h
  simp only [Bool.and_eq_true] at h
  unfold owV
  rw [if_pos h.1, h.2]
theorem owV_f {s a : ByteArray} {x y j : Nat} (h : drv s a x y j = false) (hx : x < a.size) (hy : y < s.size) (ha : a.size ≤ 8) (hs : s.size ≤ 8) (hj : j < 4) :
    ∃ p q PP : Int, owV s a x y j = .tuple #[.int .i64 p, .int .i64 q, .bool false] ∧ p * (s.size : Int) = PP ∧ -100 ≤ PP ∧ PP ≤ 100 ∧ -10 ≤ q ∧ q ≤ 10 ∧ -10 ≤ p ∧ p ≤ 10 := by
  obtain ⟨d1, d2, d3, d4⟩ := dxy_bd j
  unfold drv at h
  cases hm : mayB s a x y j
  · refine ⟨0, 0, 0, by unfold owV; rw [hm]; simp, by simp, by decide, by decide, by decide, by decide, by decide, by decide⟩
  · rw [hm, Bool.true_and] at h
    refine ⟨(x : Int) + dx j, (y : Int) + dy j, _, by unfold owV; rw [hm, if_pos rfl, h], rfl, ?_, ?_, by omega, by omega, by omega, by omega⟩
    · have : (-1 : Int) * (s.size : Int) ≤ ((x : Int) + dx j) * (s.size : Int) := Int.mul_le_mul_of_nonneg_right (by omega) (by omega)
      omega
    · have : ((x : Int) + dx j) * (s.size : Int) ≤ (9 : Int) * (s.size : Int) := Int.mul_le_mul_of_nonneg_right (by omega) (by omega)
      omega
def Tryd.AfR1 (N : Nat) (nb : Nat → Nat → Option Nat) (s0 : Nat) (W0 : World) (qv kv : Value) (wr : World) : Prop :=
  ∃ k : Nat, kv = .int .i64 k ∧ k ≤ (run nb N s0 k).q.length ∧ QOwn 3 1 ncs wr W0.heap.size qv (run nb N s0 k).q ∧ (∀ g, qv.ownBlock = some g → g ≠ W0.heap.size) ∧
    OwnI wr W0.heap.size (.slice (some ⟨W0.heap.size, 0, none⟩) N N) (run nb N s0 k).far ∧ Below W0.heap.size W0 wr
def Tryd.AfR2 (N : Nat) (nb : Nat → Nat → Option Nat) (u : Nat) (st : St) (bs : Nat) (W0 : World) (qv iv : Value) (wr : World) : Prop :=
  ∃ j : Nat, iv = .int .i64 j ∧ j ≤ 4 ∧ QOwn 3 1 ncs wr W0.heap.size qv (scan nb u st j).q ∧ (∀ g, qv.ownBlock = some g → g ≠ W0.heap.size ∧ g ≠ bs) ∧
    OwnI wr W0.heap.size (.slice (some ⟨W0.heap.size, 0, none⟩) N N) (scan nb u st j).far ∧ Below W0.heap.size W0 wr ∧ (∀ i, i < 4 → wr.cell? ⟨bs, i, none⟩ = some (.int .u8 (sgn i))) ∧ bs < wr.heap.size
set_option maxRecDepth 100000 in
set_option maxHeartbeats 4000000 in
theorem Tryd.owFar (w : World) (s a : ByteArray) (h1 : okT 101 119 s = true) (h2 : okT 110 115 a = true) (s0 : Nat) (Bl : Nat) (la : Value) (hs : s0 < a.size * s.size) (hla : OwnI w Bl la [(crn s.size s0).1, (crn s.size s0).2]) :
    Calls Tryd.prog 16 #[.agg #[.string s, .string a], la] w fun e w' => ∃ v, e = .returned v ∧ OwnI w' w.heap.size v (fin (nbW s a) (a.size * s.size) s0).far ∧ Below w.heap.size w w' := by
  have mixed : Tryd.prog.follows .mixedOrders = true := by kernel_rfl
  obtain ⟨hH0, hH1⟩ := okT_len h1
  obtain ⟨hW0, hW1⟩ := okT_len h2
  have H1 := Lib.hid h1
  have H2 := Lib.hid h2
  rcases hla.view with ⟨hx, _⟩ | ⟨_, gl, cl, rfl, _, gl2, _, _, _⟩
  · cases hx
  obtain ⟨l0, _⟩ := hla.at rfl 0 (by simp)
  obtain ⟨l1, _⟩ := hla.at rfl 1 (by simp)
  simp only [List.getD_cons_zero, List.getD_cons_succ, List.length_cons, List.length_nil, Nat.zero_add, Nat.reduceAdd] at l0 l1 ⊢
  obtain ⟨W0, hWW⟩ : ∃ W0, w.alloc (.cells #[.string s, .string a] 28) = W0 := ⟨_, rfl⟩
  have GW : Gr w W0 := by subst hWW; exact by repeat (first | exact Gr.refl _ | refine Gr.alloc ?_ _ | refine Gr.trans ?_ (by assumption) | refine Gr.drew ?_ | refine Gr.drewN ?_ _ | refine Gr.grow ?_ _ | refine Gr.setCell ?_ (by (try simp); (try omega)) _)
  have k0 : W0.cell? ⟨w.heap.size, 0, none⟩ = some (.string s) := by subst hWW; simp [go_sem]
  have k1 : W0.cell? ⟨w.heap.size, 1, none⟩ = some (.string a) := by subst hWW; simp [go_sem]
  have l0' := GW.keep0 l0
  have l1' := GW.keep0 l1
  have sz0 : w.heap.size + 1 = W0.heap.size := by subst hWW; simp
  have hN : a.size * s.size ≤ 64 := Nat.mul_le_mul hW1 hH1
  have hWH : (s.size : Int) * (a.size : Int) = ((a.size * s.size : Nat) : Int) := by rw [Nat.mul_comm]; push_cast; rfl
  have HV := Lib.hid (@nbW_valid s a)
  have HG := Lib.hid GW
  have HK := Lib.hid (And.intro k0 k1)
  have HL := Lib.hid (And.intro l0' l1')
  have HS := Lib.hid hs
  have hc0 : (crn s.size s0).1 = ((s0 / s.size : Nat) : Int) := rfl
  have hc1 : (crn s.size s0).2 = ((s0 % s.size : Nat) : Int) := rfl
  have hdm : s.size * (s0 / s.size) + s0 % s.size = s0 := Nat.div_add_mod s0 s.size
  rw [Nat.mul_comm] at hdm
  rw [hc0] at l0' HL
  rw [hc1] at l1' HL
  have hPi : ((s0 / s.size : Nat) : Int) * (s.size : Int) = ((s0 / s.size * s.size : Nat) : Int) := by push_cast; rfl
  generalize hX : s0 / s.size = X at *
  generalize hY : s0 % s.size = Y at *
  generalize hP : X * s.size = P at *
  generalize hnb : nbW s a = nb at *
  generalize hNN : a.size * s.size = N at *
  have hsP : (P : Int) + (Y : Int) = (s0 : Int) := by omega
  have hP64 : P ≤ 64 := by omega
  have hY64 : Y ≤ 64 := by omega
  obtain ⟨i0, hi, hz0, hz1, hz2⟩ := info_parts Tryd.infoI2
  have HII := Lib.hid hi
  have HNB := Lib.hid hnb
  have HNN := Lib.hid hNN
  clear hi h1 h2 hla l0 l1 GW hc0 hc1 hdm hX hY hP hs hnb hNN
  go_enter Tryd.func16, Tryd.ntmps16
  go_wp2_with (at_make; refine wpList_make_full _ rfl _ _ 24 rfl W0.heap.size 3 i0 (.int .i64 0) 1 Tryd.underlying24 HII.out hz0 hz1 .i64 .i64 _ _ N rfl rfl (by rfl) (by rfl) (by rw [hz2]; omega) (by unfold maxLen; omega) (Nat.le_refl _) ?_; intro w1 hown1 hgr1)
  have hb1 : Below W0.heap.size W0 w1 := (Below.refl _ W0).grown hgr1 (Nat.le_refl _) (by simp)
  have ho1 : OwnI w1 W0.heap.size (.slice (some ⟨W0.heap.size, 0, none⟩) N N) (fil N 0) := by
    unfold OwnI
    rw [fil_zero]
    simpa [Value.cells, toList_madeCells_one] using hown1
  have HO1 := Lib.hid ho1
  have HB1 := Lib.hid hb1
  clear hown1 hgr1 ho1 hb1 k0 k1 l0' l1'
  go_loopw [28] (fun i wr => ∃ k : Nat, i = .int .i64 k ∧ k ≤ N ∧ OwnI wr W0.heap.size (.slice (some ⟨W0.heap.size, 0, none⟩) N N) (fil N k) ∧ Below W0.heap.size W0 wr) (fun i _ => N - (intOf i).toNat)
  case atStart => exact ⟨0, rfl, Nat.zero_le _, HO1.out, HB1.out⟩
  case round =>
    obtain ⟨k, rfl, hk, ho, hb⟩ := hrel
    have HB := Lib.hid hb
    have HO := Lib.hid ho
    by_cases hlt : k < N
    · obtain ⟨s0', s1⟩ := ho.at (fil_len N k hk) k hlt
      have z0 : (0 : Int) ≤ (k : Int) := by omega
      have z1 : (k : Int) < (N : Int) := by omega
      clear ho hb
      generalize (fil N k).getD k 0 = y0 at s0'
      go_wp2
      go_roundw
      case rel =>
        refine ⟨k + 1, by go_num, by omega, ?_, Below.setCell HB.out (Nat.le_refl _) _⟩
        have := OwnI.set HO.out (fil_len N k hk) k (-1)
        rw [fil_set N k hlt] at this
        exact this
      case measure => simp [intOf]; omega
    · have ekN : k = N := by omega
      rw [ekN, fil_all] at ho
      rw [ekN]
      clear ekN hk hlt HO
      obtain ⟨s0', s1⟩ := ho.at (by simp) s0 HS.out
      have m0 := (hb.cell (p := ⟨w.heap.size, 0, none⟩) (World.block_lt_of_cell? _ _ HK.out.1)).trans HK.out.1
      have m1 := (hb.cell (p := ⟨w.heap.size, 1, none⟩) (World.block_lt_of_cell? _ _ HK.out.2)).trans HK.out.2
      have n0 := (hb.cell (p := ⟨gl, 0, none⟩) (World.block_lt_of_cell? _ _ HL.out.1)).trans HL.out.1
      have n1 := (hb.cell (p := ⟨gl, 1, none⟩) (World.block_lt_of_cell? _ _ HL.out.2)).trans HL.out.2
      have q0 := gr_all (Gr.refl wr) m0
      have q1 := gr_all (Gr.refl wr) m1
      have q2 := gr_all (Gr.refl wr) n0
      have q3 := gr_all (Gr.refl wr) n1
      have zs0 : (0 : Int) ≤ (s0 : Int) := by omega
      have zs1 : (s0 : Int) < (N : Int) := by have := HS.out; omega
      have hsz := hb.size
      have q4 := gr_all (Gr.refl wr) s0'
      have q5 := gr_all_f (Gr.refl wr) (show W0.heap.size < wr.heap.size from World.block_lt_of_cell? _ _ s0') s1
      have HOF := Lib.hid ho
      clear ho hb m0 m1 n0 n1 s0' s1
      go_wp2_with fail
      (refine wp_region_grown_tail 11 mixed (by kernel_rfl) ?_; simp only [List.take_succ_cons, List.take_zero, List.drop_succ_cons, List.drop_zero]; (repeat (first | go_big_quiet_step ((fail)) | quiet_step ((fail)))); refine wpQuiet_nil ?_; intro _ hw'; obtain ⟨⟨nq, osq⟩, hw''⟩ := hw'; subst hw'')
      have q5' := q5 nq osq
      have q4' := q4 nq osq
      go_wp2_with fail
      obtain ⟨wx, hwx⟩ : ∃ wx, (Go.Sort.grow (wr.drewN nq) osq).setCell ⟨W0.heap.size, s0, none⟩ (.int .i64 0) = wx := ⟨_, rfl⟩
      have gg : Gr wr (Go.Sort.grow (wr.drewN nq) osq) := Gr.grow (Gr.drewN (Gr.refl wr) nq) osq
      have HBX := Lib.hid (show Below W0.heap.size W0 wx by rw [← hwx]; exact Below.setCell (HB.out.trans (gg.below.mono HB.out.size)) (Nat.le_refl _) _)
      have HOX := Lib.hid (show OwnI wx W0.heap.size (.slice (some ⟨W0.heap.size, 0, none⟩) N N) ((List.replicate N (-1)).set s0 0) by rw [← hwx]; exact OwnI.set (HOF.out.gr gg) (by simp) s0 0)
      simp only [hwx]
      have szx : wr.heap.size ≤ wx.heap.size := by rw [← hwx]; simp
      have m0 := (HBX.out.cell (p := ⟨w.heap.size, 0, none⟩) (World.block_lt_of_cell? _ _ HK.out.1)).trans HK.out.1
      have m1 := (HBX.out.cell (p := ⟨w.heap.size, 1, none⟩) (World.block_lt_of_cell? _ _ HK.out.2)).trans HK.out.2
      have n0 := (HBX.out.cell (p := ⟨gl, 0, none⟩) (World.block_lt_of_cell? _ _ HL.out.1)).trans HL.out.1
      have n1 := (HBX.out.cell (p := ⟨gl, 1, none⟩) (World.block_lt_of_cell? _ _ HL.out.2)).trans HL.out.2
      clear q0 q1 q2 q3 q4 q5 q4' q5' HOF HB gg hwx
      have q0 := gr_all (Gr.refl wx) m0
      have q1 := gr_all (Gr.refl wx) m1
      have q2 := gr_all (Gr.refl wx) n0
      have q3 := gr_all (Gr.refl wx) n1
      clear m0 m1 n0 n1
      (refine wp_region_grown_tail 9 mixed (by kernel_rfl) ?_; simp only [List.take_succ_cons, List.take_zero, List.drop_succ_cons, List.drop_zero]; (repeat (first | go_big_quiet_step ((fail)) | quiet_step ((fail)))); refine wpQuiet_nil ?_; intro _ hw'; obtain ⟨⟨nq, osq⟩, hw''⟩ := hw'; subst hw'')
      clear q0 q1 q2 q3
      go_wp2_with fail
      have gg : Gr wx (Go.Sort.grow (wx.drewN nq) osq) := Gr.grow (Gr.drewN (Gr.refl wx) nq) osq
      have hgs : (Go.Sort.grow (wx.drewN nq) osq).heap.size = wx.heap.size + osq.size := by simp
      have HBY := Lib.hid (show Below W0.heap.size W0 ((Go.Sort.grow (wx.drewN nq) osq).alloc (.cells #[.int .i64 s0] 3)) from HBX.out.trans ((Gr.alloc gg _).below.mono HBX.out.size))
      have HOY := Lib.hid (show OwnI ((Go.Sort.grow (wx.drewN nq) osq).alloc (.cells #[.int .i64 s0] 3)) W0.heap.size (.slice (some ⟨W0.heap.size, 0, none⟩) N N) (Gm.start N s0).far from HOX.out.gr (Gr.alloc gg _))
      have hltx : W0.heap.size < wx.heap.size := HOX.out.lt _ rfl
      clear HBX HOX
      go_loopw [8, 9] (fun qv kv wr => Tryd.AfR1 N nb s0 W0 qv kv wr) (fun _ i _ => N - (intOf i).toNat)
      case atStart =>
        refine ⟨0, rfl, Nat.zero_le _, ?_, ?_, HOY.out, HBY.out⟩
        · exact QOwn.one (ncs_len) (by rw [← hgs]; exact heap_alloc_new _ _) (by omega)
        · intro g hg
          simp only [Value.ownBlock, Option.some.injEq] at hg
          omega
      case round =>
        rename World => wo
        obtain ⟨k, rfl, hkl, hq, hqb, ho, hb⟩ := hrel
        have hlen : (run nb N s0 k).q.length ≤ N := by
          rcases run_bf HV.out HS.out k with ⟨_, b⟩ | ⟨q, _⟩
          · exact b.inv.len
          · omega
        by_cases hk : k < (run nb N s0 k).q.length
        · have hbf : Bf nb N s0 (run nb N s0 k) k 0 := by
            rcases run_bf HV.out HS.out k with ⟨_, b⟩ | ⟨q, _⟩
            · exact b
            · omega
          have hnext : run nb N s0 (k + 1) = scan nb ((run nb N s0 k).q.getD k 0) (run nb N s0 k) 4 := by
            simp only [run]; rw [if_pos hk]
          generalize run nb N s0 k = st at *
          have hum := Gm.getD_mem _ _ hk
          generalize huu : st.q.getD k 0 = u at *
          have huN := hbf.inv.qn u hum
          have hu0 := (hbf.inv.fq u huN).2 hum
          have hu1 := (hbf.inv.fm u huN).2
          obtain ⟨g, o, c1, rfl, hg1, hg2, hat⟩ := hq.atN (by omega)
          have e0 := hat k hk
          rw [huu] at e0
          have z0 : (0 : Int) ≤ (k : Int) := by omega
          have z1 : (k : Int) < (st.q.length : Int) := by omega
          have HQ := Lib.hid hq
          have HO2 := Lib.hid ho
          have HB2 := Lib.hid hb
          have HBF := Lib.hid hbf
          have HNX := Lib.hid hnext
          have HUU := Lib.hid huu
          have hgb := hqb g rfl
          have hcv := Go.Lib.run_convert_bytes_const (P := Tryd.prog) wo 54 5 #[.int .u8 101, .int .u8 110, .int .u8 115, .int .u8 119] 4 4 Tryd.underlying54 Tryd.underlying5
          clear hq ho hb hbf hnext hat huu hum hqb
          go_wp2_with fail
          have gA : Gr wo (wo.alloc (.cells #[.int .u8 101, .int .u8 110, .int .u8 115, .int .u8 119] 5 (4, 5))) := Gr.alloc (Gr.refl _) _
          have hwo := HB2.out.size
          go_loopw [8, 69] (fun qv iv wr => Tryd.AfR2 N nb u st wo.heap.size W0 qv iv wr) (fun _ i _ => (4 - intOf i).toNat)
          case atStart =>
            refine ⟨0, rfl, by omega, HQ.out.gr gA, fun g' hg' => ?_, HO2.out.gr gA, HB2.out.trans (gA.below.mono HB2.out.size), fun i hi => ?_, by simp⟩
            · simp only [Value.ownBlock, Option.some.injEq] at hg'
              omega
            · have : i = 0 ∨ i = 1 ∨ i = 2 ∨ i = 3 := by omega
              rcases this with rfl | rfl | rfl | rfl <;> (rw [cell_of_row _ _ _ _ _ _ (heap_alloc_new _ _)]; rfl)
          case round =>
            obtain ⟨j, rfl, hj4, hq2, hqb2, ho2, hb2, hcs, hbsz⟩ := hrel
            obtain ⟨bf2, qk2, lt2, kp2⟩ := HBF.out.scan HV.out hk HUU.out j hj4
            by_cases hj : j < 4
            · have hu2 : u ∈ (scan nb u st j).q := by have := Gm.getD_mem _ _ lt2; rwa [qk2] at this
              have hfu : f (scan nb u st j) u = f st u := kp2 u hu0
              have hc9 := hcs j hj
              have zj0 : (0 : Int) ≤ (j : Int) := by omega
              have zj1 : (j : Int) < 4 := by omega
              have m0 := (hb2.cell (p := ⟨w.heap.size, 0, none⟩) (World.block_lt_of_cell? _ _ HK.out.1)).trans HK.out.1
              have m1 := (hb2.cell (p := ⟨w.heap.size, 1, none⟩) (World.block_lt_of_cell? _ _ HK.out.2)).trans HK.out.2
              have q0 := gr_all (Gr.refl wr) m0
              have q1 := gr_all (Gr.refl wr) m1
              have hud := idx_lt (show u < a.size * s.size by rw [HNN.out]; exact huN)
              have HST := Lib.hid (fun (X : World) (hX : Gr wr X) => Tryd.owStep X s a H1.out H2.out (u / s.size) (u % s.size) hud.1 hud.2 j hj)
              have hHne : ¬ (s.size : Int) = 0 := by omega
              have t1 : ((u : Int)).tdiv (s.size : Int) = ((u / s.size : Nat) : Int) := by rw [Int.tdiv_eq_ediv_of_nonneg (by omega)]; push_cast; rfl
              have t2 : ((u : Int)).tmod (s.size : Int) = ((u % s.size : Nat) : Int) := by rw [Int.tmod_eq_emod_of_nonneg (by omega)]; push_cast; rfl
              have b1 : u / s.size ≤ 64 := Nat.le_trans (Nat.div_le_self _ _) (by omega)
              have b2 : u % s.size ≤ 64 := Nat.le_trans (Nat.mod_le _ _) (by omega)
              have HM := Lib.hid (And.intro m0 m1)
              have HQ2 := Lib.hid hq2
              have HO3 := Lib.hid ho2
              have HB3 := Lib.hid hb2
              have HQB := Lib.hid hqb2
              have HCS := Lib.hid hcs
              have BF2 := Lib.hid bf2
              have LT2 := Lib.hid lt2
              have QK2 := Lib.hid qk2
              have HU2 := Lib.hid hu2
              have HFU := Lib.hid hfu
              have HNS := Lib.hid (show scan nb u st (j + 1) = Gm.visit u (scan nb u st j) (nb u j) from rfl)
              clear hq2 ho2 hb2 hqb2 hcs bf2 lt2 qk2 hu2 hfu kp2 m0 m1
              cases hst : drv s a (u / s.size) (u % s.size) j
              · have hnn : nb u j = none := by rw [← HNB.out]; exact nbW_none hst
                obtain ⟨p, q, PP, hv, hPP, p1, p2, p3, p4, p5, p6⟩ := owV_f hst hud.1 hud.2 hW1 hH1 hj
                rw [hv] at HST
                rw [hnn] at HNS
                clear hst hnn hud hv
                generalize u / s.size = X1 at *
                generalize u % s.size = Y1 at *
                go_wp2
                (refine wp_region_quiet_grown mixed (by kernel_rfl) ?_; (repeat (first | go_big_quiet_step ((first | (go_at_call 17; exact Calls.grown_of (HST.out _ (by repeat (first | exact Gr.refl _ | refine Gr.alloc ?_ _ | refine Gr.trans ?_ (by assumption) | refine Gr.drew ?_ | refine Gr.drewN ?_ _ | refine Gr.grow ?_ _ | refine Gr.setCell ?_ (by (try simp); (try omega)) _)))))) | quiet_step ((first | (go_at_call 17; exact Calls.grown_of (HST.out _ (by repeat (first | exact Gr.refl _ | refine Gr.alloc ?_ _ | refine Gr.trans ?_ (by assumption) | refine Gr.drew ?_ | refine Gr.drewN ?_ _ | refine Gr.grow ?_ _ | refine Gr.setCell ?_ (by (try simp); (try omega)) _)))))))); refine wpQuiet_nil ?_; intro _ hw'; obtain ⟨⟨nq, osq⟩, hw''⟩ := hw'; subst hw'')
                go_wp2_with fail
                have gg : Gr wr (Go.Sort.grow (wr.drewN nq) osq) := Gr.grow (Gr.drewN (Gr.refl wr) nq) osq
                go_roundw
                case rel =>
                  exact ⟨j + 1, by go_num, by omega, by rw [HNS.out]; exact HQ2.out.gr gg, HQB.out, by rw [HNS.out]; exact HO3.out.gr gg, HB3.out.trans (gg.below.mono HB3.out.size), fun i hi => gg.keep0 (HCS.out i hi), Nat.lt_of_lt_of_le hbsz gg.below.size⟩
                case measure => simp [intOf]; omega
              · obtain ⟨m, hnn, hmN, hmx, hmy, hme⟩ := nbW_some hj (show u < a.size * s.size by rw [HNN.out]; exact huN) hst
                rw [HNB.out] at hnn
                rw [HNN.out] at hmN
                rw [owV_t hst, ← hmx, ← hmy] at HST
                rw [hnn] at HNS
                clear hst hnn hud hmx hmy hme
                generalize u / s.size = X1 at *
                generalize u % s.size = Y1 at *
                generalize scan nb u st j = sj at *
                have hI := BF2.out.inv
                have hfm := hI.fm m hmN
                have hln := hI.len
                have hfl := hI.fl
                have hPi2 : ((m / s.size : Nat) : Int) * (s.size : Int) = ((m / s.size * s.size : Nat) : Int) := by push_cast; rfl
                have hdm2 : s.size * (m / s.size) + m % s.size = m := Nat.div_add_mod m s.size
                rw [Nat.mul_comm] at hdm2
                generalize m / s.size = U at *
                generalize m % s.size = V at *
                generalize U * s.size = P2 at *
                have hsP2 : (P2 : Int) + (V : Int) = (m : Int) := by omega
                have b3 : P2 ≤ 64 := by omega
                have b4 : V ≤ 64 := by omega
                have zm0 : (0 : Int) ≤ (m : Int) := by omega
                have zm1 : (m : Int) < (N : Int) := by omega
                have zu0 : (0 : Int) ≤ (u : Int) := by omega
                have zu1 : (u : Int) < (N : Int) := by omega
                have cm : wr.cell? ⟨W0.heap.size, m, none⟩ = some (.int .i64 (f sj m)) := (HO3.out.at hfl m hmN).1
                have cu : wr.cell? ⟨W0.heap.size, u, none⟩ = some (.int .i64 (f st u)) := by rw [← HFU.out]; exact (HO3.out.at hfl u huN).1
                have cf : wr.frozen? ⟨W0.heap.size, m, none⟩ = false := (HO3.out.at hfl m hmN).2
                have hbF : W0.heap.size < wr.heap.size := HO3.out.lt _ rfl
                have r0 := gr_all (Gr.refl wr) cm
                have r1 := gr_all (Gr.refl wr) cu
                have r2 := gr_all_f (Gr.refl wr) hbF cf
                have HI := Lib.hid hI
                have HFL := Lib.hid hfl
                clear cm cu cf hI hfl hdm2
                by_cases hnew : f sj m < 0
                · have hnw : decide (f sj m < 0) = true := by simpa using hnew
                  have HQV := Lib.hid (show Gm.visit u sj (some m) = ⟨sj.far.set m (f st u + 1), if f sj m < 0 ∨ f sj m = f sj u + 1 then sj.ways.set m (IntKind.i64.wrap (Gm.g sj m + Gm.g sj u)) else sj.ways, sj.q ++ [m]⟩ by simp only [Gm.visit, if_pos hnew, HFU.out])
                  have HPOS := Lib.hid (show 0 < sj.q.length from Nat.lt_of_le_of_lt (Nat.zero_le _) LT2.out)
                  have HLE := Lib.hid (show sj.q.length ≤ 1000000 by omega)
                  have hltW : W0.heap.size < wo.heap.size := HO2.out.lt _ rfl
                  have HSZ := Lib.hid hltW
                  clear hltW
                  go_wp2
                  (refine wp_region_quiet_grown mixed (by kernel_rfl) ?_; (repeat (first | go_big_quiet_step ((first | (go_at_call 17; exact Calls.grown_of (HST.out _ (by repeat (first | exact Gr.refl _ | refine Gr.alloc ?_ _ | refine Gr.trans ?_ (by assumption) | refine Gr.drew ?_ | refine Gr.drewN ?_ _ | refine Gr.grow ?_ _ | refine Gr.setCell ?_ (by (try simp); (try omega)) _)))))) | quiet_step ((first | (go_at_call 17; exact Calls.grown_of (HST.out _ (by repeat (first | exact Gr.refl _ | refine Gr.alloc ?_ _ | refine Gr.trans ?_ (by assumption) | refine Gr.drew ?_ | refine Gr.drewN ?_ _ | refine Gr.grow ?_ _ | refine Gr.setCell ?_ (by (try simp); (try omega)) _)))))))); refine wpQuiet_nil ?_; intro _ hw'; obtain ⟨⟨nq, osq⟩, hw''⟩ := hw'; subst hw'')
                  go_wp2_with (at_builtin; refine wpList_appQ rfl ncs_len ncs_one _ _ 24 rfl Tryd.underlying24 Tryd.infoI2 rfl (by decide) (by decide) rfl (QOwn.gr (QOwn.setCell (HQ2.out.gr (Gr.grow (Gr.drewN (Gr.refl wr) nq) osq)) (a := ⟨W0.heap.size, m, none⟩) (fun g' hg' => (HQB.out g' hg').1) (.int .i64 (f st u + 1))) (Gr.alloc (Gr.refl _) _)) HPOS.out HLE.out _ m rfl (fun j u hu => alloc_cells' (by simp) (by simpa [ncs] using hu)) (by simp; omega) ?_)
                  intro vq wq hqq hgq hbq hblk
                  have gg : Gr wr (Go.Sort.grow (wr.drewN nq) osq) := Gr.grow (Gr.drewN (Gr.refl wr) nq) osq
                  have HQQ := Lib.hid hqq
                  have HQB3 := Lib.hid (show ∀ g', vq.ownBlock = some g' → g' ≠ W0.heap.size ∧ g' ≠ wo.heap.size from fun g' hg' => by
                    rcases hblk g' hg' with x | x
                    · exact HQB.out g' x
                    · have x2 := gg.below.size
                      have x3 : wr.heap.size ≤ g' := by omega
                      omega)
                  have HOQ := Lib.hid (show OwnI wq W0.heap.size (.slice (some ⟨W0.heap.size, 0, none⟩) N N) (sj.far.set m (f st u + 1)) from
                    OwnI.grown (OwnI.gr (OwnI.set (HO3.out.gr gg) HFL.out m (f st u + 1)) (Gr.alloc (Gr.refl _) _)) hgq (.inr (fun e => (HQB.out _ e.symm).1 rfl)))
                  have HBQ := Lib.hid (show Below W0.heap.size W0 wq from ((Below.setCell (HB3.out.trans (gg.below.mono HB3.out.size)) (p := ⟨W0.heap.size, m, none⟩) (Nat.le_refl _) _).alloc (by simp; omega) _).trans hbq)
                  have HCQ := Lib.hid (show ∀ i, i < 4 → wq.cell? ⟨wo.heap.size, i, none⟩ = some (.int .u8 (sgn i)) from fun i hi => by
                    have c1 := gg.keep0 (HCS.out i hi)
                    have c2 := (World.cell?_setCell_far (Go.Sort.grow (wr.drewN nq) osq) ⟨W0.heap.size, m, none⟩ ⟨wo.heap.size, i, none⟩ (.int .i64 (f st u + 1)) (by have := HSZ.out; simp; omega)).trans c1
                    exact hgq.cell ((Gr.alloc (Gr.refl _) _).keep0 c2) (fun e => (HQB.out _ e.symm).2 rfl))
                  have hszq : wo.heap.size < wq.heap.size := World.block_lt_of_cell? _ _ (HCQ.out 0 (by decide))
                  clear hqq hgq hbq hblk r0 r1 r2 q0 q1
                  go_wp2_with fail
                  go_roundw
                  case rel =>
                    exact ⟨j + 1, by go_num, by omega, by rw [HNS.out, HQV.out]; exact HQQ.out, HQB3.out, by rw [HNS.out, HQV.out]; exact HOQ.out, HBQ.out, HCQ.out, hszq⟩
                  case measure => simp [intOf]; omega
                · have hnw : decide (f sj m < 0) = false := by simpa using hnew
                  have HQV := Lib.hid (show Gm.visit u sj (some m) = ⟨sj.far, if f sj m < 0 ∨ f sj m = f sj u + 1 then sj.ways.set m (IntKind.i64.wrap (Gm.g sj m + Gm.g sj u)) else sj.ways, sj.q⟩ by simp only [Gm.visit, if_neg hnew])
                  go_wp2
                  (refine wp_region_quiet_grown mixed (by kernel_rfl) ?_; (repeat (first | go_big_quiet_step ((first | (go_at_call 17; exact Calls.grown_of (HST.out _ (by repeat (first | exact Gr.refl _ | refine Gr.alloc ?_ _ | refine Gr.trans ?_ (by assumption) | refine Gr.drew ?_ | refine Gr.drewN ?_ _ | refine Gr.grow ?_ _ | refine Gr.setCell ?_ (by (try simp); (try omega)) _)))))) | quiet_step ((first | (go_at_call 17; exact Calls.grown_of (HST.out _ (by repeat (first | exact Gr.refl _ | refine Gr.alloc ?_ _ | refine Gr.trans ?_ (by assumption) | refine Gr.drew ?_ | refine Gr.drewN ?_ _ | refine Gr.grow ?_ _ | refine Gr.setCell ?_ (by (try simp); (try omega)) _)))))))); refine wpQuiet_nil ?_; intro _ hw'; obtain ⟨⟨nq, osq⟩, hw''⟩ := hw'; subst hw'')
                  go_wp2_with fail
                  have gg : Gr wr (Go.Sort.grow (wr.drewN nq) osq) := Gr.grow (Gr.drewN (Gr.refl wr) nq) osq
                  go_roundw
                  case rel =>
                    exact ⟨j + 1, by go_num, by omega, by rw [HNS.out, HQV.out]; exact HQ2.out.gr gg, HQB.out, by rw [HNS.out, HQV.out]; exact HO3.out.gr gg, HB3.out.trans (gg.below.mono HB3.out.size), fun i hi => gg.keep0 (HCS.out i hi), Nat.lt_of_lt_of_le hbsz gg.below.size⟩
                  case measure => simp [intOf]; omega
            · obtain rfl : j = 4 := by omega
              have HQ2 := Lib.hid hq2
              have HO3 := Lib.hid ho2
              have HB3 := Lib.hid hb2
              have HLT := Lib.hid lt2
              have HQB := Lib.hid (fun g hg => (hqb2 g hg).1)
              clear hq2 ho2 hb2 lt2 qk2 kp2 bf2 hcs hqb2
              go_wp2_with fail
              go_roundw
              case rel =>
                exact ⟨k + 1, by go_num, by rw [HNX.out]; exact HLT.out, by rw [HNX.out]; exact HQ2.out, HQB.out, by rw [HNX.out]; exact HO3.out, HB3.out⟩
              case measure => simp [intOf]; omega
        · have he : k = (run nb N s0 k).q.length := by omega
          have hfin := run_end HV.out HS.out he
          rw [hfin] at ho hq he hk hkl hlen
          obtain ⟨A1, c1, rfl⟩ := hq.form
          have z0 : ¬ (k : Int) < ((fin nb N s0).q.length : Int) := by omega
          have HO2 := Lib.hid ho
          have HB2 := Lib.hid hb
          clear ho hb hq hqb hfin he
          go_wp2
          go_ret
          exact ⟨_, rfl, OwnI.mono HO2.out (by omega), Below.trans HG.out.below (HB2.out.mono (by omega))⟩
end Go.Proofs
