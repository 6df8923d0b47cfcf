/-
  Chapter 8, the program: the parcels of each trip (impl.parcelsOf), the weights of trips (impl.weightsOf), WeightsOfTrips.
-/
import Derived.Test.YtjocipddffillaaBgK
import Derived.Test.YtjocipddffillaaRlW
import Derived.Deep.SlicePairs
namespace Go.Proofs
open Go.RowKit Bg
set_option linter.unusedVariables false
set_option linter.unusedSimpArgs false
/-- a row of m lists of ints, all of the call's own, no two of them in one block -/
def OwnLD (w : World) (B : Nat) (v : Value) (m : Nat) (F : Nat → List Int) : Prop :=
  ∃ vs : List Value, vs.length = m ∧ w.ownsRow B 29 1 v m vs ∧ (∀ k u, vs[k]? = some u → OwnI w B u (F k)) ∧ ∀ (i j : Nat) (u u' : Value), i ≠ j → vs[i]? = some u → vs[j]? = some u' → NE u u'
theorem OwnLD.ll {w : World} {B m : Nat} {v : Value} {F : Nat → List Int} (h : OwnLD w B v m F) : OwnLL w B v m F := by
  obtain ⟨vs, a, b, c, _⟩ := h
  exact ⟨vs, a, b, c⟩
theorem OwnLD.row {w : World} {B n g c : Nat} {F : Nat → List Int} (h : OwnLD w B (.slice (some ⟨g, 0, none⟩) n c) n F) (k : Nat) (hk : k < n) : ∃ u, w.cell? ⟨g, k, none⟩ = some u ∧ OwnI w B u (F k) ∧ w.frozen? ⟨g, k, none⟩ = false := by
  obtain ⟨vs, h1, h3, h4, _⟩ := h
  refine ⟨vs[k], ?_, h4 k _ (by simp), World.ownsRow.frozenAt h3 k⟩
  rw [World.ownsRow.cellAt h3 k (by omega)]
  simp [show k < vs.length by omega]
theorem rows_ne2 {w : World} {B B' n : Nat} {v u : Value} {xs : List Int} {cs : List Value} (h : OwnI w B u xs) (h' : w.ownsRow B' 29 1 v n cs) : v.ownBlock = none ∨ v.ownBlock ≠ u.ownBlock := (NE.sym (a := u) (b := v) (rows_ne h h'))
/-- one number more in the list t, and that list is written back -/
theorem OwnLD.upd {W w' : World} {B n g c t : Nat} {F : Nat → List Int} (h : OwnLD W B (.slice (some ⟨g, 0, none⟩) n c) n F) (ht : t < n) {u v' : Value} {x : Int} (hu : W.cell? ⟨g, t, none⟩ = some u)
    (hv : OwnI w' B v' (F t ++ [x])) (hg : W.grownBy w' u.ownBlock) (hat : v'.ownBlock = u.ownBlock ∨ v'.ownBlock = some (W.heap.size + 1)) :
    OwnLD (w'.setCell ⟨g, t, none⟩ v') B (.slice (some ⟨g, 0, none⟩) n c) n (fun j => if j = t then F t ++ [x] else F j) := by
  obtain ⟨vs, h1, h3, h4, h5⟩ := h
  have htv : vs[t]? = some u := by
    have e := World.ownsRow.cellAt h3 t (by omega)
    rw [hu] at e
    exact e.symm
  have hou := h4 t u htv
  have h3' : w'.ownsRow B 29 1 (.slice (some ⟨g, 0, none⟩) n c) n vs := World.ownsRow.kept h3 hg (rows_ne2 hou h3)
  have gb : w'.grownBy (w'.setCell ⟨g, t, none⟩ v') (some g) := grownBy_set (World.grownBy.refl _ _)
  have hrow : ∀ j z, j ≠ t → vs[j]? = some z → OwnI w' B z (F j) := fun j z e hz => (h4 j z hz).grown hg (h5 j t z u e hz htv)
  refine ⟨vs.set t v', by simpa using h1, (World.ownsRow.stored h3' t v').1, fun j z hz => ?_, fun i j z z' hij hz hz' => ?_⟩
  · by_cases e : j = t
    · subst e
      rw [List.getElem?_set_self (by omega)] at hz
      simp only [Option.some.injEq] at hz
      subst hz
      show OwnI _ B v' (if j = j then F j ++ [x] else F j)
      rw [if_pos rfl]
      exact hv.grown gb (rows_ne hv h3')
    · rw [List.getElem?_set_ne (by omega)] at hz
      show OwnI _ B z (if j = t then F t ++ [x] else F j)
      rw [if_neg e]
      have := hrow j z e hz
      exact this.grown gb (rows_ne this h3')
  · by_cases ei : i = t
    · subst ei
      rw [List.getElem?_set_self (by omega)] at hz
      rw [List.getElem?_set_ne hij] at hz'
      simp only [Option.some.injEq] at hz
      subst hz
      exact (h5 i j u z' hij htv hz').app (h4 j z' hz') hat
    · rw [List.getElem?_set_ne (by omega)] at hz
      by_cases ej : j = t
      · subst ej
        rw [List.getElem?_set_self (by omega)] at hz'
        simp only [Option.some.injEq] at hz'
        subst hz'
        exact ((h5 i j z u hij hz htv).sym.app (h4 i z hz) hat).sym
      · rw [List.getElem?_set_ne (by omega)] at hz'
        exact h5 i j z z' hij hz hz'
theorem OwnLD.below {w w' : World} {B C m : Nat} {v : Value} {F : Nat → List Int} (h : OwnLD w B v m F) (hb : Below C w w') (hC : w.heap.size ≤ C) : OwnLD w' B v m F := by
  obtain ⟨vs, h1, h3, h4, h5⟩ := h
  refine ⟨vs, h1, ⟨h3.1, ?_⟩, fun k u hk => (h4 k u hk).below hb hC, h5⟩
  rcases h3.2 with hn | ⟨g, cap, cur, rfl, hb', hg, r⟩
  · exact .inl hn
  · exact .inr ⟨g, cap, cur, rfl, hb', by rw [hb.block g (by have := (Array.getElem?_eq_some_iff.1 hg).1; omega)]; exact hg, r⟩
theorem frozen_gb {w w' : World} {row : Option Nat} (hg : w.grownBy w' row) {b o : Nat} (hlt : b < w.heap.size) (hne : some b ≠ row) (h : w.frozen? ⟨b, o, none⟩ = false) : w'.frozen? ⟨b, o, none⟩ = false := by
  have e := hg.block b hlt hne
  simp only [World.frozen?] at h ⊢
  rw [e]
  exact h
/-- the parcels of the trip t among the first k -/
def prN (pl : List Int) : Nat → Nat → List Int
  | 0, _ => []
  | k + 1, t => if pl.getD k 0 = (t : Int) then prN pl k t ++ [(k : Int)] else prN pl k t
theorem prN_len (pl : List Int) (k t : Nat) : (prN pl k t).length ≤ k := by
  induction k with
  | zero => exact Nat.le_refl _
  | succ k ih =>
    simp only [prN]
    split
    · rw [List.length_append]; simp; exact ih
    · omega
theorem prN_in (pl : List Int) (k t : Nat) : ∀ x ∈ prN pl k t, 0 ≤ x ∧ x < (k : Int) := by
  induction k with
  | zero => intro x hx; simp [prN] at hx
  | succ k ih =>
    intro x hx
    simp only [prN] at hx
    split at hx
    · rcases List.mem_append.1 hx with q | q
      · have := ih x q; omega
      · simp at q; omega
    · have := ih x hx; omega
theorem prN_step {pl : List Int} {k t : Nat} (h : pl.getD k 0 = (t : Int)) : (fun j => if j = t then prN pl k t ++ [(k : Int)] else prN pl k j) = prN pl (k + 1) := by
  funext j
  simp only [prN]
  by_cases e : j = t
  · subst e; rw [if_pos rfl, if_pos h]
  · rw [if_neg e, if_neg (by omega)]
def PoRel (pl : List Int) (N : Nat) (w : World) (i : Value) (wr : World) : Prop := ∃ k : Nat, k ≤ pl.length ∧ i = .int .i64 k ∧ OwnLD wr w.heap.size (.slice (some ⟨w.heap.size, 0, none⟩) N N) N (prN pl k) ∧ Below w.heap.size w wr
set_option maxRecDepth 100000 in
set_option maxHeartbeats 1600000 in
theorem Try.parcelsOf (w : World) (B' : Nat) (v' : Value) (pl : List Int) (h0 : 0 < pl.length) (hl : pl.length ≤ 8) (hrg : RgUp pl pl.length) (h' : OwnI w B' v' pl) :
    Calls Try.prog 62 #[v'] w fun e w' => ∃ u, e = .returned u ∧ OwnLD w' w.heap.size u (cntN pl pl.length) (prN pl pl.length) ∧ Below w.heap.size w w' := by
  have HCT := Lib.hid (Try.countTrips w B' v' pl (by omega) h0 hrg h')
  have hcl := cnt_le pl pl.length
  have hlt0 := rg_lt hrg
  obtain ⟨N, hN⟩ : ∃ N, cntN pl pl.length = N := ⟨_, rfl⟩
  rw [hN] at HCT hcl hlt0 ⊢
  obtain ⟨A', c', rfl, h'⟩ := h'.eta
  obtain ⟨g', rfl⟩ := h'.addr (by omega)
  obtain ⟨i0, hi, hz0, hz1, hz2⟩ := info_parts Try.infoS2
  have HII := Lib.hid hi
  have HO := Lib.hid h'
  have HR := Lib.hid hrg
  have HLT := Lib.hid hlt0
  have hN8 : N ≤ 8 := by omega
  clear h' hi hrg hN hlt0
  go_enter Try.func62, Try.ntmps62
  go_wp2_with (first | (go_at_call 90; refine HCT.out.mono ?_; rintro e w0 ⟨rfl, rfl⟩) | (at_make; refine wpList_make_full _ rfl _ _ 35 rfl w.heap.size 29 i0 (.slice none 0 0) 1 Try.underlying35 HII.out hz0 hz1 .i64 .i64 _ _ N rfl rfl (by rfl) (by rfl) (by rw [hz2]; omega) (by unfold maxLen; omega) (Nat.le_refl _) ?_; intro w1 hown1 hgr1))
  have hb1 : Below w.heap.size w w1 := (Below.refl _ w).grown hgr1 (Nat.le_refl _) (by simp)
  have ho1 : OwnLD w1 w.heap.size (.slice (some ⟨w.heap.size, 0, none⟩) N N) N (prN pl 0) := by
    refine ⟨List.replicate N (.slice none 0 0), by simp, by simpa [Value.cells, toList_madeCells_one] using hown1, fun k u hu => ?_, fun i j u u' _ hu _ => ?_⟩
    · rw [List.getElem?_replicate] at hu
      split at hu
      · simp only [Option.some.injEq] at hu
        subst hu
        exact OwnI.nil2 _ _
      · cases hu
    · rw [List.getElem?_replicate] at hu
      split at hu
      · simp only [Option.some.injEq] at hu
        subst hu
        exact .inl rfl
      · cases hu
  have HO1 := Lib.hid ho1
  have HB1 := Lib.hid hb1
  clear hown1 hgr1 ho1 hb1
  go_loopw [4, 5, 11] (fun _ _ i wr => PoRel pl N w i wr) (fun _ _ i _ => (pl.length - intOf i).toNat)
  case atStart => exact ⟨0, Nat.zero_le _, rfl, HO1.out, HB1.out⟩
  case round =>
    obtain ⟨k, hk, rfl, ol, hb'⟩ := hrel
    by_cases hlt : k < pl.length
    · have e0 := cell_k2 hb' (HO.out.at rfl k hlt).1
      obtain ⟨t, ht⟩ : ∃ t : Nat, pl.getD k 0 = (t : Int) := ⟨(pl.getD k 0).toNat, by have := HR.out k hlt; omega⟩
      have htN : t < N := by have := HLT.out k hlt; rw [ht] at this; omega
      have hst := prN_step ht
      have hpl := prN_len pl k t
      obtain ⟨u, cu, ou, fu⟩ := ol.row t htN
      obtain ⟨A5, c5, rfl, ou⟩ := ou.eta
      have z0 : (0 : Int) ≤ (k : Int) := by omega
      have z1 : (k : Int) < (pl.length : Int) := by omega
      have tz0 : (0 : Int) ≤ (t : Int) := by omega
      have tz1 : (t : Int) < (N : Int) := by omega
      rw [ht] at e0
      have HST := Lib.hid hst
      have OL := Lib.hid ol
      have OU := Lib.hid ou
      have HB := Lib.hid hb'
      have HCU := Lib.hid cu
      have hsz := hb'.size
      have hgne : some w.heap.size ≠ (Value.slice A5 (prN pl k t).length c5).ownBlock := by
        obtain ⟨vs, _, h3, h4, _⟩ := ol
        rcases rows_ne2 ou h3 with c | c
        · simp [Value.ownBlock] at c
        · simpa [Value.ownBlock] using c
      have hltw : w.heap.size < wr.heap.size := World.block_lt_of_cell? _ _ cu
      have HFU := Lib.hid fu
      clear hst ol ou hb' ht fu
      generalize hF : prN pl k t = ys at *
      have HYS := Lib.hid hF
      clear hF
      go_wp2_with (first | (at_builtin; refine wpList_app1J rfl _ _ 29 rfl Try.underlying29 Try.infoI2 w.heap.size _ _ rfl OU.out (k : Int) rfl (by omega) hsz ?_; intro v5 w5 ho5 hb5 hg5 hs5 hat5; obtain ⟨A6, c6, rfl, ho5⟩ := ho5.eta; have cu5 := hg5.cell HCU.out hgne; have fu5 := frozen_gb hg5 hltw hgne HFU.out))
      go_roundw
      case rel =>
        refine ⟨k + 1, by omega, by go_num, ?_, Below.setCell (HB.out.trans hb5) (Nat.le_refl _) _⟩
        have := OwnLD.upd (x := (k : Int)) OL.out htN HCU.out (by rw [HYS.out]; exact ho5) hg5 hat5
        rw [HYS.out, HST.out, show (ys ++ [(k : Int)]).length = ys.length + 1 by simp] at this
        exact this
      case measure => simp [intOf]; omega
    · obtain rfl : k = pl.length := by omega
      have OL := Lib.hid ol
      have HB := Lib.hid hb'
      clear ol hb'
      go_wp2
      go_ret
      exact ⟨_, rfl, OL.out, HB.out⟩
theorem prN_at {pl : List Int} {k t j : Nat} (hj : j < (prN pl k t).length) : 0 ≤ (prN pl k t).getD j 0 ∧ (prN pl k t).getD j 0 < (k : Int) := by
  have := prN_in pl k t ((prN pl k t).getD j 0) (by rw [List.getD, List.getElem?_eq_getElem hj]; exact List.getElem_mem hj)
  exact this
theorem smF_app (G : Int → Int) (xs : List Int) (y : Int) : smF (fun j => G ((xs ++ [y]).getD j 0)) (xs ++ [y]).length = smF (fun j => G (xs.getD j 0)) xs.length + G y := by
  rw [List.length_append]
  show smF _ (xs.length + 1) = _
  simp only [smF]
  rw [smF_congr (F := fun j => G ((xs ++ [y]).getD j 0)) (G := fun j => G (xs.getD j 0)) xs.length (fun j hj => by rw [show (xs ++ [y]).getD j 0 = xs.getD j 0 by simp [List.getD, List.getElem?_append_left hj, hj]])]
  congr 1
  rw [show (xs ++ [y]).getD xs.length 0 = y by simp [List.getD]]
theorem prN_sum (f : Nat → Int) (pl : List Int) (k t : Nat) : smF (fun j => f ((prN pl k t).getD j 0).toNat) (prN pl k t).length = wtN f pl k t := by
  induction k with
  | zero => rfl
  | succ k ih =>
    simp only [prN, wtN]
    split
    · rw [smF_app (fun z => f z.toNat), ih, Int.toNat_natCast]
    · exact ih
set_option maxHeartbeats 400000 in
theorem Try.weightsOf1 (i : Nat) (b g n c : Nat) (x : Int) (w : World) (hc : w.cell? ⟨b, 0, none⟩ = some (.slice (some ⟨g, 0, none⟩) n c)) (h1 : w.cell? ⟨g, i * 2 + 1, none⟩ = some (.int .i64 x)) (hi : i < n) :
    Calls Try.prog 95 (#[.int .i64 i] ++ #[.pointer (some ⟨b, 0, none⟩)]) w fun e w' => e = .returned (.int .i64 x) ∧ Gr w w' := by
  have z0 : (0 : Int) ≤ (i : Int) := by omega
  have z1 : (i : Int) < (n : Int) := by omega
  go_enter Try.func95, Try.ntmps95
  go_wp2
  go_ret
  exact ⟨rfl, by repeat (first | exact Gr.refl _ | refine Gr.alloc ?_ _ | refine Gr.trans ?_ (by assumption) | refine Gr.drew ?_ | refine Gr.drewN ?_ _ | refine Gr.grow ?_ _ | refine Gr.setCell ?_ (by (try simp); (try omega)) _)⟩
def PwRel (f : Nat → Int) (pl : List Int) (N : Nat) (w W : World) (B : Nat) (s i : Value) (wr : World) : Prop := ∃ k : Nat, k ≤ N ∧ i = .int .i64 k ∧ OwnI wr B s (tb (wtN f pl pl.length) k) ∧ Below w.heap.size w wr ∧ Below B W wr
set_option maxRecDepth 100000 in
set_option maxHeartbeats 1600000 in
theorem Try.weightsOf (w : World) (B B' : Nat) (v v' : Value) (ps : List Pi2) (pl : List Int) (hg : GoodB ps) (hlen : pl.length = ps.length) (hrg : RgUp pl pl.length) (h : OwnP 55 w B v ps) (h' : OwnI w B' v' pl) :
    Calls Try.prog 67 #[v, v'] w fun e w' => ∃ u, e = .returned u ∧ OwnI w' w.heap.size u (tb (wtN (weiF ps) pl pl.length) (cntN pl pl.length)) ∧ Below w.heap.size w w' := by
  have hl8 := hg.1
  have hcl := cnt_le pl pl.length
  rcases h.view with ⟨rfl, _⟩ | ⟨hpos, g, c, rfl, _, hgs, _, _, hc, _⟩
  · simp at hl8
  have hG := Gr.alloc (Gr.refl w) (.cells #[.slice (some ⟨g, 0, none⟩) ps.length c] 25)
  have hbx : (w.alloc (.cells #[.slice (some ⟨g, 0, none⟩) ps.length c] 25)).cell? ⟨w.heap.size, 0, none⟩ = some (.slice (some ⟨g, 0, none⟩) ps.length c) := by simp [go_sem]
  have HP := Lib.hid (Try.parcelsOf _ B' v' pl (by omega) (by omega) hrg (h'.gr hG))
  have hmf : ∀ (fn : Fn) (first cap : Array Value) (w : World), (Instr.makeFunc fn first cap).run Try.prog w = .ok (.func fn first cap) w := fun _ _ _ _ => rfl
  have eg : ∀ args w, (callFunc 95 args).run Try.prog w = .ok (.enter 95 args) w := enters_of Try.func95 (by kernel_rfl) rfl
  have HEG := Lib.hid eg
  have HC := Lib.hid hc
  have HW := Lib.hid (good_wei hg)
  have HLEN := Lib.hid hlen
  obtain ⟨A', c', rfl⟩ := h'.sl
  obtain ⟨N, hN⟩ : ∃ N, cntN pl pl.length = N := ⟨_, rfl⟩
  have hlp8 : pl.length ≤ 8 := by omega
  rw [hN] at HP hcl ⊢
  clear h h' hc eg hrg hg hN hlen
  go_enter Try.func67, Try.ntmps67
  go_wp2_with (go_at_call 62; refine HP.out.mono ?_; rintro e w1 ⟨v1, rfl, ol1, bl1⟩; obtain ⟨A1, c1, rfl, _⟩ := ol1.ll.slice)
  have OL := Lib.hid ol1
  have BL := Lib.hid (hG.below.trans (bl1.mono hG.below.size))
  have hb1 : w1.cell? ⟨w.heap.size, 0, none⟩ = some (.slice (some ⟨g, 0, none⟩) ps.length c) := cell_k2 bl1 hbx
  have HB1 := Lib.hid hb1
  clear ol1 bl1 hb1 hbx hG
  go_loopw [5, 7, 11] (fun s _ i wr => PwRel (weiF ps) pl N w w1 w1.heap.size s i wr) (fun _ _ i _ => (N - intOf i).toNat)
  case atStart => exact ⟨0, Nat.zero_le _, rfl, OwnI.nil2 _ _, BL.out, Below.refl _ _⟩
  case round =>
    obtain ⟨k, hk, rfl, o5, hb', hbW⟩ := hrel
    by_cases hlt : k < N
    · obtain ⟨g1, rfl⟩ : ∃ g1, A1 = some ⟨g1, 0, none⟩ := by
        obtain ⟨g', c', e, _⟩ := OL.out.ll.form (by omega)
        simp only [Value.slice.injEq] at e
        exact ⟨g', e.1⟩
      obtain ⟨u, cu, ou, _⟩ := (OL.out.below hbW (Nat.le_refl _)).row k hlt
      obtain ⟨Au, lu, cu', rfl⟩ : ∃ A l c, u = .slice A l c := by obtain ⟨A, c, e⟩ := ou.sl; exact ⟨_, _, _, e⟩
      have hbx' := cell_k2 hbW HB1.out
      have hcw : ∀ j, j < ps.length → wr.cell? ⟨g, j * 2 + 1, none⟩ = some (.int .i64 (weiF ps j)) := fun j hj => cell_k2 hb' (HC.out j hj).2
      have hts := tb_succ (wtN (weiF ps) pl pl.length) k
      have htl := tb_len (wtN (weiF ps) pl pl.length) k
      have hsum := prN_sum (weiF ps) pl pl.length k
      have hpl := prN_len pl pl.length k
      have hbd := smF_in (F := fun j => weiF ps ((prN pl pl.length k).getD j 0).toNat) (M := 1000) (n := (prN pl pl.length k).length) (fun j _ => HW.out _)
      have HSU := Lib.hid (fun W (gW : Gr wr W) => Try.sumInts 95 #[.pointer (some ⟨w.heap.size, 0, none⟩)] (prN pl pl.length k) (fun j => weiF ps ((prN pl pl.length k).getD j 0).toNat) W _ _ (ou.gr gW) (by omega)
        (fun j hj => by have := hbd j hj; omega) HEG.out (fun W' j g' hj => by
          have hin := prN_at hj
          obtain ⟨q, hq⟩ : ∃ q : Nat, (prN pl pl.length k).getD j 0 = (q : Int) := ⟨((prN pl pl.length k).getD j 0).toNat, by omega⟩
          have hql : q < ps.length := by have := HLEN.out; omega
          (try simp only)
          rw [hq, Int.toNat_natCast]
          exact Try.weightsOf1 q w.heap.size g ps.length c (weiF ps q) W' (g'.keep0 (gW.keep0 hbx')) (g'.keep0 (gW.keep0 (hcw q hql))) hql))
      rw [hsum] at HSU
      have z0 : (0 : Int) ≤ (k : Int) := by omega
      have z1 : (k : Int) < (N : Int) := by omega
      have HTS := Lib.hid hts
      have HTL := Lib.hid htl
      have O5 := Lib.hid o5
      have HB := Lib.hid hb'
      have HBW := Lib.hid hbW
      have hszW := hbW.size
      have hszw := hb'.size
      clear hts htl o5 hb' hbW hsum hpl hbd hcw ou
      generalize tb (wtN (weiF ps) pl pl.length) k = tk at *
      generalize wtN (weiF ps) pl pl.length k = y at *
      generalize prN pl pl.length k = rw' at *
      go_wp2_with (first | (go_at_call 93; refine (HSU.out _ (by repeat (first | exact Gr.refl _ | refine Gr.alloc ?_ _ | refine Gr.trans ?_ (by assumption) | refine Gr.drew ?_ | refine Gr.drewN ?_ _ | refine Gr.grow ?_ _ | refine Gr.setCell ?_ (by (try simp); (try omega)) _))).mono ?_; rintro e w2 ⟨rfl, g2⟩; have gz : Gr wr w2 := Gr.trans (by repeat (first | exact Gr.refl _ | refine Gr.alloc ?_ _ | refine Gr.trans ?_ (by assumption) | refine Gr.drew ?_ | refine Gr.drewN ?_ _ | refine Gr.grow ?_ _ | refine Gr.setCell ?_ (by (try simp); (try omega)) _)) g2; have hz := gz.below.size) | (at_builtin; refine wpList_app1J rfl _ _ 29 rfl Try.underlying29 Try.infoI2 w1.heap.size _ _ rfl (O5.out.gr gz) y rfl (by rw [HTL.out]; omega) (by omega) ?_; intro v5 w5 ho5 hb5 hg5 hs5 hat5))
      go_roundw
      case rel => exact ⟨k + 1, by omega, by go_num, by rw [HTS.out]; exact ho5, (HB.out.trans (gz.below.mono hszw)).trans (hb5.mono (Nat.le_trans BL.out.size (Nat.le_refl _))), (HBW.out.trans (gz.below.mono hszW)).trans hb5⟩
      case measure => simp [intOf]; omega
    · obtain rfl : k = N := by omega
      have O5 := Lib.hid o5
      have HB := Lib.hid hb'
      clear o5 hb' hbW
      go_wp2
      go_ret
      exact ⟨_, rfl, O5.out.mono BL.out.size, HB.out⟩
def weiB (ps : List Pi2) (pl : List Int) : List Int := tb (wtN (weiF ps) pl pl.length) (cntN pl pl.length)
set_option maxHeartbeats 1600000 in
theorem Try.sWeightsOfTrips (w : World) (B B' : Nat) (v v' : Value) (ps : List Pi2) (pl : List Int) (bag : Int) (a p : Bool) (ha : a = true ↔ AskB ps bag) (hp : p = true ↔ PlanB ps bag pl) (hlp : pl.length ≤ 1048576) (hls : ps.length ≤ 1048576) (h : OwnP 55 w B v ps) (h' : OwnI w B' v' pl) :
    Calls Try.prog 35 #[v, .int .i64 bag, v'] w (RetI w (if (a && p) = true then weiB ps pl else []) (a && p)) := by
  have HG := Lib.hid (Try.bgBoth w B B' v v' ps pl bag a p ha hp hlp hls h h')
  cases hr : (a && p)
  · rw [hr] at HG
    obtain ⟨A, c, rfl⟩ := h.sl
    obtain ⟨A', c', rfl⟩ := h'.sl
    clear h h' ha hp hr
    go_enter Try.func35, Try.ntmps35
    go_wp2_with (first | (go_at_call 60; refine HG.out.mono ?_; rintro e w1 ⟨rfl, b1⟩))
    go_ret2
    exact ⟨_, rfl, OwnI.nil2 _ _, b1⟩
  · rw [hr] at HG
    rw [if_pos rfl]
    rw [Bool.and_eq_true] at hr
    have hask := ha.1 hr.1
    have hpl := hp.1 hr.2
    have HW := Lib.hid (fun W (bl : Below w.heap.size w W) => Try.bgWeights W B B' v v' ps pl hask.1 hpl.1 hpl.2.1 (h.below bl (Nat.le_refl _)) (h'.below bl (Nat.le_refl _)))
    unfold weiB
    generalize tb (wtN (weiF ps) pl pl.length) (cntN pl pl.length) = T at *
    obtain ⟨A, c, rfl⟩ := h.sl
    obtain ⟨A', c', rfl⟩ := h'.sl
    clear h h' ha hp hr hask hpl
    go_enter Try.func35, Try.ntmps35
    go_wp2_with (first | (go_at_call 60; refine HG.out.mono ?_; rintro e w1 ⟨rfl, b1⟩) | (go_at_call 61; refine (HW.out _ b1).mono ?_; rintro e w2 ⟨v2, rfl, o2, b2⟩))
    go_ret2
    exact ⟨_, rfl, o2.mono b1.size, b1.trans (b2.mono b1.size)⟩
set_option maxHeartbeats 1600000 in
theorem Try.iWeightsOfTrips (w : World) (B B' : Nat) (v v' : Value) (ps : List Pi2) (pl : List Int) (bag : Int) (a p : Bool) (ha : a = true ↔ AskB ps bag) (hp : p = true ↔ PlanB ps bag pl) (hlp : pl.length ≤ 1048576) (hls : ps.length ≤ 1048576) (h : OwnP 55 w B v ps) (h' : OwnI w B' v' pl) :
    Calls Try.prog 36 #[v, .int .i64 bag, v'] w (RetI w (if (a && p) = true then weiB ps pl else []) (a && p)) := by
  have HG := Lib.hid (Try.havePlan w B B' v v' ps pl bag a p ha hp hlp hls h h')
  cases hr : (a && p)
  · rw [hr] at HG
    obtain ⟨A, c, rfl⟩ := h.sl
    obtain ⟨A', c', rfl⟩ := h'.sl
    clear h h' ha hp hr
    go_enter Try.func36, Try.ntmps36
    go_wp2_with (first | (go_at_call 58; refine HG.out.mono ?_; rintro e w1 ⟨rfl, b1⟩))
    go_ret2
    exact ⟨_, rfl, OwnI.nil2 _ _, b1⟩
  · rw [hr] at HG
    rw [if_pos rfl]
    rw [Bool.and_eq_true] at hr
    have hask := ha.1 hr.1
    have hpl := hp.1 hr.2
    have HW := Lib.hid (fun W (bl : Below w.heap.size w W) => Try.weightsOf W B B' v v' ps pl hask.1 hpl.1 hpl.2.1 (h.below bl (Nat.le_refl _)) (h'.below bl (Nat.le_refl _)))
    unfold weiB
    generalize tb (wtN (weiF ps) pl pl.length) (cntN pl pl.length) = T at *
    obtain ⟨A, c, rfl⟩ := h.sl
    obtain ⟨A', c', rfl⟩ := h'.sl
    clear h h' ha hp hr hask hpl
    go_enter Try.func36, Try.ntmps36
    go_wp2_with (first | (go_at_call 58; refine HG.out.mono ?_; rintro e w1 ⟨rfl, b1⟩) | (go_at_call 67; refine (HW.out _ b1).mono ?_; rintro e w2 ⟨v2, rfl, o2, b2⟩))
    go_ret2
    exact ⟨_, rfl, o2.mono b1.size, b1.trans (b2.mono b1.size)⟩
end Go.Proofs
