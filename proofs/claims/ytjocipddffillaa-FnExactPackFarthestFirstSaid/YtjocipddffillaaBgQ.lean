/-
  Chapter 8, the program: parcels put with the farthest houses first (impl.PackFarthestFirst).
-/
import Derived.Test.YtjocipddffillaaBgZ
import Derived.Test.YtjocipddffillaaBgT
import Derived.Test.YtjocipddffillaaBgE
namespace Go.Proofs
open Go.RowKit Bg
set_option linter.unusedVariables false
set_option linter.unusedSimpArgs false
/-- the first k parcels in an order -/
def trP (ps : List Pi2) (ord : List Int) (k : Nat) : List Pi2 := (List.range k).map (fun j => ps.getD (ord.getD j 0).toNat (0, 0))
theorem trP_len (ps : List Pi2) (ord : List Int) (k : Nat) : (trP ps ord k).length = k := by simp [trP]
theorem trP_succ (ps : List Pi2) (ord : List Int) (k : Nat) : trP ps ord (k + 1) = trP ps ord k ++ [ps.getD (ord.getD k 0).toNat (0, 0)] := by simp [trP, List.range_succ]
theorem trP_get (ps : List Pi2) (ord : List Int) (n k : Nat) (h : k < n) : (trP ps ord n).getD k (0, 0) = ps.getD (ord.getD k 0).toNat (0, 0) := by simp [trP, List.getD, h]
theorem trP_ask {ps : List Pi2} {bag : Int} {ord : List Int} (h : AskB ps bag) (ho : ∀ k, k < ps.length → 0 ≤ ord.getD k 0 ∧ ord.getD k 0 < (ps.length : Int)) : AskB (trP ps ord ps.length) bag := by
  have hq : ∀ k, k < ps.length → (ord.getD k 0).toNat < ps.length := fun k hk => by have := ho k hk; omega
  refine ⟨⟨by rw [trP_len]; exact h.1.1, fun k hk => ?_⟩, h.2.1, fun k hk => ?_⟩
  · rw [trP_len] at hk
    rw [trP_get _ _ _ _ hk]
    exact h.1.2 _ (hq k hk)
  · rw [trP_len] at hk
    rw [trP_get _ _ _ _ hk]
    exact h.2.2 _ (hq k hk)
theorem trP_pack {ps : List Pi2} {bag : Int} {ord : List Int} (n k : Nat) (hk : k < n) : (packed (weiF (trP ps ord n)) bag n).getD k 0 = (pkT (ordF ps ord) bag (pkW (ordF ps ord) bag k) k : Int) := by
  have hw : ∀ j, j < n → weiF (trP ps ord n) j = ordF ps ord j := fun j hj => by unfold weiF ordF weiF; rw [trP_get _ _ _ _ hj]
  rw [packed, tb_get _ _ _ hk, pkW_congr (fun j hj => hw j (by omega)), pkT_congr (hw k hk)]
def L1Rel (n B : Nat) (w : World) (s i : Value) (wr : World) : Prop := ∃ k : Nat, k ≤ n ∧ i = .int .i64 k ∧ OwnI wr B s (tb (fun j => (j : Int)) k) ∧ Below B w wr
def L2Rel (ps : List Pi2) (ord : List Int) (n B : Nat) (w : World) (s i : Value) (wr : World) : Prop := ∃ k : Nat, k ≤ n ∧ i = .int .i64 k ∧ OwnP 55 wr B s (trP ps ord k) ∧ Below B w wr
def L3Rel (f : Nat → Int) (bag : Int) (ord : List Int) (n B : Nat) (w : World) (i : Value) (wr : World) : Prop := ∃ k : Nat, k ≤ n ∧ i = .int .i64 k ∧ OwnI wr B (.slice (some ⟨B, 0, none⟩) n n) (plnN f bag ord n k) ∧ Below B w wr
set_option maxRecDepth 100000 in
set_option maxHeartbeats 3200000 in
theorem Try.iPackFarthestFirst (w : World) (B : Nat) (v : Value) (ps : List Pi2) (bag : Int) (b : Bool) (hb : b = true ↔ AskB ps bag) (hl : ps.length ≤ 1048576) (h : OwnP 55 w B v ps) :
    Calls Try.prog 41 #[v, .int .i64 bag] w (RetI w (if b then named (farPlan ps bag) else []) b) := by
  have hmf : ∀ (fn : Fn) (first cap : Array Value) (w : World), (Instr.makeFunc fn first cap).run Try.prog w = .ok (.func fn first cap) w := fun _ _ _ _ => rfl
  obtain ⟨i0, hi, hz0, hz1, hz2⟩ := info_parts Try.infoI2
  have HII := Lib.hid hi
  clear hi
  have hG := fun v => Gr.alloc (Gr.refl w) (.cells #[v] 25)
  have HA := Lib.hid (Try.canCarry _ B v ps bag b hb hl (h.below (hG v).below (Nat.le_refl _)))
  cases b
  · obtain ⟨A, c, rfl⟩ := h.sl
    clear h hb
    go_enter Try.func41, Try.ntmps41
    go_wp2_with (first | (go_at_call 59; refine HA.out.mono ?_; rintro e w1 ⟨rfl, g1⟩))
    go_ret2
    exact ⟨_, rfl, OwnI.nil2 _ _, ((hG _).trans g1).below⟩
  have hask := hb.1 rfl
  have hl8 := hask.1.1
  rw [if_pos rfl]
  rcases h.view with ⟨rfl, _⟩ | ⟨hpos, g, c, rfl, _, hgs, _, _, hc, _⟩
  · simp at hl8
  have hbx : (w.alloc (.cells #[.slice (some ⟨g, 0, none⟩) ps.length c] 25)).cell? ⟨w.heap.size, 0, none⟩ = some (.slice (some ⟨g, 0, none⟩) ps.length c) := by simp [go_sem]
  have eg : ∀ args w, (callFunc 73 args).run Try.prog w = .ok (.enter 73 args) w := enters_of Try.func73 (by kernel_rfl) rfl
  have HEG := Lib.hid eg
  have HC := Lib.hid hc
  have HASK := Lib.hid hask
  obtain ⟨n, hn⟩ : ∃ n, ps.length = n := ⟨_, rfl⟩
  rw [hn] at HC hl8 hpos HA hbx ⊢
  have HN := Lib.hid hn
  have hgb := (hG (.slice (some ⟨g, 0, none⟩) n c)).below
  clear h hb hc hask eg hG hn
  go_enter Try.func41, Try.ntmps41
  go_wp2_with (first | (go_at_call 59; refine HA.out.mono ?_; rintro e w1 ⟨rfl, g1⟩; have hb1 := g1.keep0 hbx))
  have hB1 : Below w.heap.size w w1 := hgb.trans (g1.below.mono hgb.size)
  have hs1 : w.heap.size + 1 ≤ w1.heap.size := by have := World.block_lt_of_cell? _ _ hb1; simp only at this; omega
  have HB1 := Lib.hid hB1
  have HBX := Lib.hid hb1
  clear hbx g1 hgb hB1 hb1
  go_loopw [6, 7, 22] (fun s _ i wr => L1Rel n w1.heap.size w1 s i wr) (fun _ _ i _ => (n - intOf i).toNat)
  case atStart => exact ⟨0, Nat.zero_le _, rfl, OwnI.nil2 _ _, Below.refl _ _⟩
  case round =>
    obtain ⟨k, hk, rfl, o6, hb'⟩ := hrel
    by_cases hlt : k < n
    · have hts := tb_succ (fun j => (j : Int)) k
      have htl := tb_len (fun j => (j : Int)) k
      have HTS := Lib.hid hts
      have HTL := Lib.hid htl
      have O6 := Lib.hid o6
      have HB := Lib.hid hb'
      have z0 : (0 : Int) ≤ (k : Int) := by omega
      have z1 : (k : Int) < (n : Int) := by omega
      clear hts htl o6 hb'
      generalize tb (fun j => (j : Int)) k = tk at *
      go_wp2_with (first | (at_builtin; refine wpList_app1J rfl _ _ 29 rfl Try.underlying29 Try.infoI2 w1.heap.size _ _ rfl O6.out (k : Int) rfl (by rw [HTL.out]; omega) HB.out.size ?_; intro v5 w5 ho5 hb5 hg5 hs5 hat5))
      go_roundw
      case rel => exact ⟨k + 1, by omega, by go_num, by rw [HTS.out]; exact ho5, HB.out.trans hb5⟩
      case measure => simp [intOf]; omega
    · obtain rfl : k = n := by omega
      have O6 := Lib.hid o6
      have HB := Lib.hid hb'
      have hsz := hb'.size
      have hbox := cell_k2 hb' HBX.out
      have HBX2 := Lib.hid hbox
      have HST := Lib.hid (Try.stableSort 73 #[.pointer (some ⟨w.heap.size, 0, none⟩)] (houF ps) (fun x y => Lib.compareInt (houF ps y.toNat) (houF ps x.toNat)) k wr w1.heap.size _ hsz (by omega) (by omega) o6 HEG.out
        (fun x y => by simp only [Int.toNat_natCast]; exact cmp_neg _ _)
        (fun W x y bW hx hy => by
          have hw := HB1.out.trans ((hb'.trans bW).mono HB1.out.size)
          have q1 := cell_k2 hw (HC.out x hx).1
          have q2 := cell_k2 hw (HC.out y hy).1
          have q0 : W.cell? ⟨w.heap.size, 0, none⟩ = some (.slice (some ⟨g, 0, none⟩) k c) := (bW.cell (p := ⟨w.heap.size, 0, none⟩) (by simp only; omega)).trans hbox
          simp only [Int.toNat_natCast]
          exact Try.farCmp x y w.heap.size g k c _ _ W q0 q1 q2 hx hy))
      obtain ⟨A6, c6, rfl⟩ := o6.sl
      rw [tb_len] at HST ⊢
      clear o6 hb' hbox
      go_wp2_with (go_at_call 72; refine HST.out.mono ?_; rintro e w3 ⟨rfl, o3, b3⟩)
      have hoa := ord_at (houF ps) true k
      have hol := ord_len (houF ps) true k
      have hfar : farPlan ps bag = plnN (ordF ps (ordN (houF ps) true k)) bag (ordN (houF ps) true k) k k := by unfold farPlan; rw [HN.out]
      have HFAR := Lib.hid hfar
      have HASK2 := Lib.hid (show AskB (trP ps (ordN (houF ps) true k) k) bag by have := trP_ask (ord := ordN (houF ps) true k) HASK.out (by rw [HN.out]; exact hoa); rwa [HN.out] at this)
      have HOA := Lib.hid hoa
      have HOL := Lib.hid hol
      have O3 := Lib.hid o3
      have hw3 := HB1.out.trans ((HB.out.trans b3).mono HB1.out.size)
      have HW3 := Lib.hid hw3
      have hbox3 : w3.cell? ⟨w.heap.size, 0, none⟩ = some (.slice (some ⟨g, 0, none⟩) k c) := (b3.cell (p := ⟨w.heap.size, 0, none⟩) (by simp only; omega)).trans HBX2.out
      have HBX3 := Lib.hid hbox3
      have hs3 := b3.size
      clear hfar hoa hol o3 hw3 hbox3 b3
      generalize ordN (houF ps) true k = ord at *
      go_loopw [8, 10, 35] (fun s _ i wr => L2Rel ps ord k w3.heap.size w3 s i wr) (fun _ _ i _ => (k - intOf i).toNat)
      case atStart => exact ⟨0, Nat.zero_le _, rfl, OwnP.nil _ _ _, Below.refl _ _⟩
      case round =>
        obtain ⟨m, hm, rfl, o8, hb8⟩ := hrel
        by_cases hmk : m < k
        · obtain ⟨g6, rfl⟩ := O3.out.addr (by rw [HOL.out]; omega)
          obtain ⟨q, hq⟩ : ∃ q : Nat, ord.getD m 0 = (q : Int) := ⟨(ord.getD m 0).toNat, by have := HOA.out m hmk; omega⟩
          have hqk : q < k := by have := (HOA.out m hmk).2; rw [hq] at this; omega
          have e6 := ((O3.out.below hb8 (Nat.le_refl _)).at HOL.out m hmk).1
          rw [hq] at e6
          have hbw := HW3.out.trans (hb8.mono HW3.out.size)
          have e0 := cell_k2 hbw (HC.out q hqk).1
          have e1 := cell_k2 hbw (HC.out q hqk).2
          have ebx := cell_k2 hb8 HBX3.out
          have hts := trP_succ ps ord m
          rw [hq, Int.toNat_natCast] at hts
          have htl := trP_len ps ord m
          have HTS := Lib.hid hts
          have HTL := Lib.hid htl
          have O8 := Lib.hid o8
          have HB8 := Lib.hid hb8
          have z0 : (0 : Int) ≤ (m : Int) := by omega
          have z1 : (m : Int) < (k : Int) := by omega
          have z2 : (0 : Int) ≤ (q : Int) := by omega
          have z3 : (q : Int) < (k : Int) := by omega
          clear hts htl o8 hb8 hbw hq
          rcases hp : ps.getD q (0, 0) with ⟨p0, p1⟩
          rw [hp] at e0 e1 HTS
          simp only at e0 e1
          clear hp
          generalize trP ps ord m = tm at *
          go_wp2_with (first | (at_builtin; refine wpList_app1 rfl _ _ 25 rfl 55 Try.underlying25 Try.infoP w3.heap.size _ _ rfl O8.out p0 p1 rfl (by rw [HTL.out]; omega) HB8.out.size ?_; intro v5 w5 ho5 hb5 hg5 hs5))
          go_roundw
          case rel => exact ⟨m + 1, by omega, by go_num, by rw [HTS.out]; exact ho5, HB8.out.trans hb5⟩
          case measure => simp [intOf]; omega
        · obtain rfl : m = k := by omega
          have HPK := Lib.hid (Try.iPackInOrder wr w3.heap.size _ (trP ps ord m) bag true ⟨fun _ => HASK2.out, fun _ => rfl⟩ (by rw [trP_len]; omega) o8)
          rw [if_pos rfl, trP_len] at HPK
          have hpg := fun j hj => trP_pack (ps := ps) (bag := bag) (ord := ord) m j hj
          have hpkl : (packed (weiF (trP ps ord m)) bag m).length = m := tb_len _ _
          have HPG := Lib.hid hpg
          have HPL := Lib.hid hpkl
          have hw8 := HW3.out.trans (hb8.mono HW3.out.size)
          have HW8 := Lib.hid hw8
          have O38 := Lib.hid (O3.out.below hb8 (Nat.le_refl _))
          have HBX8 := Lib.hid (cell_k2 hb8 HBX3.out)
          obtain ⟨A8, c8, rfl⟩ := o8.sl
          rw [trP_len] at HPK ⊢
          clear o8 hb8 hpg hpkl hw8
          generalize packed (weiF (trP ps ord m)) bag m = pk at *
          go_wp2_with (first | (go_at_call 39; refine HPK.out.mono ?_; rintro e w4 ⟨v4, rfl, o4, b4⟩; have hbx4 := cell_k2 b4 HBX8.out; obtain ⟨A4, c4, rfl, o4⟩ := o4.eta) | (at_make; refine wpList_make_full _ rfl _ _ 29 rfl w4.heap.size 3 i0 (.int .i64 0) 1 Try.underlying29 HII.out hz0 hz1 .i64 .i64 _ _ m rfl rfl (by rfl) (by rfl) (by rw [hz2]; omega) (by unfold maxLen; omega) (Nat.le_refl _) ?_; intro w5 hown5 hgr5))
          have hb5 : Below w4.heap.size w4 w5 := (Below.refl _ w4).grown hgr5 (Nat.le_refl _) (by simp)
          have ho5 : OwnI w5 w4.heap.size (.slice (some ⟨w4.heap.size, 0, none⟩) m m) (plnN (ordF ps ord) bag ord m 0) := by
            unfold OwnI
            simp only [plnN, List.length_replicate]
            simpa [Value.cells, toList_madeCells_one] using hown5
          rw [HPL.out] at o4
          have O5 := Lib.hid ho5
          have HB5 := Lib.hid hb5
          have O4 := Lib.hid (o4.below hb5 (Nat.le_refl _))
          have O35 := Lib.hid ((O38.out.below b4 (Nat.le_refl _)).below hb5 (Nat.le_refl _))
          have HW4 := Lib.hid (HW8.out.trans (b4.mono HW8.out.size))
          have HT4 := Lib.hid o4.lt
          have HT35 := Lib.hid (O38.out.below b4 (Nat.le_refl _)).lt
          have hsz45 := hb5.size
          clear hown5 hgr5 hb5 ho5 o4 b4 hbx4
          go_loopw [14, 15, 58] (fun _ _ i wr => L3Rel (ordF ps ord) bag ord m w4.heap.size w5 i wr) (fun _ _ i _ => (m - intOf i).toNat)
          case atStart => exact ⟨0, Nat.zero_le _, rfl, O5.out, Below.refl _ _⟩
          case round =>
            obtain ⟨j, hj, rfl, op, hbp⟩ := hrel
            by_cases hjm : j < m
            · obtain ⟨g6, rfl⟩ := O35.out.addr (by rw [HOL.out]; omega)
              obtain ⟨g4, rfl⟩ := O4.out.addr (by rw [HPL.out]; omega)
              obtain ⟨q, hq⟩ : ∃ q : Nat, ord.getD j 0 = (q : Int) := ⟨(ord.getD j 0).toNat, by have := HOA.out j hjm; omega⟩
              have hqk : q < m := by have := (HOA.out j hjm).2; rw [hq] at this; omega
              have e6 := ((O35.out.under hbp HT35.out).at HOL.out j hjm).1
              have e4 := ((O4.out.under hbp HT4.out).at HPL.out j hjm).1
              rw [hq] at e6
              rw [HPG.out j hjm] at e4
              obtain ⟨p0, p1⟩ := op.at (pln_len _ _ _ _ _) q hqk
              have hnx : plnN (ordF ps ord) bag ord m (j + 1) = (plnN (ordF ps ord) bag ord m j).set q (pkT (ordF ps ord) bag (pkW (ordF ps ord) bag j) j : Int) := by simp only [plnN]; rw [hq, Int.toNat_natCast]
              have HNX := Lib.hid hnx
              have OP := Lib.hid op
              have HBP := Lib.hid hbp
              have z0 : (0 : Int) ≤ (j : Int) := by omega
              have z1 : (j : Int) < (m : Int) := by omega
              have z2 : (0 : Int) ≤ (q : Int) := by omega
              have z3 : (q : Int) < (m : Int) := by omega
              have z4 : (j : Int) < (pk.length : Int) := by rw [HPL.out]; omega
              clear hnx op hbp hq
              generalize (pkT (ordF ps ord) bag (pkW (ordF ps ord) bag j) j : Int) = t at *
              go_wp2
              go_roundw
              case rel => exact ⟨j + 1, by omega, by go_num, by rw [HNX.out]; exact OwnI.set OP.out (pln_len _ _ _ _ _) q t, Below.setCell HBP.out (Nat.le_refl _) _⟩
              case measure => simp [intOf]; omega
            · obtain rfl : j = m := by omega
              have hin : true = inn (j : Int) 1 8 := (inn_t (by omega) (by omega)).symm
              have HNM := Lib.hid (Try.iNamedPlan wr w4.heap.size _ (plnN (ordF ps ord) bag ord j j) true (by rw [pln_len]; exact hin) op)
              rw [if_pos rfl, ← HFAR.out] at HNM
              have HBP := Lib.hid hbp
              clear op hbp hin
              generalize named (farPlan ps bag) = R at *
              go_wp2_with (go_at_call 49; refine HNM.out.mono ?_; rintro e w6 ⟨v6, rfl, o6, b6⟩)
              go_ret2
              have hw := HW4.out.trans ((HB5.out.trans HBP.out).mono HW4.out.size)
              exact ⟨_, rfl, o6.mono hw.size, hw.trans (b6.mono hw.size)⟩
end Go.Proofs
