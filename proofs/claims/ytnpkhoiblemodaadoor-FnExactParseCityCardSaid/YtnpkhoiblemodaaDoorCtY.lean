/-
  Chapter 4: the text of cities, the program's (impl.CityText).
-/
import Derived.Test.YtnpkhoiblemodaaDoorCtX
import Derived.Test.YtnpkhoiblemodaaDoorOwS
import Derived.Test.YtnpkhoiblemodaaDoorShelf
namespace Go.Proofs
open Go.RowKit Av
set_option linter.unusedVariables false
set_option linter.unusedSimpArgs false
theorem Tryd.gPow : Tryd.prog.globalNamed "internal/strconv.uint64pow10" = some 1 := by kernel_rfl
def Tab (w : World) : Prop := Lib.TabIs Tryd.prog w "internal/strconv.uint64pow10" .u64 Lib.pow10Tab
theorem Tab.below {w w' : World} (h : Tab w) (g : Below w.heap.size w w') : Tab w' := by
  have hc := Lib.TabIs.cell h Tryd.gPow 0 (by decide)
  exact var?_below g Tryd.gPow (World.block_lt_of_cell? _ _ hc) h
theorem Tab.gr {w w' : World} (h : Tab w) (g : Gr w w') : Tab w' := h.below g.below
theorem Tryd.itoa (p : Int) (h2 : 0 ≤ p) (h3 : p ≤ 100000) (w : World) (ht : Tab w) :
    Calls Tryd.prog 19 #[.int .i64 p] w fun e w' => e = .returned (.string (itx p)) ∧ Gr w w' := by
  have h := Tryd.strconv_Itoa p (by omega) (by omega) w ht
  rw [show Lib.itoa p = Lib.decDigits p.toNat by unfold Lib.itoa; rw [if_neg (by omega)]] at h
  exact h
theorem step_appS1 {P : Program} {ops : Array Oper} {o : Oper} {a : Act} {w : World} {K : Act → World → Prop} {Q : Exit → Act → World → Prop} {E : Prop} (hgd : o.guard = none) (s x : Operand) (t : TypeId)
    (ho : o.op = .call { callee := .builtin .append, args := #[s, x], argTypes := #[t, t] }) (ht : P.underlying t = some (.slice 9))
    (hinfo : (P.info? 9).map (fun i => (i.zero, i.size, i.bytes)) = some (some (.string ⟨#[]⟩), 1, 16)) (B : Nat) (v : Value) (xs : List ByteArray) (hs : a.eval s = v) (h : OwnS w B v xs)
    (b c : Nat) (T : ByteArray) (hx : a.eval x = .slice (some ⟨b, 0, none⟩) 1 c) (hq : w.cell? ⟨b, 0, none⟩ = some (.string T)) (hl : xs.length ≤ 1000000) (hB : B ≤ w.heap.size)
    (k : ∀ v' w', OwnS w' B v' (xs ++ [T]) → Below B w w' → w.grownBy w' v.ownBlock → K (a.put o.dst v') w') :
    if Region.wanted o (yielded ops a.tmps) = true then Oper.wp P o a w K Q else E := by
  rw [if_pos (show Region.wanted o (yielded ops a.tmps) = true by simp [Region.wanted, hgd])]
  obtain ⟨i0, hi, hz0, hz1, hz2⟩ := info_parts hinfo
  refine wp_append_own w s x t ho B 9 i0 _ 1 16 ht hi hz0 hz1 hz2 rfl (by decide) v xs.length (xs.map Value.string) hs h ⟨b, 0, none⟩ 1 c [.string T] hx rfl
    (fun j u hu => by
      cases j with
      | zero => simp at hu; subst hu; simpa [Addr.add] using hq
      | succ j => simp at hu) (fun u hu => by simp at hu; subst hu; rfl) (by unfold maxLen; omega) (by omega) hB fun v' w' ho' hg _ => ?_
  refine k v' w' ?_ (Below.grown (Below.refl _ _) hg hB fun j hj => (World.ownsRow.lt h j hj).1) hg
  unfold OwnS
  simpa using ho'
theorem OwnS.slB {w : World} {B : Nat} {v : Value} {xs : List ByteArray} (h : OwnS w B v xs) : ∃ A c, v = .slice A xs.length c := by
  rcases h.2 with ⟨rfl, hn⟩ | ⟨g, cap, cur, rfl, _⟩
  · exact ⟨none, 0, by rw [hn]⟩
  · exact ⟨_, cap, rfl⟩
def SRelK (ps : List Blk) (w W0 : World) (s i : Value) (wr : World) : Prop := ∃ q : Nat, q ≤ ps.length ∧ i = .int .i64 q ∧ OwnS wr (w.heap.size + 1) s ((ps.take q).map bkx) ∧ Below (w.heap.size + 1) W0 wr
def Cit (w : World) (n : Nat) (W H : Int) : Prop := w.cell? ⟨n, 0, none⟩ = some (.int .i64 W) ∧ w.cell? ⟨n, 1, none⟩ = some (.int .i64 H)
theorem Cit.gr {w w' : World} {n : Nat} {W H : Int} (h : Cit w n W H) (g : Gr w w') : Cit w' n W H := ⟨g.keep0 h.1, g.keep0 h.2⟩
theorem Cit.bel {w w' : World} {n : Nat} {W H : Int} (h : Cit w n W H) (g : Below w.heap.size w w') : Cit w' n W H := ⟨cell_k2 g h.1, cell_k2 g h.2⟩
set_option maxRecDepth 100000 in
set_option maxHeartbeats 1600000 in
theorem Tryd.iCityText (w : World) (W H : Int) (B : Nat) (a : Value) (ps : List Blk) (b : Bool) (hb : okB W H ps = b) (hl : ps.length ≤ 1048576) (ht : Tab w) (h : OwnB w B a ps) :
    Calls Tryd.prog 8 #[.agg #[.int .i64 W, .int .i64 H, a]] w fun e w' => e = .returned (.tuple #[.string (txC W H ps), .bool b]) ∧ Below w.heap.size w w' := by
  have mixed : Tryd.prog.follows .mixedOrders = true := by kernel_rfl
  obtain ⟨A, c, rfl, h⟩ := OwnE.eta h
  have PG := Lib.hid (fun (X : World) (g : Gr w X) => Tryd.iIsCity X W H B _ ps _ hb hl (OwnE.gr h g))
  cases b
  · have e : txC W H ps = ⟨#[]⟩ := by unfold txC; rw [hb]; rfl
    rw [e]
    clear h hb e ht
    go_enter Tryd.func8, Tryd.ntmps8
    go_wp2_with (first | (go_at_call 18; refine (PG.out _ (by repeat (first | exact Gr.refl _ | refine Gr.alloc ?_ _ | refine Gr.trans ?_ (by assumption) | refine Gr.drew ?_ | refine Gr.drewN ?_ _ | refine Gr.grow ?_ _ | refine Gr.setCell ?_ (by (try simp); (try omega)) _))).mono ?_; rintro e W1 ⟨rfl, q1⟩; have a0 : W1.cell? ⟨w.heap.size, 0, none⟩ = some (.int .i64 W) := q1.keep0 (by simp [go_sem]); have a1 : W1.cell? ⟨w.heap.size, 1, none⟩ = some (.int .i64 H) := q1.keep0 (by simp [go_sem]); have a2 : W1.cell? ⟨w.heap.size, 2, none⟩ = some (.slice A ps.length c) := q1.keep0 (by simp [go_sem])))
    go_ret2
    exact ⟨rfl, Gr.below (by repeat (first | exact Gr.refl _ | refine Gr.alloc ?_ _ | refine Gr.trans ?_ (by assumption) | refine Gr.drew ?_ | refine Gr.drewN ?_ _ | refine Gr.grow ?_ _ | refine Gr.setCell ?_ (by (try simp); (try omega)) _))⟩
  · obtain ⟨hW, hH, h30, hall⟩ := ok_bd hb
    have e : txC W H ps = hdC W H ++ ⟨(jtK ps).toArray⟩ := by unfold txC; rw [if_pos hb]
    rw [e]
    have IW := Lib.hid (fun (X : World) (t : Tab X) => Tryd.itoa W (by omega) (by omega) X t)
    have IH := Lib.hid (fun (X : World) (t : Tab X) => Tryd.itoa H (by omega) (by omega) X t)
    have tW := itx_sz (n := W) (by omega) (by omega)
    have tH := itx_sz (n := H) (by omega) (by omega)
    have hsz := hdC_sz hW hH
    have hHd : hdC W H = itx W ++ ⟨#[120]⟩ ++ itx H ++ ⟨#[58]⟩ := rfl
    generalize itx W = TW at *
    generalize itx H = TH at *
    have haddA := fun X => run_string_add (P := Tryd.prog) (w := X) TW ⟨#[120]⟩ (by omega) (by decide)
    have haddB := fun X => run_string_add (P := Tryd.prog) (w := X) (TW ++ ⟨#[120]⟩) TH (by rw [ByteArray.size_append, size_one]; omega) (by omega)
    have haddC := fun X => run_string_add (P := Tryd.prog) (w := X) (TW ++ ⟨#[120]⟩ ++ TH) ⟨#[58]⟩ (by simp only [ByteArray.size_append, size_one]; omega) (by decide)
    rw [← hHd] at haddC
    generalize hdC W H = D at *
    have hjl := jtK_bd hall ps.length (Nat.le_refl _)
    rw [List.take_length] at hjl
    have HC := Lib.hid (OwnB.els h)
    have HT := Lib.hid ht
    have HAll := Lib.hid hall
    clear hall hb e ht hHd h hW hH
    go_enter Tryd.func8, Tryd.ntmps8
    go_wp2_with (first | (go_at_call 18; refine (PG.out _ (by repeat (first | exact Gr.refl _ | refine Gr.alloc ?_ _ | refine Gr.trans ?_ (by assumption) | refine Gr.drew ?_ | refine Gr.drewN ?_ _ | refine Gr.grow ?_ _ | refine Gr.setCell ?_ (by (try simp); (try omega)) _))).mono ?_; rintro e W1 ⟨rfl, q1⟩; have a0 : W1.cell? ⟨w.heap.size, 0, none⟩ = some (.int .i64 W) := q1.keep0 (by simp [go_sem]); have a1 : W1.cell? ⟨w.heap.size, 1, none⟩ = some (.int .i64 H) := q1.keep0 (by simp [go_sem]); have a2 : W1.cell? ⟨w.heap.size, 2, none⟩ = some (.slice A ps.length c) := q1.keep0 (by simp [go_sem])))
    have GW := Lib.hid (show Gr w W1 from (by repeat (first | exact Gr.refl _ | refine Gr.alloc ?_ _ | refine Gr.trans ?_ (by assumption) | refine Gr.drew ?_ | refine Gr.drewN ?_ _ | refine Gr.grow ?_ _ | refine Gr.setCell ?_ (by (try simp); (try omega)) _)))
    have HA := Lib.hid (show Cit W1 w.heap.size W H from ⟨a0, a1⟩)
    have zW := GW.out.below.size
    have hw1 : w.heap.size < W1.heap.size := World.block_lt_of_cell? _ _ a0
    have z30 : (ps.length : Int) ≤ 30 := by omega
    clear q1 a0 a1
    go_loopw [4, 6, 7, 14] (fun s _ _ i wr => SRelK ps w W1 s i wr) (fun _ _ _ i _ => (ps.length - intOf i).toNat)
    case atStart => exact ⟨0, Nat.zero_le _, rfl, OwnS.nil _ _, Below.refl _ _⟩
    case round =>
      obtain ⟨q, hk, rfl, ho, hb⟩ := hrel
      have szr := hb.size
      have bw : Below w.heap.size w wr := GW.out.below.trans (hb.mono (Nat.le_succ _))
      by_cases hlt : q < ps.length
      · obtain ⟨g, rfl, c0, c1, c2⟩ := HC.out q hlt
        obtain ⟨bd0, bd1, bd2, bd3⟩ := HAll.out q hlt
        have e0 := cell_k2 bw c0
        have e1 := cell_k2 bw c1
        have e2 := cell_k2 bw c2
        have hnx : (ps.take (q + 1)).map bkx = (ps.take q).map bkx ++ [bkx (ps.getD q b0)] := by rw [take_bs hlt]; simp
        have hpx : bkx (ps.getD q b0) = itx (ps.getD q b0).1 ++ bsg (ps.getD q b0).2.2 ++ itx (ps.getD q b0).2.1 := rfl
        rw [hpx] at hnx
        have t1 := itx_sz (n := (ps.getD q b0).1) (by omega) (by omega)
        have t2 := itx_sz (n := (ps.getD q b0).2.1) (by omega) (by omega)
        have H1 := Lib.hid (fun (X : World) (t : Tab X) => Tryd.itoa (ps.getD q b0).1 (by omega) (by omega) X t)
        have H2 := Lib.hid (fun (X : World) (t : Tab X) => Tryd.itoa (ps.getD q b0).2.1 (by omega) (by omega) X t)
        have z0 : (0 : Int) ≤ (q : Int) := by omega
        have z1 : (q : Int) < (ps.length : Int) := by omega
        obtain ⟨A4, c4, rfl⟩ := ho.slB
        have hlk : ((ps.take q).map bkx).length = q := by simp; omega
        rw [hlk] at ho ⊢
        have HL := Lib.hid (show ((ps.take q).map bkx).length ≤ 1000000 by simp; omega)
        have sc := bsg_c (ps.getD q b0).2.2
        have sz1 := bsg_sz (ps.getD q b0).2.2
        have HNX := Lib.hid hnx
        have HO := Lib.hid ho
        have HB := Lib.hid hb
        have HTR := Lib.hid (HT.out.below bw)
        have hws : w.heap.size + 1 ≤ wr.heap.size := by omega
        clear ho hb hnx hpx bd0 bd1 bd2 bd3 c0 c1 c2 bw
        generalize itx (ps.getD q b0).1 = T1 at *
        generalize itx (ps.getD q b0).2.1 = T2 at *
        generalize bsg (ps.getD q b0).2.2 = sg at *
        generalize (ps.getD q b0).1 = x at *
        generalize (ps.getD q b0).2.1 = y at *
        generalize (ps.getD q b0).2.2 = u at *
        have hadd1 := fun X => run_string_add (P := Tryd.prog) (w := X) T1 sg (by omega) (by omega)
        have hadd2 := fun X => run_string_add (P := Tryd.prog) (w := X) (T1 ++ sg) T2 (by rw [ByteArray.size_append]; omega) (by omega)
        obtain ⟨X, hX⟩ : ∃ X, wr.alloc (.cells #[.int .i64 x, .int .i64 y, .bool u] 44) = X := ⟨_, rfl⟩
        have HGX := Lib.hid (show Gr wr X by rw [← hX]; exact Gr.alloc (Gr.refl _) _)
        have HTX := Lib.hid (HTR.out.gr HGX.out)
        have hneB : some wr.heap.size ≠ (Value.slice A4 q c4).ownBlock := fun e => by have := (World.ownsRow.lt HO.out _ e.symm).2; omega
        have q0 : X.cell? ⟨wr.heap.size, 0, none⟩ = some (.int .i64 x) := by rw [← hX]; simp [go_sem]
        have q1 : X.cell? ⟨wr.heap.size, 1, none⟩ = some (.int .i64 y) := by rw [← hX]; simp [go_sem]
        have q2 : X.cell? ⟨wr.heap.size, 2, none⟩ = some (.bool u) := by rw [← hX]; simp [go_sem]
        have HX := Lib.hid hX
        clear hX
        rcases sc with ⟨rfl, rfl⟩ | ⟨rfl, rfl⟩
        · go_wp2
          rw [HX.out]
          clear HX
          go_region_held3 (fun W' => W'.cell? ⟨wr.heap.size, 0, none⟩ = some (.int .i64 x) ∧ W'.cell? ⟨wr.heap.size, 1, none⟩ = some (.int .i64 y))
            (first | exact ⟨q0, q1⟩ | assumption | exact ⟨(Gr.drew (Gr.refl _)).keep0 q0, (Gr.drew (Gr.refl _)).keep0 q1⟩ | exact ⟨G1.keep0 q0, G1.keep0 q1⟩ | exact ⟨(Gr.drew G1).keep0 q0, (Gr.drew G1).keep0 q1⟩ | exact ⟨G2.keep0 q0, G2.keep0 q1⟩ | exact ⟨(Gr.drew G2).keep0 q0, (Gr.drew G2).keep0 q1⟩ | exact ⟨(Gr.alloc G2 _).keep0 q0, (Gr.alloc G2 _).keep0 q1⟩ | exact ⟨(Gr.drew (Gr.alloc G2 _)).keep0 q0, (Gr.drew (Gr.alloc G2 _)).keep0 q1⟩ | exact ⟨hg3.cell ((Gr.alloc G2 _).keep0 q0) hneB, hg3.cell ((Gr.alloc G2 _).keep0 q1) hneB⟩ | exact ⟨(Gr.drew (Gr.refl _)).keep0 (hg3.cell ((Gr.alloc G2 _).keep0 q0) hneB), (Gr.drew (Gr.refl _)).keep0 (hg3.cell ((Gr.alloc G2 _).keep0 q1) hneB)⟩)
            ((first | (go_at_call_of 19 (Value.int .i64 x); refine (H1.out _ (Tab.gr HTX.out (by repeat (first | exact Gr.refl _ | refine Gr.alloc ?_ _ | refine Gr.trans ?_ (by assumption) | refine Gr.drew ?_ | refine Gr.drewN ?_ _ | refine Gr.grow ?_ _ | refine Gr.setCell ?_ (by (try simp); (try omega)) _)))).mono ?_; rintro e w1 ⟨rfl, g1'⟩; have G1 : Gr X w1 := Gr.trans (by repeat (first | exact Gr.refl _ | refine Gr.alloc ?_ _ | refine Gr.trans ?_ (by assumption) | refine Gr.drew ?_ | refine Gr.drewN ?_ _ | refine Gr.grow ?_ _ | refine Gr.setCell ?_ (by (try simp); (try omega)) _)) g1') | (go_at_call_of 19 (Value.int .i64 y); refine (H2.out _ (Tab.gr HTX.out (by repeat (first | exact Gr.refl _ | refine Gr.alloc ?_ _ | refine Gr.trans ?_ (by assumption) | refine Gr.drew ?_ | refine Gr.drewN ?_ _ | refine Gr.grow ?_ _ | refine Gr.setCell ?_ (by (try simp); (try omega)) _)))).mono ?_; rintro e w2 ⟨rfl, g2'⟩; have G2 : Gr X w2 := Gr.trans (by repeat (first | exact Gr.refl _ | refine Gr.alloc ?_ _ | refine Gr.trans ?_ (by assumption) | refine Gr.drew ?_ | refine Gr.drewN ?_ _ | refine Gr.grow ?_ _ | refine Gr.setCell ?_ (by (try simp); (try omega)) _)) g2') | (refine step_appS1 rfl (.tmp 20) (.tmp 30) 42 rfl Tryd.underlying42 Tryd.infoSt (w.heap.size + 1) (.slice A4 q c4) _ rfl (HO.out.below (Gr.below (HGX.out.trans (Gr.alloc G2 _))) (Nat.le_refl _)) w2.heap.size 1 (T1 ++ ⟨#[124]⟩ ++ T2) rfl (by simp [go_sem]) HL.out (by have := G2.below.size; have := HGX.out.below.size; simp; omega) ?_; intro v' w3 ho3 hb3 hg3)))
          have gg := HGX.out.trans (Gr.alloc G2 (.cells #[.string (T1 ++ ⟨#[124]⟩ ++ T2)] 9))
          go_wp2
          go_roundw
          case rel => exact ⟨q + 1, by omega, by go_num, by rw [HNX.out]; exact ho3, HB.out.trans ((gg.below.mono (by omega)).trans hb3)⟩
          case measure => simp [intOf]; omega
        · go_wp2
          rw [HX.out]
          clear HX
          go_region_held3 (fun W' => W'.cell? ⟨wr.heap.size, 0, none⟩ = some (.int .i64 x) ∧ W'.cell? ⟨wr.heap.size, 1, none⟩ = some (.int .i64 y))
            (first | exact ⟨q0, q1⟩ | assumption | exact ⟨(Gr.drew (Gr.refl _)).keep0 q0, (Gr.drew (Gr.refl _)).keep0 q1⟩ | exact ⟨G1.keep0 q0, G1.keep0 q1⟩ | exact ⟨(Gr.drew G1).keep0 q0, (Gr.drew G1).keep0 q1⟩ | exact ⟨G2.keep0 q0, G2.keep0 q1⟩ | exact ⟨(Gr.drew G2).keep0 q0, (Gr.drew G2).keep0 q1⟩ | exact ⟨(Gr.alloc G2 _).keep0 q0, (Gr.alloc G2 _).keep0 q1⟩ | exact ⟨(Gr.drew (Gr.alloc G2 _)).keep0 q0, (Gr.drew (Gr.alloc G2 _)).keep0 q1⟩ | exact ⟨hg3.cell ((Gr.alloc G2 _).keep0 q0) hneB, hg3.cell ((Gr.alloc G2 _).keep0 q1) hneB⟩ | exact ⟨(Gr.drew (Gr.refl _)).keep0 (hg3.cell ((Gr.alloc G2 _).keep0 q0) hneB), (Gr.drew (Gr.refl _)).keep0 (hg3.cell ((Gr.alloc G2 _).keep0 q1) hneB)⟩)
            ((first | (go_at_call_of 19 (Value.int .i64 x); refine (H1.out _ (Tab.gr HTX.out (by repeat (first | exact Gr.refl _ | refine Gr.alloc ?_ _ | refine Gr.trans ?_ (by assumption) | refine Gr.drew ?_ | refine Gr.drewN ?_ _ | refine Gr.grow ?_ _ | refine Gr.setCell ?_ (by (try simp); (try omega)) _)))).mono ?_; rintro e w1 ⟨rfl, g1'⟩; have G1 : Gr X w1 := Gr.trans (by repeat (first | exact Gr.refl _ | refine Gr.alloc ?_ _ | refine Gr.trans ?_ (by assumption) | refine Gr.drew ?_ | refine Gr.drewN ?_ _ | refine Gr.grow ?_ _ | refine Gr.setCell ?_ (by (try simp); (try omega)) _)) g1') | (go_at_call_of 19 (Value.int .i64 y); refine (H2.out _ (Tab.gr HTX.out (by repeat (first | exact Gr.refl _ | refine Gr.alloc ?_ _ | refine Gr.trans ?_ (by assumption) | refine Gr.drew ?_ | refine Gr.drewN ?_ _ | refine Gr.grow ?_ _ | refine Gr.setCell ?_ (by (try simp); (try omega)) _)))).mono ?_; rintro e w2 ⟨rfl, g2'⟩; have G2 : Gr X w2 := Gr.trans (by repeat (first | exact Gr.refl _ | refine Gr.alloc ?_ _ | refine Gr.trans ?_ (by assumption) | refine Gr.drew ?_ | refine Gr.drewN ?_ _ | refine Gr.grow ?_ _ | refine Gr.setCell ?_ (by (try simp); (try omega)) _)) g2') | (refine step_appS1 rfl (.tmp 20) (.tmp 30) 42 rfl Tryd.underlying42 Tryd.infoSt (w.heap.size + 1) (.slice A4 q c4) _ rfl (HO.out.below (Gr.below (HGX.out.trans (Gr.alloc G2 _))) (Nat.le_refl _)) w2.heap.size 1 (T1 ++ ⟨#[45]⟩ ++ T2) rfl (by simp [go_sem]) HL.out (by have := G2.below.size; have := HGX.out.below.size; simp; omega) ?_; intro v' w3 ho3 hb3 hg3)))
          have gg := HGX.out.trans (Gr.alloc G2 (.cells #[.string (T1 ++ ⟨#[45]⟩ ++ T2)] 9))
          go_wp2
          go_roundw
          case rel => exact ⟨q + 1, by omega, by go_num, by rw [HNX.out]; exact ho3, HB.out.trans ((gg.below.mono (by omega)).trans hb3)⟩
          case measure => simp [intOf]; omega
      · obtain rfl : q = ps.length := by omega
        rw [List.take_length] at ho
        have cit : Cit wr w.heap.size W H := ⟨(hb.cell (by show w.heap.size < _; omega)).trans HA.out.1, (hb.cell (by show w.heap.size < _; omega)).trans HA.out.2⟩
        have HTR := Lib.hid (HT.out.below bw)
        have hJs : (⟨(jtK ps).toArray⟩ : ByteArray).size ≤ 300 := by
          have : (⟨(jtK ps).toArray⟩ : ByteArray).size = (jtK ps).length := by simp [ByteArray.size]
          omega
        have hadd9 := fun X => run_string_add (P := Tryd.prog) (w := X) D ⟨(jtK ps).toArray⟩ (by omega) (by omega)
        have hj : Lib.join ((ps.map bkx).map (·.data.toList)) (⟨#[44]⟩ : ByteArray).data.toList = jtK ps := by
          unfold jtK
          rw [List.map_map]
          rfl
        have HBW := Lib.hid bw
        have S0 := Lib.hid cit
        rcases Nat.eq_zero_or_pos ps.length with hz | hpos
        · have hps : ps = [] := List.length_eq_zero_iff.1 hz
          obtain ⟨A4, c4, rfl⟩ := ho.slB
          rw [show ((ps.map bkx).length) = 0 by simpa using hz]
          have hE : (⟨(jtK ps).toArray⟩ : ByteArray) = ⟨#[]⟩ := by rw [hps]; rfl
          have EE := Lib.hid hE
          have HJ := Lib.hid (fun (X : World) => Tryd.strings_Join_none A4 c4 ⟨#[44]⟩ X)
          rw [hE] at hadd9
          clear ho hb hj hE hps bw cit
          go_wp2
          go_region_held3 (fun W' => W'.cell? ⟨w.heap.size, 0, none⟩ = some (.int .i64 W) ∧ W'.cell? ⟨w.heap.size, 1, none⟩ = some (.int .i64 H)) (first | exact S0.out | exact Cit.gr S0.out (Gr.drew (Gr.refl _)) | exact Cit.gr S0.out G2 | exact Cit.gr S0.out (Gr.drew G2) | exact Cit.gr S0.out G3 | exact Cit.gr S0.out (Gr.drew G3) | exact Cit.bel (Cit.gr S0.out G3) hb4 | exact Cit.bel (Cit.gr S0.out (Gr.drew G3)) hb4 | exact Cit.gr (Cit.bel (Cit.gr S0.out G3) hb4) (Gr.drew (Gr.refl _)))
            (first | (go_at_call_of 19 (Value.int .i64 W); refine (IW.out _ (Tab.gr HTR.out (by repeat (first | exact Gr.refl _ | refine Gr.alloc ?_ _ | refine Gr.trans ?_ (by assumption) | refine Gr.drew ?_ | refine Gr.drewN ?_ _ | refine Gr.grow ?_ _ | refine Gr.setCell ?_ (by (try simp); (try omega)) _)))).mono ?_; rintro e w2 ⟨rfl, g2'⟩; have G2 : Gr wr w2 := Gr.trans (by repeat (first | exact Gr.refl _ | refine Gr.alloc ?_ _ | refine Gr.trans ?_ (by assumption) | refine Gr.drew ?_ | refine Gr.drewN ?_ _ | refine Gr.grow ?_ _ | refine Gr.setCell ?_ (by (try simp); (try omega)) _)) g2') | (go_at_call_of 19 (Value.int .i64 H); refine (IH.out _ (Tab.gr HTR.out (by repeat (first | exact Gr.refl _ | refine Gr.alloc ?_ _ | refine Gr.trans ?_ (by assumption) | refine Gr.drew ?_ | refine Gr.drewN ?_ _ | refine Gr.grow ?_ _ | refine Gr.setCell ?_ (by (try simp); (try omega)) _)))).mono ?_; rintro e w3 ⟨rfl, g3'⟩; have G3 : Gr wr w3 := Gr.trans (by repeat (first | exact Gr.refl _ | refine Gr.alloc ?_ _ | refine Gr.trans ?_ (by assumption) | refine Gr.drew ?_ | refine Gr.drewN ?_ _ | refine Gr.grow ?_ _ | refine Gr.setCell ?_ (by (try simp); (try omega)) _)) g3') | (go_at_call 20; refine (HJ.out _).mono ?_; rintro e w4 ⟨rfl, rfl⟩))
          go_wp2
          go_ret2
          exact ⟨by rw [EE.out]; rfl, HBW.out.trans ((Gr.below (show Gr wr _ from by repeat (first | exact Gr.refl _ | refine Gr.alloc ?_ _ | refine Gr.trans ?_ (by assumption) | refine Gr.drew ?_ | refine Gr.drewN ?_ _ | refine Gr.grow ?_ _ | refine Gr.setCell ?_ (by (try simp); (try omega)) _))).mono HBW.out.size)⟩
        · obtain ⟨g', c', rfl, hg', hc', hcells⟩ := ho.view (by simpa using hpos)
          have HJ := Lib.hid (fun (X : World) (g : Gr wr X) => by
            have q := Tryd.strings_Join g' 0 c' (ps.map bkx) ⟨#[44]⟩ X (fun j x hx => g.keep0 (hcells j x hx)) (Nat.lt_of_lt_of_le hg' g.below.size) (by simp; omega) hc' (by rw [hj]; omega)
            rw [hj] at q
            exact q)
          simp only [List.length_map] at HJ ⊢
          obtain ⟨J, hJ⟩ : ∃ J, (⟨(jtK ps).toArray⟩ : ByteArray) = J := ⟨_, rfl⟩
          have EJ := Lib.hid hJ
          rw [hJ] at HJ hadd9 hJs
          clear hJ
          clear ho hb hj hcells bw cit
          go_wp2
          go_region_held3 (fun W' => W'.cell? ⟨w.heap.size, 0, none⟩ = some (.int .i64 W) ∧ W'.cell? ⟨w.heap.size, 1, none⟩ = some (.int .i64 H)) (first | exact S0.out | exact Cit.gr S0.out (Gr.drew (Gr.refl _)) | exact Cit.gr S0.out G2 | exact Cit.gr S0.out (Gr.drew G2) | exact Cit.gr S0.out G3 | exact Cit.gr S0.out (Gr.drew G3) | exact Cit.bel (Cit.gr S0.out G3) hb4 | exact Cit.bel (Cit.gr S0.out (Gr.drew G3)) hb4 | exact Cit.gr (Cit.bel (Cit.gr S0.out G3) hb4) (Gr.drew (Gr.refl _)))
            (first | (go_at_call_of 19 (Value.int .i64 W); refine (IW.out _ (Tab.gr HTR.out (by repeat (first | exact Gr.refl _ | refine Gr.alloc ?_ _ | refine Gr.trans ?_ (by assumption) | refine Gr.drew ?_ | refine Gr.drewN ?_ _ | refine Gr.grow ?_ _ | refine Gr.setCell ?_ (by (try simp); (try omega)) _)))).mono ?_; rintro e w2 ⟨rfl, g2'⟩; have G2 : Gr wr w2 := Gr.trans (by repeat (first | exact Gr.refl _ | refine Gr.alloc ?_ _ | refine Gr.trans ?_ (by assumption) | refine Gr.drew ?_ | refine Gr.drewN ?_ _ | refine Gr.grow ?_ _ | refine Gr.setCell ?_ (by (try simp); (try omega)) _)) g2') | (go_at_call_of 19 (Value.int .i64 H); refine (IH.out _ (Tab.gr HTR.out (by repeat (first | exact Gr.refl _ | refine Gr.alloc ?_ _ | refine Gr.trans ?_ (by assumption) | refine Gr.drew ?_ | refine Gr.drewN ?_ _ | refine Gr.grow ?_ _ | refine Gr.setCell ?_ (by (try simp); (try omega)) _)))).mono ?_; rintro e w3 ⟨rfl, g3'⟩; have G3 : Gr wr w3 := Gr.trans (by repeat (first | exact Gr.refl _ | refine Gr.alloc ?_ _ | refine Gr.trans ?_ (by assumption) | refine Gr.drew ?_ | refine Gr.drewN ?_ _ | refine Gr.grow ?_ _ | refine Gr.setCell ?_ (by (try simp); (try omega)) _)) g3') | (go_at_call 20; refine (HJ.out _ (by repeat (first | exact Gr.refl _ | refine Gr.alloc ?_ _ | refine Gr.trans ?_ (by assumption) | refine Gr.drew ?_ | refine Gr.drewN ?_ _ | refine Gr.grow ?_ _ | refine Gr.setCell ?_ (by (try simp); (try omega)) _))).mono ?_; rintro e w4 ⟨rfl, hb4⟩; have sw4 := hb4.size))
          go_wp2
          go_ret2
          exact ⟨by rw [EJ.out]; rfl, HBW.out.trans ((((Gr.below (show Gr wr _ from by repeat (first | exact Gr.refl _ | refine Gr.alloc ?_ _ | refine Gr.trans ?_ (by assumption) | refine Gr.drew ?_ | refine Gr.drewN ?_ _ | refine Gr.grow ?_ _ | refine Gr.setCell ?_ (by (try simp); (try omega)) _)))).trans (hb4.mono (Gr.below (show Gr wr _ from by repeat (first | exact Gr.refl _ | refine Gr.alloc ?_ _ | refine Gr.trans ?_ (by assumption) | refine Gr.drew ?_ | refine Gr.drewN ?_ _ | refine Gr.grow ?_ _ | refine Gr.setCell ?_ (by (try simp); (try omega)) _))).size)).mono HBW.out.size)⟩
end Go.Proofs
