/-
  Chapter 9: the text of puzzles, the program's (impl.PuzzleText).
-/
import Derived.Test.YtopmclaphcnmbaaDoorNuXy
namespace Go.Proofs
open Go.RowKit
set_option linter.unusedVariables false
set_option linter.unusedSimpArgs false
theorem step_appS1 {P : Program} {ops : Array Oper} {o : Oper} {a : Act} {w : World} {K : Act → World → Prop} {Q : Exit → Act → World → Prop} {E : Prop} (hgd : o.guard = none) (s x : Operand) (t : TypeId)
    (ho : o.op = .call { callee := .builtin .append, args := #[s, x], argTypes := #[t, t] }) (ht : P.underlying t = some (.slice 9))
    (hinfo : (P.info? 9).map (fun i => (i.zero, i.size, i.bytes)) = some (some (.string ⟨#[]⟩), 1, 16)) (B : Nat) (v : Value) (xs : List ByteArray) (hs : a.eval s = v) (h : OwnS w B v xs)
    (b c : Nat) (T : ByteArray) (hx : a.eval x = .slice (some ⟨b, 0, none⟩) 1 c) (hq : w.cell? ⟨b, 0, none⟩ = some (.string T)) (hl : xs.length ≤ 1000000) (hB : B ≤ w.heap.size)
    (k : ∀ v' w', OwnS w' B v' (xs ++ [T]) → Below B w w' → w.grownBy w' v.ownBlock → K (a.put o.dst v') w') :
    if Region.wanted o (yielded ops a.tmps) = true then Oper.wp P o a w K Q else E := by
  rw [if_pos (show Region.wanted o (yielded ops a.tmps) = true by simp [Region.wanted, hgd])]
  obtain ⟨i0, hi, hz0, hz1, hz2⟩ := info_parts hinfo
  refine wp_append_own w s x t ho B 9 i0 _ 1 16 ht hi hz0 hz1 hz2 rfl (by decide) v xs.length (xs.map Value.string) hs h ⟨b, 0, none⟩ 1 c [.string T] hx rfl
    (fun j u hu => by
      cases j with
      | zero => simp at hu; subst hu; simpa [Addr.add] using hq
      | succ j => simp at hu) (fun u hu => by simp at hu; subst hu; rfl) (by unfold maxLen; omega) (by omega) hB fun v' w' ho' hg _ => ?_
  refine k v' w' ?_ (Below.grown (Below.refl _ _) hg hB fun j hj => (World.ownsRow.lt h j hj).1) hg
  unfold OwnS
  simpa using ho'
theorem OwnS.slB {w : World} {B : Nat} {v : Value} {xs : List ByteArray} (h : OwnS w B v xs) : ∃ A c, v = .slice A xs.length c := by
  rcases h.2 with ⟨rfl, hn⟩ | ⟨g, cap, cur, rfl, _⟩
  · exact ⟨none, 0, by rw [hn]⟩
  · exact ⟨_, cap, rfl⟩
def SRelZ (ps : List Clu) (w W0 : World) (s i : Value) (wr : World) : Prop := ∃ q : Nat, q ≤ ps.length ∧ i = .int .i64 q ∧ OwnS wr (w.heap.size + 1) s ((ps.take q).map clx) ∧ Below (w.heap.size + 1) W0 wr
theorem CluRow.belowY {w w' : World} {v : Value} {cs : List Clu} (h : CluRow w v cs) (g : Below w.heap.size w w') : CluRow w' v cs := by
  obtain ⟨A, c, e, h0, h1, h2⟩ := h
  refine ⟨A, c, e, h0, h1, h2.imp id ?_⟩
  rintro ⟨b, o, e2, h3⟩
  exact ⟨b, o, e2, fun j hj => ⟨cell_k2 g (h3 j hj).1, cell_k2 g (h3 j hj).2.1, cell_k2 g (h3 j hj).2.2⟩⟩
set_option maxRecDepth 100000 in
set_option maxHeartbeats 1600000 in
theorem Tryd.iPuzzleText (w : World) (k p : Int) (v : Value) (ps : List Clu) (b : Bool) (hb : pgood k p ps = b) (ht : Tab w) (h : CluRow w v ps) :
    Calls Tryd.prog 14 #[pzV k p v] w fun e w' => e = .returned (.tuple #[.string (txZ k p ps), .bool b]) ∧ Below w.heap.size w w' := by
  have mixed : Tryd.prog.follows .mixedOrders = true := by kernel_rfl
  have PG := Lib.hid (fun (W : World) (g : Gr w W) => Tryd.iIsPuzzle W k p v ps _ hb (h.gr g))
  cases b
  · have e : txZ k p ps = ⟨#[]⟩ := by unfold txZ; rw [hb]; rfl
    rw [e]
    obtain ⟨A, c, rfl, hlc, hm, h⟩ := h
    clear h hb e ht
    go_enter Tryd.func14, Tryd.ntmps14
    go_wp2_with (first | (go_at_call 30; refine (PG.out _ (by repeat (first | exact Gr.refl _ | refine Gr.alloc ?_ _ | refine Gr.trans ?_ (by assumption) | refine Gr.drew ?_ | refine Gr.drewN ?_ _ | refine Gr.grow ?_ _ | refine Gr.setCell ?_ (by (try simp); (try omega)) _))).mono ?_; rintro e w1 ⟨rfl, hbW⟩; have hcW := (bcell hbW.below).1; have hfW := (bcell hbW.below).2; (try have hzW : w.heap.size < w1.heap.size := by have hq := hbW.below.size; (try simp at hq); omega); (try have hyW : w.heap.size + 1 < w1.heap.size := by have hq := hbW.below.size; (try simp at hq); omega); (try have hxW : w.heap.size + 2 < w1.heap.size := by have hq := hbW.below.size; (try simp at hq); omega)))
    go_ret2
    exact ⟨rfl, Gr.below (by repeat (first | exact Gr.refl _ | refine Gr.alloc ?_ _ | refine Gr.trans ?_ (by assumption) | refine Gr.drew ?_ | refine Gr.drewN ?_ _ | refine Gr.grow ?_ _ | refine Gr.setCell ?_ (by (try simp); (try omega)) _))⟩
  · obtain ⟨hs, h6, hall⟩ := pgood_lt hb
    obtain ⟨k0, k2, p1, p20⟩ := pst_t hs
    have e : txZ k p ps = hdZ k p ++ ⟨(jtZ ps).toArray⟩ := by unfold txZ; rw [if_pos hb]
    rw [e]
    have hgd : gd k p = true := decide_eq_true (p := Gd k p) ⟨k0, k2, p1, by omega⟩
    have SX := Lib.hid (fun (W : World) (t : Tab W) => Tryd.iStreetText k p W t)
    have est : stV k p = kl k ++ itx p := by unfold stV; rw [if_pos hgd]; rfl
    rw [est, hgd] at SX
    have hsz := hdZ_sz (k := k) (show 0 ≤ p by omega) (show p ≤ 1000 by omega)
    have hH : hdZ k p = (kl k ++ itx p) ++ ⟨#[59]⟩ := rfl
    have hs0 : (kl k ++ itx p).size ≤ 6 := by rw [hH, ByteArray.size_append] at hsz; omega
    generalize kl k ++ itx p = S0 at *
    have hadd0 := fun W => run_string_add (P := Tryd.prog) (w := W) S0 ⟨#[59]⟩ (by omega) (by decide)
    rw [← hH] at hadd0
    generalize hdZ k p = H at *
    have HROW := Lib.hid h
    have HT := Lib.hid ht
    have HAll := Lib.hid hall
    have hjl := jtZ_bd hall ps.length (Nat.le_refl _)
    rw [List.take_length] at hjl
    obtain ⟨A, c, rfl, hlc, hcm, _⟩ := h
    unfold maxLen at hcm
    clear hall hs hb e est hgd ht hH
    go_enter Tryd.func14, Tryd.ntmps14
    go_wp2_with (first | (go_at_call 30; refine (PG.out _ (by repeat (first | exact Gr.refl _ | refine Gr.alloc ?_ _ | refine Gr.trans ?_ (by assumption) | refine Gr.drew ?_ | refine Gr.drewN ?_ _ | refine Gr.grow ?_ _ | refine Gr.setCell ?_ (by (try simp); (try omega)) _))).mono ?_; rintro e w1 ⟨rfl, hbW⟩; have hcW := (bcell hbW.below).1; have hfW := (bcell hbW.below).2; (try have hzW : w.heap.size < w1.heap.size := by have hq := hbW.below.size; (try simp at hq); omega); (try have hyW : w.heap.size + 1 < w1.heap.size := by have hq := hbW.below.size; (try simp at hq); omega); (try have hxW : w.heap.size + 2 < w1.heap.size := by have hq := hbW.below.size; (try simp at hq); omega)))
    have GW := Lib.hid (show Gr w w1 from (by repeat (first | exact Gr.refl _ | refine Gr.alloc ?_ _ | refine Gr.trans ?_ (by assumption) | refine Gr.drew ?_ | refine Gr.drewN ?_ _ | refine Gr.grow ?_ _ | refine Gr.setCell ?_ (by (try simp); (try omega)) _)))
    have d0 : w1.cell? ⟨w.heap.size, 0, none⟩ = some (.int .i64 k) := hbW.keep0 (by simp [go_sem])
    have d1 : w1.cell? ⟨w.heap.size, 1, none⟩ = some (.int .i64 p) := hbW.keep0 (by simp [go_sem])
    have zW := GW.out.below.size
    clear hbW hcW hfW
    go_loopw [4, 6, 15] (fun s _ i wr => SRelZ ps w w1 s i wr) (fun _ _ i _ => (ps.length - intOf i).toNat)
    case atStart => exact ⟨0, Nat.zero_le _, rfl, OwnS.nil _ _, Below.refl _ _⟩
    case round =>
      obtain ⟨q, hk, rfl, ho, hb⟩ := hrel
      have szr := hb.size
      have hrow := HROW.out.belowY (GW.out.below.trans (hb.mono (Nat.le_succ _)))
      by_cases hlt : q < ps.length
      · have hok := getD_cok HAll.out q hlt
        obtain ⟨bd0, bd1, bd2⟩ := cok_bd hok
        obtain ⟨A', c', e1, _, _, hcl⟩ := hrow
        simp only [Value.slice.injEq] at e1
        obtain ⟨rfl, _, rfl⟩ := e1
        rcases hcl with e | ⟨g, o, rfl, hc⟩
        · rw [e] at hlt; simp at hlt
        obtain ⟨e0, e1, e2⟩ := hc q hlt
        have hnx : (ps.take (q + 1)).map clx = (ps.take q).map clx ++ [clx (ps.getD q cl0)] := by rw [take_cs hlt]; simp
        have hpx : clx (ps.getD q cl0) = itx (ps.getD q cl0).1 ++ ⟨#[46]⟩ ++ itx (ps.getD q cl0).2.1 ++ ⟨#[46]⟩ ++ itx (ps.getD q cl0).2.2 := rfl
        rw [hpx] at hnx
        have t1 := itx_sz (n := (ps.getD q cl0).1) (by omega) (by omega)
        have t2 := itx_sz (n := (ps.getD q cl0).2.1) (by omega) (by omega)
        have t3 := itx_sz (n := (ps.getD q cl0).2.2) (by omega) (by omega)
        have H1 := Lib.hid (fun (W : World) (h : Tab W) => Tryd.itoa (ps.getD q cl0).1 (by omega) (by omega) W h)
        have H2 := Lib.hid (fun (W : World) (h : Tab W) => Tryd.itoa (ps.getD q cl0).2.1 (by omega) (by omega) W h)
        have H3 := Lib.hid (fun (W : World) (h : Tab W) => Tryd.itoa (ps.getD q cl0).2.2 (by omega) (by omega) W h)
        have z0 : (0 : Int) ≤ (q : Int) := by omega
        have z1 : (q : Int) < (ps.length : Int) := by omega
        obtain ⟨A4, c4, rfl⟩ := ho.slB
        have hlk : ((ps.take q).map clx).length = q := by simp; omega
        rw [hlk] at ho ⊢
        have HL := Lib.hid (show ((ps.take q).map clx).length ≤ 1000000 by simp; omega)
        have HNX := Lib.hid hnx
        have HO := Lib.hid ho
        have HB := Lib.hid hb
        have HTR := Lib.hid (HT.out.below (GW.out.below.trans (hb.mono (Nat.le_succ _))))
        have hws : w.heap.size + 1 ≤ wr.heap.size := by have := World.block_lt_of_cell? _ _ d0; omega
        clear ho hb hnx hpx bd0 bd1 bd2 hok hc
        generalize itx (ps.getD q cl0).1 = T1 at *
        generalize itx (ps.getD q cl0).2.1 = T2 at *
        generalize itx (ps.getD q cl0).2.2 = T3 at *
        generalize (ps.getD q cl0).1 = x at *
        generalize (ps.getD q cl0).2.1 = y at *
        generalize (ps.getD q cl0).2.2 = z at *
        have hadd1 := fun W => run_string_add (P := Tryd.prog) (w := W) T1 ⟨#[46]⟩ (by omega) (by decide)
        have hadd2 := fun W => run_string_add (P := Tryd.prog) (w := W) (T1 ++ ⟨#[46]⟩) T2 (by rw [ByteArray.size_append, size_one]; omega) (by omega)
        have hadd3 := fun W => run_string_add (P := Tryd.prog) (w := W) (T1 ++ ⟨#[46]⟩ ++ T2) ⟨#[46]⟩ (by simp only [ByteArray.size_append, size_one]; omega) (by decide)
        have hadd4 := fun W => run_string_add (P := Tryd.prog) (w := W) (T1 ++ ⟨#[46]⟩ ++ T2 ++ ⟨#[46]⟩) T3 (by simp only [ByteArray.size_append, size_one]; omega) (by omega)
        obtain ⟨X, hX⟩ : ∃ X, wr.alloc (.cells #[.int .i64 x, .int .i64 y, .int .i64 z] 40) = X := ⟨_, rfl⟩
        have HGX := Lib.hid (show Gr wr X by rw [← hX]; exact Gr.alloc (Gr.refl _) _)
        have HTX := Lib.hid (HTR.out.gr HGX.out)
        have hneB : some wr.heap.size ≠ (Value.slice A4 q c4).ownBlock := fun e => by have := (World.ownsRow.lt HO.out _ e.symm).2; omega
        have q0 : X.cell? ⟨wr.heap.size, 0, none⟩ = some (.int .i64 x) := by rw [← hX]; simp [go_sem]
        have q1 : X.cell? ⟨wr.heap.size, 1, none⟩ = some (.int .i64 y) := by rw [← hX]; simp [go_sem]
        have q2 : X.cell? ⟨wr.heap.size, 2, none⟩ = some (.int .i64 z) := by rw [← hX]; simp [go_sem]
        go_wp2
        (try simp only [hX])
        clear hX
        go_region_held3 (fun W' => W'.cell? ⟨wr.heap.size, 0, none⟩ = some (.int .i64 x) ∧ W'.cell? ⟨wr.heap.size, 1, none⟩ = some (.int .i64 y) ∧ W'.cell? ⟨wr.heap.size, 2, none⟩ = some (.int .i64 z))
          (first | exact ⟨q0, q1, q2⟩ | assumption | exact ⟨(Gr.drew (Gr.refl _)).keep0 q0, (Gr.drew (Gr.refl _)).keep0 q1, (Gr.drew (Gr.refl _)).keep0 q2⟩ | exact ⟨G1.keep0 q0, G1.keep0 q1, G1.keep0 q2⟩ | exact ⟨(Gr.drew G1).keep0 q0, (Gr.drew G1).keep0 q1, (Gr.drew G1).keep0 q2⟩ | exact ⟨G2.keep0 q0, G2.keep0 q1, G2.keep0 q2⟩ | exact ⟨(Gr.drew G2).keep0 q0, (Gr.drew G2).keep0 q1, (Gr.drew G2).keep0 q2⟩ | exact ⟨G3.keep0 q0, G3.keep0 q1, G3.keep0 q2⟩ | exact ⟨(Gr.drew G3).keep0 q0, (Gr.drew G3).keep0 q1, (Gr.drew G3).keep0 q2⟩ | exact ⟨(Gr.alloc G3 _).keep0 q0, (Gr.alloc G3 _).keep0 q1, (Gr.alloc G3 _).keep0 q2⟩ | exact ⟨(Gr.drew (Gr.alloc G3 _)).keep0 q0, (Gr.drew (Gr.alloc G3 _)).keep0 q1, (Gr.drew (Gr.alloc G3 _)).keep0 q2⟩ | exact ⟨hg3.cell ((Gr.alloc G3 _).keep0 q0) hneB, hg3.cell ((Gr.alloc G3 _).keep0 q1) hneB, hg3.cell ((Gr.alloc G3 _).keep0 q2) hneB⟩ | exact ⟨(Gr.drew (Gr.refl _)).keep0 (hg3.cell ((Gr.alloc G3 _).keep0 q0) hneB), (Gr.drew (Gr.refl _)).keep0 (hg3.cell ((Gr.alloc G3 _).keep0 q1) hneB), (Gr.drew (Gr.refl _)).keep0 (hg3.cell ((Gr.alloc G3 _).keep0 q2) hneB)⟩)
          ((first | (go_at_call_of 31 (Value.int .i64 x); refine (H1.out _ (Tab.gr HTX.out (by repeat (first | exact Gr.refl _ | refine Gr.alloc ?_ _ | refine Gr.trans ?_ (by assumption) | refine Gr.drew ?_ | refine Gr.drewN ?_ _ | refine Gr.grow ?_ _ | refine Gr.setCell ?_ (by (try simp); (try omega)) _)))).mono ?_; rintro e w1 ⟨rfl, g1'⟩; have G1 : Gr X w1 := Gr.trans (by repeat (first | exact Gr.refl _ | refine Gr.alloc ?_ _ | refine Gr.trans ?_ (by assumption) | refine Gr.drew ?_ | refine Gr.drewN ?_ _ | refine Gr.grow ?_ _ | refine Gr.setCell ?_ (by (try simp); (try omega)) _)) g1') | (go_at_call_of 31 (Value.int .i64 y); refine (H2.out _ (Tab.gr HTX.out (by repeat (first | exact Gr.refl _ | refine Gr.alloc ?_ _ | refine Gr.trans ?_ (by assumption) | refine Gr.drew ?_ | refine Gr.drewN ?_ _ | refine Gr.grow ?_ _ | refine Gr.setCell ?_ (by (try simp); (try omega)) _)))).mono ?_; rintro e w2 ⟨rfl, g2'⟩; have G2 : Gr X w2 := Gr.trans (by repeat (first | exact Gr.refl _ | refine Gr.alloc ?_ _ | refine Gr.trans ?_ (by assumption) | refine Gr.drew ?_ | refine Gr.drewN ?_ _ | refine Gr.grow ?_ _ | refine Gr.setCell ?_ (by (try simp); (try omega)) _)) g2') | (go_at_call_of 31 (Value.int .i64 z); refine (H3.out _ (Tab.gr HTX.out (by repeat (first | exact Gr.refl _ | refine Gr.alloc ?_ _ | refine Gr.trans ?_ (by assumption) | refine Gr.drew ?_ | refine Gr.drewN ?_ _ | refine Gr.grow ?_ _ | refine Gr.setCell ?_ (by (try simp); (try omega)) _)))).mono ?_; rintro e w3 ⟨rfl, g3'⟩; have G3 : Gr X w3 := Gr.trans (by repeat (first | exact Gr.refl _ | refine Gr.alloc ?_ _ | refine Gr.trans ?_ (by assumption) | refine Gr.drew ?_ | refine Gr.drewN ?_ _ | refine Gr.grow ?_ _ | refine Gr.setCell ?_ (by (try simp); (try omega)) _)) g3') | (refine step_appS1 rfl (.tmp 19) (.tmp 33) 47 rfl Tryd.underlying47 Tryd.infoSt (w.heap.size + 1) (.slice A4 q c4) _ rfl (HO.out.below (Gr.below (HGX.out.trans (Gr.alloc G3 _))) (Nat.le_refl _)) w3.heap.size 1 (T1 ++ ⟨#[46]⟩ ++ T2 ++ ⟨#[46]⟩ ++ T3) rfl (by simp [go_sem]) HL.out (by have := G3.below.size; have := HGX.out.below.size; simp; omega) ?_; intro v' w4 ho3 hb3 hg3)))
        have gg := HGX.out.trans (Gr.alloc G3 (.cells #[.string (T1 ++ ⟨#[46]⟩ ++ T2 ++ ⟨#[46]⟩ ++ T3)] 9))
        go_wp2
        go_roundw
        case rel => exact ⟨q + 1, by omega, by go_num, by rw [HNX.out]; exact ho3, HB.out.trans ((gg.below.mono (by omega)).trans hb3)⟩
        case measure => simp [intOf]; omega
      · obtain rfl : q = ps.length := by omega
        rw [List.take_length] at ho
        have e0 : wr.cell? ⟨w.heap.size, 0, none⟩ = some (.int .i64 k) := (hb.cell (by show w.heap.size < _; omega)).trans d0
        have e1 : wr.cell? ⟨w.heap.size, 1, none⟩ = some (.int .i64 p) := (hb.cell (by show w.heap.size < _; omega)).trans d1
        have hws : w.heap.size < wr.heap.size := World.block_lt_of_cell? _ _ e0
        have HTR := Lib.hid (HT.out.below (GW.out.below.trans (hb.mono (Nat.le_succ _))))
        have hJs : (⟨(jtZ ps).toArray⟩ : ByteArray).size ≤ 90 := by
          have : (⟨(jtZ ps).toArray⟩ : ByteArray).size = (jtZ ps).length := by simp [ByteArray.size]
          omega
        have hadd9 := fun W => run_string_add (P := Tryd.prog) (w := W) H ⟨(jtZ ps).toArray⟩ (by omega) (by omega)
        have hj : Lib.join ((ps.map clx).map (·.data.toList)) (⟨#[44]⟩ : ByteArray).data.toList = jtZ ps := by
          unfold jtZ
          rw [List.map_map]
          rfl
        have HO := Lib.hid ho
        have HB := Lib.hid hb
        rcases Nat.eq_zero_or_pos ps.length with hz | hpos
        · have hps : ps = [] := List.length_eq_zero_iff.1 hz
          obtain ⟨A4, c4, rfl⟩ := ho.slB
          rw [show ((ps.map clx).length) = 0 by simpa using hz]
          have hE : (⟨(jtZ ps).toArray⟩ : ByteArray) = ⟨#[]⟩ := by rw [hps]; rfl
          have EE := Lib.hid hE
          have HJ := Lib.hid (fun (W : World) => Tryd.strings_Join_none A4 c4 ⟨#[44]⟩ W)
          rw [hE] at hadd9
          clear ho hb hj hE hps
          go_wp2_with (first | (go_at_call 27; refine (SX.out _ (HTR.out)).mono ?_; rintro e w2 ⟨rfl, g2⟩; have G2 := Lib.hid g2; clear g2) | (go_at_call 32; refine (HJ.out _).mono ?_; rintro e w3 ⟨rfl, rfl⟩))
          go_ret2
          exact ⟨by rw [EE.out]; rfl, (GW.out.below.trans (HB.out.mono (Nat.le_succ _))).trans (G2.out.below.mono (by omega))⟩
        · obtain ⟨g', c', rfl, hg', hc', hcells⟩ := ho.view (by simpa using hpos)
          have HJ := Lib.hid (fun (W : World) (g : Gr wr W) => by
            have q := Tryd.strings_Join g' 0 c' (ps.map clx) ⟨#[44]⟩ W (fun j x hx => g.keep0 (hcells j x hx)) (Nat.lt_of_lt_of_le hg' g.below.size) (by simp; omega) hc' (by rw [hj]; omega)
            rw [hj] at q
            exact q)
          simp only [List.length_map] at HJ ⊢
          obtain ⟨J, hJ⟩ : ∃ J, (⟨(jtZ ps).toArray⟩ : ByteArray) = J := ⟨_, rfl⟩
          have EJ := Lib.hid hJ
          rw [hJ] at HJ hadd9 hJs
          clear hJ
          clear ho hb hj hcells
          go_wp2_with (first | (go_at_call 27; refine (SX.out _ (HTR.out)).mono ?_; rintro e w2 ⟨rfl, g2⟩; have G2 := Lib.hid g2; clear g2) | (go_at_call 32; refine (HJ.out _ G2.out).mono ?_; rintro e w3 ⟨rfl, hb3⟩))
          go_ret2
          exact ⟨by rw [EJ.out]; rfl, ((GW.out.below.trans (HB.out.mono (Nat.le_succ _))).trans (G2.out.below.mono (by omega))).trans (hb3.mono (by have := G2.out.below.size; omega))⟩
end Go.Proofs
