/-
  Chapter 8: spec.TripsOfPlan, impl.TripsOfPlan.
-/
import Derived.Test.YtjocipddffillaaBgW
namespace Go.Proofs
open Go.RowKit Bg
set_option linter.unusedVariables false
set_option linter.unusedSimpArgs false
/-- the parcels of each trip -/
def tripB (pl : List Int) : List (List Int) := (List.range (cntN pl pl.length)).map (prN pl pl.length)
theorem tripB_len (pl : List Int) : (tripB pl).length = cntN pl pl.length := by simp [tripB]
theorem tripB_row (pl : List Int) (j : Nat) (h : j < cntN pl pl.length) : rowOf (tripB pl) j = prN pl pl.length j := by
  unfold rowOf tripB
  simp [List.getD, h]
theorem tripB_le (pl : List Int) (hl : pl.length ≤ 8) (j : Nat) : (rowOf (tripB pl) j).length ≤ 8 := by
  by_cases c : j < cntN pl pl.length
  · rw [tripB_row _ _ c]; have := prN_len pl pl.length j; omega
  · unfold rowOf
    rw [List.getD, List.getElem?_eq_none (by rw [tripB_len]; omega)]
    simp
theorem OwnLD.nil (w : World) (B : Nat) (F : Nat → List Int) : OwnLD w B (.slice none 0 0) 0 F := ⟨[], rfl, World.ownsRow_nil w B _ 1, fun k u h => by simp at h, fun i j u u' _ h _ => by simp at h⟩
theorem OwnLD.mono {w : World} {B C n : Nat} {v : Value} {F : Nat → List Int} (h : OwnLD w B v n F) (hC : C ≤ B) : OwnLD w C v n F := by
  obtain ⟨vs, h1, h3, h4, h5⟩ := h
  refine ⟨vs, h1, ⟨h3.1, ?_⟩, fun k u hk => (h4 k u hk).mono hC, h5⟩
  rcases h3.2 with hn | ⟨g, cap, cur, rfl, hb', r⟩
  · exact .inl hn
  · exact .inr ⟨g, cap, cur, rfl, Nat.le_trans hC hb', r⟩
theorem OwnLL.monoB {w : World} {B C n : Nat} {v : Value} {F : Nat → List Int} (h : OwnLL w B v n F) (hC : C ≤ B) : OwnLL w C v n F := by
  obtain ⟨vs, h1, h3, h4⟩ := h
  refine ⟨vs, h1, ⟨h3.1, ?_⟩, fun k u hk => (h4 k u hk).mono hC⟩
  rcases h3.2 with hn | ⟨g, cap, cur, rfl, hb', r⟩
  · exact .inl hn
  · exact .inr ⟨g, cap, cur, rfl, Nat.le_trans hC hb', r⟩
def ToRel (pl : List Int) (N : Nat) (w : World) (s i : Value) (wr : World) : Prop := ∃ k : Nat, k ≤ N ∧ i = .int .i64 k ∧ OwnLL wr w.heap.size s k (prN pl pl.length) ∧ Below w.heap.size w wr
def TiRel (pl : List Int) (t : Nat) (X : World) (s i : Value) (wr : World) : Prop := ∃ j : Nat, j ≤ pl.length ∧ i = .int .i64 j ∧ OwnI wr X.heap.size s (prN pl j t) ∧ Below X.heap.size X wr
set_option maxRecDepth 100000 in
set_option maxHeartbeats 3200000 in
theorem Try.sTripsOfPlan (w : World) (B B' : Nat) (v v' : Value) (ps : List Pi2) (pl : List Int) (bag : Int) (a p : Bool) (ha : a = true ↔ AskB ps bag) (hp : p = true ↔ PlanB ps bag pl) (hlp : pl.length ≤ 1048576) (hls : ps.length ≤ 1048576) (h : OwnP 55 w B v ps) (h' : OwnI w B' v' pl) :
    Calls Try.prog 24 #[v, .int .i64 bag, v'] w fun e w' => ∃ u, e = .returned (.tuple #[u, .bool (a && p)]) ∧ OwnZ w' w.heap.size u (if (a && p) = true then tripB pl else []) ∧ Below w.heap.size w w' := by
  have HG := Lib.hid (Try.bgBoth w B B' v v' ps pl bag a p ha hp hlp hls h h')
  cases hr : (a && p)
  · rw [hr] at HG
    obtain ⟨A, c, rfl⟩ := h.sl
    obtain ⟨A', c', rfl⟩ := h'.sl
    clear h h' ha hp hr
    go_enter Try.func24, Try.ntmps24
    go_wp2_with (first | (go_at_call 60; refine HG.out.mono ?_; rintro e w1 ⟨rfl, b1⟩))
    go_ret2
    exact ⟨_, rfl, OwnLL.nil _ _ _, b1⟩
  · rw [hr] at HG
    rw [if_pos rfl]
    rw [Bool.and_eq_true] at hr
    have hask := ha.1 hr.1
    have hpl := hp.1 hr.2
    have hlen := hpl.1
    have hrg := hpl.2.1
    have hl8 := hask.1.1
    have hcl := cnt_le pl pl.length
    have HW := Lib.hid (fun W (bl : Below w.heap.size w W) => Try.bgWeights W B B' v v' ps pl hask.1 hlen hrg (h.below bl (Nat.le_refl _)) (h'.below bl (Nat.le_refl _)))
    have hwl : (tb (wtN (weiF ps) pl pl.length) (cntN pl pl.length)).length = cntN pl pl.length := tb_len _ _
    have HWL := Lib.hid hwl
    have HRG := Lib.hid hrg
    have hzl := tripB_len pl
    have hzr := tripB_row pl
    have HZL := Lib.hid hzl
    have HZR := Lib.hid hzr
    obtain ⟨A, c, rfl⟩ := h.sl
    obtain ⟨A', c', rfl, h'⟩ := h'.eta
    obtain ⟨g', rfl⟩ := h'.addr (by omega)
    have HO := Lib.hid h'
    generalize tb (wtN (weiF ps) pl pl.length) (cntN pl pl.length) = T at *
    obtain ⟨N, hN⟩ : ∃ N, cntN pl pl.length = N := ⟨_, rfl⟩
    rw [hN] at HWL HZL HZR hcl
    have hp8 : pl.length ≤ 8 := by omega
    clear h h' ha hp hr hask hpl hrg hwl hzl hzr hN hlen
    go_enter Try.func24, Try.ntmps24
    go_wp2_with (first | (go_at_call 60; refine HG.out.mono ?_; rintro e w1 ⟨rfl, b1⟩) | (go_at_call 61; refine (HW.out _ b1).mono ?_; rintro e w2 ⟨v2, rfl, o2, b2⟩; obtain ⟨A2, c2, rfl, o2⟩ := o2.eta))
    rw [HWL.out]
    have HB2 := Lib.hid (b1.trans (b2.mono b1.size))
    clear o2 b1 b2
    go_loopw [8, 9, 10, 11, 12, 22, 27] (fun s _ _ _ _ i _ wr => ToRel pl N w s i wr) (fun _ _ _ _ _ i _ _ => (N - intOf i).toNat)
    case atStart => exact ⟨0, Nat.zero_le _, rfl, OwnLL.nil _ _ _, HB2.out⟩
    case round =>
      obtain ⟨t, ht, rfl, ol, hb'⟩ := hrel
      by_cases hlt : t < N
      · have OL := Lib.hid ol
        have HB := Lib.hid hb'
        have hsz := hb'.size
        have z0 : (0 : Int) ≤ (t : Int) := by omega
        have z1 : (t : Int) < (N : Int) := by omega
        clear ol hb'
        rename World => X
        go_wp2
        go_loopw [10, 11, 12, 27] (fun s _ _ i wr' => TiRel pl t X s i wr') (fun _ _ _ i _ => (pl.length - intOf i).toNat)
        case atStart => exact ⟨0, Nat.zero_le _, rfl, OwnI.nil2 _ _, Below.refl _ _⟩
        case round =>
          obtain ⟨j, hj, rfl, o10, hbj⟩ := hrel
          by_cases hjl : j < pl.length
          · have e0 := cell_k2 (HB.out.trans (hbj.mono hsz)) (HO.out.at rfl j hjl).1
            obtain ⟨q, hq⟩ : ∃ q : Nat, pl.getD j 0 = (q : Int) := ⟨(pl.getD j 0).toNat, by have := HRG.out j hjl; omega⟩
            have hst : prN pl (j + 1) t = if pl.getD j 0 = (t : Int) then prN pl j t ++ [(j : Int)] else prN pl j t := rfl
            have hpn := prN_len pl j t
            rw [hq] at e0 hst
            have O10 := Lib.hid o10
            have HBJ := Lib.hid hbj
            have y0 : (0 : Int) ≤ (j : Int) := by omega
            have y1 : (j : Int) < (pl.length : Int) := by omega
            clear o10 hbj hq
            generalize prN pl j t = own at *
            by_cases hqt : q = t
            · rw [if_pos (by omega)] at hst
              have HST := Lib.hid hst
              have d1 : ((q : Int) == (t : Int)) = true := by simp; omega
              subst hqt
              clear hst
              go_wp2_with (first | (at_builtin; refine wpList_app1I rfl _ _ 29 rfl Try.underlying29 Try.infoI2 X.heap.size _ _ rfl O10.out (j : Int) rfl (by omega) (by have := HBJ.out.size; omega) ?_; intro v5 w5 ho5 hb5 _ _))
              go_roundw
              case rel => exact ⟨j + 1, by omega, by go_num, by rw [HST.out]; exact ho5, HBJ.out.trans hb5⟩
              case measure => simp [intOf]; omega
            · rw [if_neg (by omega)] at hst
              have HST := Lib.hid hst
              have d1 : ((q : Int) == (t : Int)) = false := by simp; omega
              clear hst
              go_wp2
              go_roundw
              case rel => exact ⟨j + 1, by omega, by go_num, by rw [HST.out]; exact O10.out, HBJ.out⟩
              case measure => simp [intOf]; omega
          · obtain rfl : j = pl.length := by omega
            obtain ⟨A5, c5, rfl, o10⟩ := o10.eta
            have O10 := Lib.hid (o10.mono hsz)
            have OL2 := Lib.hid (OwnLL.below OL.out hbj (Nat.le_refl _))
            have HBJ := Lib.hid hbj
            have hszj := hbj.size
            clear o10 hbj
            go_wp2_with (first | (at_builtin; refine wpList_app1L rfl _ _ 35 rfl Try.underlying35 Try.infoS2 w.heap.size _ t _ rfl OL2.out _ O10.out rfl (by omega) (by omega) ?_; intro v5 w5 ho5 hb5 hg5))
            go_roundw
            case rel => exact ⟨t + 1, by omega, by go_num, ho5, (HB.out.trans (HBJ.out.mono hsz)).trans hb5⟩
            case measure => simp [intOf]; omega
      · obtain rfl : t = N := by omega
        have OL := Lib.hid ol
        have HB := Lib.hid hb'
        clear ol hb'
        go_wp2
        go_ret2
        exact ⟨_, rfl, by unfold OwnZ; rw [HZL.out]; exact OwnLL.congr OL.out (fun j hj => (HZR.out j hj).symm), HB.out⟩
set_option maxHeartbeats 1600000 in
theorem Try.iTripsOfPlan (w : World) (B B' : Nat) (v v' : Value) (ps : List Pi2) (pl : List Int) (bag : Int) (a p : Bool) (ha : a = true ↔ AskB ps bag) (hp : p = true ↔ PlanB ps bag pl) (hlp : pl.length ≤ 1048576) (hls : ps.length ≤ 1048576) (h : OwnP 55 w B v ps) (h' : OwnI w B' v' pl)
    (zss : List (List Int)) (hz : (if (a && p) = true then tripB pl else []) = zss) :
    Calls Try.prog 25 #[v, .int .i64 bag, v'] w fun e w' => ∃ u, e = .returned (.tuple #[u, .bool (a && p)]) ∧ OwnLD w' w.heap.size u zss.length (rowOf zss) ∧ Below w.heap.size w w' := by
  have HG := Lib.hid (Try.havePlan w B B' v v' ps pl bag a p ha hp hlp hls h h')
  cases hr : (a && p)
  · rw [hr] at HG hz
    obtain rfl : [] = zss := by simpa using hz
    obtain ⟨A, c, rfl⟩ := h.sl
    obtain ⟨A', c', rfl⟩ := h'.sl
    clear h h' ha hp hr hz
    go_enter Try.func25, Try.ntmps25
    go_wp2_with (first | (go_at_call 58; refine HG.out.mono ?_; rintro e w1 ⟨rfl, b1⟩))
    go_ret2
    exact ⟨_, rfl, OwnLD.nil _ _ _, b1⟩
  · rw [hr] at HG hz
    rw [if_pos rfl] at hz
    subst hz
    rw [Bool.and_eq_true] at hr
    have hask := ha.1 hr.1
    have hpl := hp.1 hr.2
    have hlen := hpl.1
    have hl8 := hask.1.1
    have HP := Lib.hid (fun W (bl : Below w.heap.size w W) => Try.parcelsOf W B' v' pl (by omega) (by omega) hpl.2.1 (h'.below bl (Nat.le_refl _)))
    have hzl := tripB_len pl
    have HZR := Lib.hid (tripB_row pl)
    rw [hzl]
    generalize cntN pl pl.length = N at *
    obtain ⟨A, c, rfl⟩ := h.sl
    obtain ⟨A', c', rfl⟩ := h'.sl
    clear h h' ha hp hr hask hpl hlen hzl
    go_enter Try.func25, Try.ntmps25
    go_wp2_with (first | (go_at_call 58; refine HG.out.mono ?_; rintro e w1 ⟨rfl, b1⟩) | (go_at_call 62; refine (HP.out _ b1).mono ?_; rintro e w2 ⟨v2, rfl, o2, b2⟩))
    go_ret2
    exact ⟨_, rfl, (o2.mono b1.size).congr (fun j hj => (HZR.out j hj).symm), b1.trans (b2.mono b1.size)⟩
end Go.Proofs
