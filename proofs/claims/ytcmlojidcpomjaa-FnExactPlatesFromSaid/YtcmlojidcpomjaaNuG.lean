/-
  The model's search for the last plate that can be made (spec.PlatesFrom).
-/
import Derived.Test.YtcmlojidcpomjaaNuE
import Derived.Test.YtcmlojidcpomjaaNuF
import Derived.Test.YtcmlojidcpomjaaNuPl
import Derived.Test.YtcmlojidcpomjaaInts2
namespace Go.Proofs
open Go.RowKit Nu
set_option linter.unusedVariables false
set_option linter.unusedSimpArgs false
/-- a row of ten numbers -/
def ten (f : Nat → Int) : List Int := (List.range 10).map f
theorem ten_len (f : Nat → Int) : (ten f).length = 10 := by simp [ten]
theorem ten_get (f : Nat → Int) (d : Nat) (h : d < 10) : (ten f).getD d 0 = f d := by simp [ten, List.getD, h]
theorem ten_ext {xs : List Int} (h : xs.length = 10) : xs = ten (fun d => xs.getD d 0) := by
  apply List.ext_getElem (by simp [h, ten])
  intro i h1 h2
  simp [ten, List.getD, h1]
theorem ten_set (f : Nat → Int) (d : Nat) (x : Int) (h : d < 10) : (ten f).set d x = ten (fun j => if j = d then x else f j) := by
  apply List.ext_getElem (by simp [ten])
  intro i h1 h2
  simp only [ten, List.getElem_set, List.getElem_map, List.getElem_range]
  by_cases c : d = i
  · subst c; simp
  · rw [if_neg c, if_neg (fun e => c e.symm)]
theorem ten_zero : ten (fun _ => 0) = List.replicate 10 0 := by decide
theorem ten_congr {f g : Nat → Int} (h : ∀ d, d < 10 → f d = g d) : ten f = ten g := by
  unfold ten
  apply List.map_congr_left
  intro d hd
  exact h d (List.mem_range.1 hd)
/-- the digits of n up to place i, counted -/
def ndR (n : Int) (i : Nat) : List Int := ten (fun d => dns n d i)
theorem ndR_zero (n : Int) : ndR n 0 = List.replicate 10 0 := by rw [← ten_zero]; rfl
theorem dg_bd (n : Int) (i : Nat) : 0 ≤ n / tp i % 10 ∧ n / tp i % 10 < 10 := by omega
theorem ndR_set (n : Int) (i : Nat) : (ndR n i).set (n / tp i % 10).toNat ((ndR n i).getD (n / tp i % 10).toNat 0 + 1) = ndR n (i + 1) := by
  have h := dg_bd n i
  have hd : (n / tp i % 10).toNat < 10 := by omega
  unfold ndR
  rw [ten_get _ _ hd, ten_set _ _ _ hd]
  apply ten_congr
  intro d hd'
  simp only [dns]
  by_cases c : d = (n / tp i % 10).toNat
  · rw [if_pos c, c, if_pos (by omega)]
  · rw [if_neg c, if_neg (by omega)]; omega
/-- what is left of ds when the plates up to k are made -/
def lfR (ds : List Int) (k : Int) : List Int := ten (fun d => ds.getD d 0 - cd k d)
theorem lfR_zero {ds : List Int} (h : ds.length = 10) : lfR ds 0 = ds := by
  rw [ten_ext h]
  apply ten_congr
  intro d hd
  rw [cd_zero, ← ten_ext h]; omega
/-- the first i numbers have been taken off -/
def lfS (ds : List Int) (k : Int) (i : Nat) : List Int := ten (fun d => ds.getD d 0 - cd k d - (if d < i then dn (k + 1) d else 0))
theorem lfS_zero (ds : List Int) (k : Int) : lfS ds k 0 = lfR ds k := by
  apply ten_congr
  intro d hd
  simp
theorem lfS_ten (ds : List Int) (k : Nat) : lfS ds k 10 = lfR ds ((k : Int) + 1) := by
  apply ten_congr
  intro d hd
  rw [if_pos hd, cd_succ k d (by omega) (by omega) (by omega)]; omega
theorem lfS_set (ds : List Int) (k : Int) (i : Nat) (h : i < 10) : (lfS ds k i).set i ((lfS ds k i).getD i 0 - dn (k + 1) i) = lfS ds k (i + 1) := by
  unfold lfS
  rw [ten_get _ _ h, ten_set _ _ _ h]
  apply ten_congr
  intro d hd
  by_cases c : d = i
  · subst c; rw [if_pos rfl, if_neg (Nat.lt_irrefl _), if_pos (by omega)]; omega
  · rw [if_neg c]
    by_cases e : d < i
    · rw [if_pos e, if_pos (by omega)]
    · rw [if_neg e, if_neg (by omega)]
theorem enough_step {ds : List Int} {k : Nat} (h : Enough ds k) : Enough ds ((k : Int) + 1) ↔ ∀ d : Nat, d < 10 → dn ((k : Int) + 1) d ≤ (lfR ds k).getD d 0 := by
  constructor
  · intro e d hd
    have := e d hd
    rw [cd_succ k d (by omega) (by omega) (by omega)] at this
    unfold lfR
    rw [ten_get _ _ hd]; omega
  · intro e d hd
    have := e d hd
    unfold lfR at this
    rw [ten_get _ _ hd] at this
    rw [cd_succ k d (by omega) (by omega) (by omega)]; omega
theorem lf_bd {ds : List Int} (h : AllDig ds) {k : Nat} (hk : Enough ds k) (d : Nat) (hd : d < 10) (i : Nat) (h1 : Enough ds ((k : Int) + 1) ∨ i = 0) : 0 ≤ (lfS ds k i).getD d 0 ∧ (lfS ds k i).getD d 0 ≤ 100000 := by
  have a := h.2 d hd
  have c0 := cd_succ k d (by omega) (by omega) (by omega)
  have p := dn_pos ((k : Int) + 1) d
  have mono : ∀ m : Nat, 0 ≤ cd m d := by
    intro m
    induction m with
    | zero => rw [show ((0 : Nat) : Int) = 0 from rfl, cd_zero]; omega
    | succ m ih => push_cast; rw [cd_succ m d (by omega) (by omega) (by omega)]; have := dn_pos ((m : Int) + 1) d; omega
  have q := mono k
  have e := hk d hd
  unfold lfS
  rw [ten_get _ _ hd]
  split
  · rename_i hi
    rcases h1 with h1 | h1
    · have := h1 d hd; omega
    · omega
  · omega
set_option maxHeartbeats 800000 in
theorem Try.sPlatesNo (w : World) (B : Nat) (v : Value) (ds : List Int) (hl : ds.length ≤ 1048576) (hn : ¬ AllDig ds) (h : OwnI w B v ds) :
    Calls Try.prog 17 #[v] w fun e w' => e = .returned (.tuple #[.int .i64 0, .bool false]) ∧ Below w.heap.size w w' := by
  by_cases h10 : ds.length = 10
  · have hb : ¬ AllIn ds 0 100000 := fun q => hn ⟨h10, fun d hd => of_decide_eq_true (q d (by omega))⟩
    have HA := Lib.hid (fun (W : World) (g : Gr w W) => Try.l1All W B v ds 0 100000 false (by simp; exact hb) hl (h.gr g))
    obtain ⟨A, c, rfl, h⟩ := h.eta
    rw [h10] at h HA ⊢
    clear h hn hb
    go_enter Try.func17, Try.ntmps17
    go_wp2_with (first | (go_at_call 47; refine (HA.out _ (by repeat (first | exact Gr.refl _ | refine Gr.alloc ?_ _ | refine Gr.trans ?_ (by assumption) | refine Gr.drew ?_ | refine Gr.drewN ?_ _ | refine Gr.grow ?_ _ | refine Gr.setCell ?_ (by (try simp); (try omega)) _))).mono ?_; rintro e w1 ⟨rfl, g1⟩))
    go_ret2
    exact ⟨rfl, Gr.below (by repeat (first | exact Gr.refl _ | refine Gr.alloc ?_ _ | refine Gr.trans ?_ (by assumption) | refine Gr.drew ?_ | refine Gr.drewN ?_ _ | refine Gr.grow ?_ _ | refine Gr.setCell ?_ (by (try simp); (try omega)) _))⟩
  · have d0 : ((ds.length : Int) == 10) = false := by simp; omega
    have d1 : ¬ (ds.length : Int) = 10 := by omega
    have d2 : decide (ds.length = 10) = false := by simpa using h10
    obtain ⟨A, c, rfl, h⟩ := h.eta
    clear h hn
    go_enter Try.func17, Try.ntmps17
    go_wp2
    go_ret2
    exact ⟨rfl, Gr.below (by repeat (first | exact Gr.refl _ | refine Gr.alloc ?_ _ | refine Gr.trans ?_ (by assumption) | refine Gr.drew ?_ | refine Gr.drewN ?_ _ | refine Gr.grow ?_ _ | refine Gr.setCell ?_ (by (try simp); (try omega)) _))⟩
def PfRel (ds : List Int) (l : Nat) (W : World) (BL : Nat) (vL q : Value) (wr : World) : Prop := ∃ k : Nat, k ≤ l ∧ q = .int .i64 k ∧ OwnI wr BL vL (lfR ds k) ∧ Below W.heap.size W wr ∧ (∀ g, vL.ownBlock = some g → g < wr.heap.size)
def NdRel (n : Int) (B b : Nat) (W : World) (r : Value) (wr : World) : Prop := ∃ i : Nat, i ≤ 7 ∧ (∀ j, j < i → tp j ≤ n) ∧ r = .int .i64 (n / tp i) ∧ OwnI wr B (.slice (some ⟨b, 0, none⟩) 10 10) (ndR n i) ∧ Below B W wr
def CmRel (ds : List Int) (k : Nat) (W : World) (i : Value) (wr : World) : Prop := wr = W ∧ ∃ d : Nat, d ≤ 10 ∧ i = .int .i64 d ∧ ∀ j, j < d → dn ((k : Int) + 1) j ≤ (lfR ds k).getD j 0
def SbRel (ds : List Int) (k : Nat) (BL : Nat) (vL : Value) (b : Nat) (W : World) (i : Value) (wr : World) : Prop := ∃ d : Nat, d ≤ 10 ∧ i = .int .i64 d ∧ OwnI wr BL vL (lfS ds k d) ∧ W.grownBy wr vL.ownBlock
set_option maxRecDepth 100000 in
set_option maxHeartbeats 3200000 in
theorem Try.sPlates (w : World) (B : Nat) (v : Value) (ds : List Int) (l : Nat) (ha : AllDig ds) (hlp : LastP ds l) (h : OwnI w B v ds) :
    Calls Try.prog 17 #[v] w fun e w' => e = .returned (.tuple #[.int .i64 l, .bool true]) ∧ Below w.heap.size w w' := by
  have mixed : Try.prog.follows .mixedOrders = true := by kernel_rfl
  have h10 := ha.1
  have hb : AllIn ds 0 100000 := fun j hj => decide_eq_true (ha.2 j (by omega))
  have HA := Lib.hid (fun (W : World) (g : Gr w W) => Try.l1All W B v ds 0 100000 true (by simp; exact hb) (by omega) (h.gr g))
  have HO := Lib.hid (fun (W : World) (g : Gr w W) => Try.l1Own W B v ds (by omega) (by omega) (h.gr g))
  have HAD := Lib.hid ha
  have HLP := Lib.hid hlp
  obtain ⟨A, c, rfl, h⟩ := h.eta
  rw [h10] at h HA HO ⊢
  clear h hb ha hlp
  go_enter Try.func17, Try.ntmps17
  go_wp2_with (first | (go_at_call 47; refine (HA.out _ (by repeat (first | exact Gr.refl _ | refine Gr.alloc ?_ _ | refine Gr.trans ?_ (by assumption) | refine Gr.drew ?_ | refine Gr.drewN ?_ _ | refine Gr.grow ?_ _ | refine Gr.setCell ?_ (by (try simp); (try omega)) _))).mono ?_; rintro e w1 ⟨rfl, g1⟩) | (go_at_call 48; refine (HO.out _ (by repeat (first | exact Gr.refl _ | refine Gr.alloc ?_ _ | refine Gr.trans ?_ (by assumption) | refine Gr.drew ?_ | refine Gr.drewN ?_ _ | refine Gr.grow ?_ _ | refine Gr.setCell ?_ (by (try simp); (try omega)) _))).mono ?_; rintro e w2 ⟨v2, rfl, ho2, hb2⟩))
  obtain ⟨BL, ho3⟩ : ∃ BL, BL = _ ∧ OwnI w2 BL v2 ds := ⟨_, rfl, ho2⟩
  obtain ⟨hBL, ho3⟩ := ho3
  have hbw : Below w.heap.size w w2 := Below.trans (Gr.below (by repeat (first | exact Gr.refl _ | refine Gr.alloc ?_ _ | refine Gr.trans ?_ (by assumption) | refine Gr.drew ?_ | refine Gr.drewN ?_ _ | refine Gr.grow ?_ _ | refine Gr.setCell ?_ (by (try simp); (try omega)) _))) (hb2.mono (Gr.below (by repeat (first | exact Gr.refl _ | refine Gr.alloc ?_ _ | refine Gr.trans ?_ (by assumption) | refine Gr.drew ?_ | refine Gr.drewN ?_ _ | refine Gr.grow ?_ _ | refine Gr.setCell ?_ (by (try simp); (try omega)) _))).size)
  have hBw : w.heap.size ≤ BL := by rw [hBL]; exact (Gr.below (by repeat (first | exact Gr.refl _ | refine Gr.alloc ?_ _ | refine Gr.trans ?_ (by assumption) | refine Gr.drew ?_ | refine Gr.drewN ?_ _ | refine Gr.grow ?_ _ | refine Gr.setCell ?_ (by (try simp); (try omega)) _))).size
  rcases ho3.view with ⟨hz, _⟩ | ⟨_, gL, cL, rfl, gL1, gL2, gL3, _, _⟩
  · rw [hz] at h10; simp at h10
  have HOW := Lib.hid ho3
  have HBW := Lib.hid hbw
  obtain ⟨i0, hi, hz0, hz1, hz2⟩ := info_parts Try.infoI
  have HII := Lib.hid hi
  rw [h10] at HOW ⊢
  clear ho2 hb2 ho3 hbw hBL hi gL3
  go_loopw [5, 6, 7, 8, 9, 10, 11] (fun q _ _ _ _ _ _ wr => PfRel ds l w BL (.slice (some ⟨gL, 0, none⟩) 10 cL) q wr) (fun q _ _ _ _ _ _ _ => (l + 1 - intOf q).toNat)
  case atStart => exact ⟨0, Nat.zero_le _, rfl, by rw [show (((0 : Nat) : Int)) = 0 from rfl, lfR_zero h10]; exact HOW.out, HBW.out, fun g hg => by cases hg; exact gL2⟩
  case round =>
    rename World => WO
    obtain ⟨k, hk, rfl, ho, hb, hgL⟩ := hrel
    have hl6 := HLP.out.1
    have hEk : Enough ds k := enough_mono k l hk HLP.out.2.1
    have HO1 := Lib.hid ho
    have HB1 := Lib.hid hb
    have HEK := Lib.hid hEk
    have hsz := hb.size
    clear ho hb hEk
    go_wp2_with (at_make; refine wpList_make_full _ rfl _ _ 24 rfl WO.heap.size 3 i0 (.int .i64 0) 1 Try.underlying24 HII.out hz0 hz1 .i64 .i64 _ _ 10 rfl rfl (by rfl) (by rfl) (by rw [hz2]; omega) (by unfold maxLen; omega) (Nat.le_refl _) ?_; intro w4 hown4 hgrow4)
    have hb4 : Below WO.heap.size WO w4 := (Below.refl _ _).grown hgrow4 (Nat.le_refl _) (by simp)
    have ho4 : OwnI w4 WO.heap.size (.slice (some ⟨WO.heap.size, 0, none⟩) 10 10) (ndR ((k : Int) + 1) 0) := by
      unfold OwnI
      rw [ndR_zero]
      simpa [Value.cells, toList_madeCells_one] using hown4
    have HO4 := Lib.hid ho4
    have HB4 := Lib.hid hb4
    clear hown4 hgrow4 ho4 hb4
    have hn1 : (1 : Int) ≤ (k : Int) + 1 := by omega
    have hn2 : (k : Int) + 1 ≤ 1000000 := by omega
    have hgLt := hgL gL rfl
    go_loopw [7] (fun r w5 => NdRel ((k : Int) + 1) WO.heap.size WO.heap.size WO r w5) (fun r _ => (intOf r).toNat)
    case atStart => exact ⟨0, by omega, fun j hj => absurd hj (Nat.not_lt_zero _), by simp [tp], HO4.out, HB4.out⟩
    case round =>
      obtain ⟨i, hi7, hall, rfl, ho, hb⟩ := hrel
      have hr0 : 0 ≤ ((k : Int) + 1) / tp i := Int.ediv_nonneg (by omega) (by have := tp_bd i; omega)
      have hr1 : ((k : Int) + 1) / tp i ≤ (k : Int) + 1 := Int.ediv_le_self _ (by omega)
      have hdp := div_pos ((k : Int) + 1) i (by omega)
      have HOO := Lib.hid ho
      have HBB := Lib.hid hb
      have HAL := Lib.hid hall
      by_cases hpos : 0 < ((k : Int) + 1) / tp i
      · have htp := hdp.1 hpos
        have hi6 := tp_lt i _ hn2 htp
        have HDV := Lib.hid (div_tp ((k : Int) + 1) i hi6)
        have HST := Lib.hid (ndR_set ((k : Int) + 1) i)
        have HTP := Lib.hid htp
        have hbdn : ∀ j, j < 10 → 0 ≤ (ndR ((k : Int) + 1) i).getD j 0 ∧ (ndR ((k : Int) + 1) i).getD j 0 ≤ 7 := fun j hj => by
          unfold ndR
          rw [ten_get _ _ hj]
          have := dns_bd ((k : Int) + 1) j i
          omega
        obtain ⟨r, hr⟩ : ∃ r, ((k : Int) + 1) / tp i = r := ⟨_, rfl⟩
        rw [hr] at hr0 hr1 hpos HST HDV ⊢
        have e1 : r.tdiv 10 = r / 10 := Int.tdiv_eq_ediv_of_nonneg hr0
        have e2 : r.tmod 10 = r % 10 := Int.tmod_eq_emod_of_nonneg hr0
        have hw10 : wrap64 (r / 10) = r / 10 := by unfold wrap64; omega
        obtain ⟨q, hq⟩ : ∃ q : Nat, r % 10 = (q : Int) := ⟨(r % 10).toNat, by omega⟩
        have hq10 : q < 10 := by omega
        rw [hq] at e2 HST
        rw [show ((q : Int)).toNat = q by omega] at HST
        have hlen : (ndR ((k : Int) + 1) i).length = 10 := ten_len _
        obtain ⟨s0, s1⟩ := ho.at hlen q hq10
        have hub := hbdn q hq10
        generalize (ndR ((k : Int) + 1) i).getD q 0 = u at *
        have zq0 : (0 : Int) ≤ (q : Int) := by omega
        have zq1 : (q : Int) < 10 := by omega
        have HLN := Lib.hid hlen
        have HR := Lib.hid hr
        clear ho hb hall hdp htp hlen hbdn hr
        go_wp2
        go_roundw
        case rel =>
          refine ⟨i + 1, by omega, ?_, by rw [HDV.out], ?_, HBB.out.setCell (Nat.le_refl _) _⟩
          · intro j hj
            rcases Nat.lt_or_eq_of_le (Nat.le_of_lt_succ hj) with c | c
            · exact HAL.out j c
            · rw [c]; exact HTP.out
          · rw [← HST.out]
            exact OwnI.set HOO.out HLN.out q (u + 1)
        case measure => (try rw [HR.out]); simp [intOf]; omega
      · have hnt : ¬ tp i ≤ (k : Int) + 1 := fun q => hpos (hdp.2 q)
        have HN := Lib.hid (show OwnI wr WO.heap.size (.slice (some ⟨WO.heap.size, 0, none⟩) 10 10) (ten (fun d => dn ((k : Int) + 1) d)) by
          have e : ndR ((k : Int) + 1) i = ten (fun d => dn ((k : Int) + 1) d) := ten_congr (fun d _ => dns_end ((k : Int) + 1) d i hi7 hall (by omega))
          rw [← e]; exact ho)
        have hz : ((k : Int) + 1) / tp i = 0 := by omega
        rw [hz]
        have HLF := Lib.hid (show OwnI wr BL (.slice (some ⟨gL, 0, none⟩) 10 cL) (lfR ds k) from HO1.out.below hb (Nat.le_refl _))
        have HBN := Lib.hid (HB1.out.trans (hb.mono hsz))
        have hszw := hb.size
        clear ho hb hall hdp HOO HBB HAL hr0 hr1
        go_wp2
        go_loopw [8, 9, 38] (fun _ _ j w6 => CmRel ds k wr j w6) (fun _ _ j _ => (10 - intOf j).toNat)
        case atStart => exact ⟨rfl, 0, by omega, rfl, fun j hj => absurd hj (Nat.not_lt_zero _)⟩
        case round =>
          obtain ⟨rfl, d, hd, rfl, hall⟩ := hrel
          by_cases hd10 : d < 10
          · have n0 := (HN.out.at (ten_len _) d hd10).1
            rw [ten_get _ _ hd10] at n0
            have l0 := (HLF.out.at (ten_len _) d hd10).1
            have z0 : (0 : Int) ≤ (d : Int) := by omega
            have z1 : (d : Int) < 10 := by omega
            by_cases hle : dn ((k : Int) + 1) d ≤ (lfR ds k).getD d 0
            · have HNX := Lib.hid (show ∀ j, j < d + 1 → dn ((k : Int) + 1) j ≤ (lfR ds k).getD j 0 from fun j hj => by
                rcases Nat.lt_or_eq_of_le (Nat.le_of_lt_succ hj) with c | c
                · exact hall j c
                · rw [c]; exact hle)
              generalize (lfR ds k).getD d 0 = y at *
              generalize dn ((k : Int) + 1) d = x at *
              have d1 : decide (y < x) = false := by simp; omega
              clear hall
              go_wp2
              go_roundw
              case rel => exact ⟨rfl, d + 1, by omega, by go_num, HNX.out⟩
              case measure => simp [intOf]; omega
            · have HKL := Lib.hid (show k = l by
                have hne : ¬ Enough ds ((k : Int) + 1) := fun e => hle ((enough_step HEK.out).1 e d hd10)
                have := (lastp_iff HLP.out k).2 hne
                omega)
              generalize (lfR ds k).getD d 0 = y at *
              generalize dn ((k : Int) + 1) d = x at *
              have d1 : decide (y < x) = true := by simp; omega
              clear hall
              go_wp2
              go_ret2
              exact ⟨by rw [HKL.out]; rfl, HBN.out⟩
          · obtain rfl : d = 10 := by omega
            have HEN := Lib.hid ((enough_step HEK.out).2 hall)
            have HKL := Lib.hid (show k < l by
              rcases Nat.lt_or_ge k l with c | c
              · exact c
              · exact absurd ((enough_step HEK.out).2 hall) ((lastp_iff HLP.out k).1 c))
            clear hall
            go_wp2
            rename World => WR
            go_loopw [10, 11, 53] (fun _ _ j w6 => SbRel ds k BL (.slice (some ⟨gL, 0, none⟩) 10 cL) gL WR j w6) (fun _ _ j _ => (10 - intOf j).toNat)
            case atStart => exact ⟨0, by omega, rfl, by rw [lfS_zero]; exact HLF.out, World.grownBy.refl _ _⟩
            case round =>
              obtain ⟨d, hd, rfl, ho, hg⟩ := hrel
              by_cases hd10 : d < 10
              · have n0 := hg.cell (HN.out.at (ten_len _) d hd10).1 (fun e => by simp [Value.ownBlock] at e; omega)
                rw [ten_get _ _ hd10] at n0
                obtain ⟨l0, l1⟩ := ho.at (ten_len _) d hd10
                have hyb := lf_bd HAD.out HEK.out d hd10 d (.inl HEN.out)
                have hxb : 0 ≤ dn ((k : Int) + 1) d ∧ dn ((k : Int) + 1) d ≤ 7 := by
                  refine ⟨dn_pos _ _, ?_⟩
                  have a := one_bd2 1 ((k : Int) + 1) d; have b := one_bd2 10 ((k : Int) + 1) d; have c := one_bd2 100 ((k : Int) + 1) d; have e := one_bd2 1000 ((k : Int) + 1) d; have f := one_bd2 10000 ((k : Int) + 1) d; have g := one_bd2 100000 ((k : Int) + 1) d; have h := one_bd2 1000000 ((k : Int) + 1) d
                  unfold dn; omega
                have HST := Lib.hid (lfS_set ds k d hd10)
                have z0 : (0 : Int) ≤ (d : Int) := by omega
                have z1 : (d : Int) < 10 := by omega
                generalize (lfS ds k d).getD d 0 = y at *
                generalize dn ((k : Int) + 1) d = x at *
                have HOO := Lib.hid ho
                have HGG := Lib.hid hg
                clear ho hg
                go_wp2
                go_roundw
                case rel => exact ⟨d + 1, by omega, by go_num, by rw [← HST.out]; exact OwnI.set HOO.out (ten_len _) d (y - x), grownBy_set HGG.out⟩
                case measure => simp [intOf]; omega
              · obtain rfl : d = 10 := by omega
                have HOO := Lib.hid (show OwnI wr BL (.slice (some ⟨gL, 0, none⟩) 10 cL) (lfR ds ((k : Int) + 1)) by rw [← lfS_ten]; exact ho)
                have HBB := Lib.hid (show Below w.heap.size w wr from Below.grown HBN.out hg HBN.out.size (fun j hj => by simp [Value.ownBlock] at hj; omega))
                have hszr := hg.size
                clear ho hg
                go_wp2
                go_roundw
                case rel => exact ⟨k + 1, by have := HKL.out; omega, by go_num, by push_cast; exact HOO.out, HBB.out, fun g hg => by (simp [Value.ownBlock] at hg); omega⟩
                case measure => simp [intOf]; have := HKL.out; omega
end Go.Proofs
