/-
  Chapter 8: lengths of plans, both sides (impl.farthestOf, LengthOfPlan, LengthWithoutBack; spec.LengthOfPlan, LengthWithoutBack).
-/
import Derived.Test.YtjocipddffillaaBgJ
import Derived.Test.YtjocipddffillaaBgI
namespace Go.Proofs
open Go.RowKit Bg
set_option linter.unusedVariables false
set_option linter.unusedSimpArgs false
theorem tb_rep {f : Nat → Int} {n : Nat} (h : ∀ i, i < n → f i = 0) : tb f n = List.replicate n 0 := by
  apply List.ext_getElem
  · simp [tb]
  · intro j h1 h2
    simp only [tb, List.getElem_map, List.getElem_range, List.getElem_replicate]
    exact h j (by simpa [tb] using h1)
def FoRel (f : Nat → Int) (pl : List Int) (N : Nat) (w : World) (i : Value) (wr : World) : Prop := ∃ k : Nat, k ≤ pl.length ∧ i = .int .i64 k ∧ OwnI wr w.heap.size (.slice (some ⟨w.heap.size, 0, none⟩) N N) (tb (faN f pl k) N) ∧ Below w.heap.size w wr
set_option maxRecDepth 100000 in
set_option maxHeartbeats 1600000 in
theorem Try.farthestOf (w : World) (B B' : Nat) (v v' : Value) (ps : List Pi2) (pl : List Int) (hg : GoodB ps) (hlen : pl.length = ps.length) (hrg : RgUp pl pl.length) (h : OwnP 55 w B v ps) (h' : OwnI w B' v' pl) :
    Calls Try.prog 65 #[v, v'] w fun e w' => ∃ u, e = .returned u ∧ OwnI w' w.heap.size u (farB ps pl) ∧ Below w.heap.size w w' := by
  have mixed : Try.prog.follows .mixedOrders = true := by kernel_rfl
  have hl8 := hg.1
  have HCT := Lib.hid (Try.countTrips w B' v' pl (by omega) (by omega) hrg h')
  have hcl := cnt_le pl pl.length
  have hlt0 := rg_lt hrg
  unfold farB
  obtain ⟨N, hN⟩ : ∃ N, cntN pl pl.length = N := ⟨_, rfl⟩
  rw [hN] at HCT hcl hlt0 ⊢
  obtain ⟨A', c', rfl, h'⟩ := h'.eta
  obtain ⟨g', rfl⟩ := h'.addr (by omega)
  rcases h.view with ⟨rfl, _⟩ | ⟨hpos, g, c, rfl, _, _, _, _, hc, _⟩
  · simp at hl8
  obtain ⟨i0, hi, hz0, hz1, hz2⟩ := info_parts Try.infoI2
  have HII := Lib.hid hi
  have HO := Lib.hid h'
  have HC := Lib.hid hc
  have HR := Lib.hid hrg
  have HLT := Lib.hid hlt0
  have HLEN := Lib.hid hlen
  have hN8 : N ≤ 8 := by omega
  clear h h' hc hi hrg hN hlt0 hlen
  go_enter Try.func65, Try.ntmps65
  go_wp2_with (first | (go_at_call 90; refine HCT.out.mono ?_; rintro e w0 ⟨rfl, rfl⟩) | (at_make; refine wpList_make_full _ rfl _ _ 29 rfl w.heap.size 3 i0 (.int .i64 0) 1 Try.underlying29 HII.out hz0 hz1 .i64 .i64 _ _ N rfl rfl (by rfl) (by rfl) (by rw [hz2]; omega) (by unfold maxLen; omega) (Nat.le_refl _) ?_; intro w1 hown1 hgr1))
  have hb1 : Below w.heap.size w w1 := (Below.refl _ w).grown hgr1 (Nat.le_refl _) (by simp)
  have ho1 : OwnI w1 w.heap.size (.slice (some ⟨w.heap.size, 0, none⟩) N N) (tb (faN (houF ps) pl 0) N) := by
    rw [tb_rep (f := faN (houF ps) pl 0) (fun i _ => rfl)]
    unfold OwnI
    rw [List.length_replicate]
    simpa [Value.cells, toList_madeCells_one] using hown1
  have HO1 := Lib.hid ho1
  have HB1 := Lib.hid hb1
  clear hown1 hgr1 ho1 hb1
  go_loopw [6, 7, 13] (fun _ _ i wr => FoRel (houF ps) pl N w i wr) (fun _ _ i _ => (pl.length - intOf i).toNat)
  case atStart => exact ⟨0, Nat.zero_le _, rfl, HO1.out, HB1.out⟩
  case round =>
    obtain ⟨k, hk, rfl, o5, hb'⟩ := hrel
    by_cases hlt : k < pl.length
    · have e0 := cell_k2 hb' (HO.out.at rfl k hlt).1
      have e1 := cell_k2 hb' (HC.out k (by have := HLEN.out; omega)).1
      obtain ⟨t, ht⟩ : ∃ t : Nat, pl.getD k 0 = (t : Int) := ⟨(pl.getD k 0).toNat, by have := HR.out k hlt; omega⟩
      have htN : t < N := by have := HLT.out k hlt; rw [ht] at this; omega
      have hrow := fa_row (f := houF ps) ht htN
      have hval : houF ps k = (ps.getD k (0, 0)).1 := rfl
      have z0 : (0 : Int) ≤ (k : Int) := by omega
      have z1 : (k : Int) < (pl.length : Int) := by omega
      have z2 : (k : Int) < (ps.length : Int) := by have := HLEN.out; omega
      obtain ⟨y, hy⟩ : ∃ y, faN (houF ps) pl k t = y := ⟨_, rfl⟩
      rw [hval] at hrow
      rw [ht] at e0
      rw [hy] at hrow
      have c0 := o5.at (tb_len _ _) t htN
      rw [tb_get _ _ _ htN, hy] at c0
      have HROW := Lib.hid hrow
      have HB := Lib.hid hb'
      have O5 := Lib.hid o5
      clear hval hrow hy ht o5 hb'
      generalize (ps.getD k (0, 0)).1 = x at *
      have tz0 : (0 : Int) ≤ (t : Int) := by omega
      have tz1 : (t : Int) < (N : Int) := by omega
      have q0 := gr_all (Gr.refl wr) c0.1
      have q1 := gr_all_f (Gr.refl wr) (World.block_lt_of_cell? _ _ c0.1) c0.2
      have q2 := gr_all (Gr.refl wr) e1
      clear c0
      go_wp2
      (refine wp_region_grown_tail 13 mixed (by kernel_rfl) ?_; simp only [List.take_succ_cons, List.take_zero, List.drop_succ_cons, List.drop_zero]; (repeat (first | go_big_quiet_step ((fail)) | quiet_step ((fail)))); refine wpQuiet_nil ?_; intro _ hw'; obtain ⟨⟨nq, osq⟩, hw''⟩ := hw'; subst hw'')
      have q0' := q0 nq osq
      have q1' := q1 nq osq
      clear q0 q1 q2
      go_wp2
      have gg : Gr wr (Go.Sort.grow (wr.drewN nq) osq) := Gr.grow (Gr.drewN (Gr.refl _) nq) osq
      go_roundw
      case rel =>
        refine ⟨k + 1, by omega, by go_num, ?_, Below.setCell (HB.out.trans (gg.below.mono HB.out.size)) (Nat.le_refl _) _⟩
        have := OwnI.set (O5.out.gr gg) (tb_len _ _) t (max y x)
        rw [HROW.out] at this
        exact this
      case measure => simp [intOf]; omega
    · obtain rfl : k = pl.length := by omega
      have O5 := Lib.hid o5
      have HB := Lib.hid hb'
      clear o5 hb'
      go_wp2
      go_ret
      exact ⟨_, rfl, O5.out, HB.out⟩
def lenB (ps : List Pi2) (pl : List Int) : Int := lenS (farB ps pl)
def backB (ps : List Pi2) (pl : List Int) : Int := lenS (farB ps pl) - mxN (farB ps pl) (farB ps pl).length
theorem farB_len {ps : List Pi2} {pl : List Int} (hg : GoodB ps) (hlen : pl.length = ps.length) (hrg : RgUp pl pl.length) : 0 < (farB ps pl).length ∧ (farB ps pl).length ≤ 8 := by
  unfold farB
  rw [tb_len]
  have := cnt_le pl pl.length
  have := hg.1
  exact ⟨cnt_pos hrg (by omega), by omega⟩
theorem lenS_in {xs : List Int} (h8 : xs.length ≤ 8) (h : ∀ k, k < xs.length → 0 ≤ xs.getD k 0 ∧ xs.getD k 0 ≤ 100) : 0 ≤ lenS xs ∧ lenS xs ≤ 1600 := by
  have := smF_in (F := fun k => 2 * xs.getD k 0) (M := 200) (n := xs.length) (fun j hj => by have := h j hj; (try simp only); omega) xs.length (Nat.le_refl _)
  unfold lenS
  omega
theorem mxN_in {xs : List Int} (h : ∀ k, k < xs.length → 0 ≤ xs.getD k 0 ∧ xs.getD k 0 ≤ 100) : 0 ≤ mxN xs xs.length ∧ mxN xs xs.length ≤ 100 := by
  obtain ⟨a, b, c⟩ := mxN_spec xs xs.length
  rcases c with c | ⟨j, hj, c⟩
  · omega
  · have := h j hj; omega
set_option maxHeartbeats 1600000 in
theorem Try.sLengthOfPlan (w : World) (B B' : Nat) (v v' : Value) (ps : List Pi2) (pl : List Int) (bag : Int) (a p : Bool) (ha : a = true ↔ AskB ps bag) (hp : p = true ↔ PlanB ps bag pl) (hlp : pl.length ≤ 1048576) (hls : ps.length ≤ 1048576) (h : OwnP 55 w B v ps) (h' : OwnI w B' v' pl) :
    Calls Try.prog 31 #[v, .int .i64 bag, v'] w fun e w' => e = .returned (.tuple #[.int .i64 (if (a && p) = true then lenB ps pl else 0), .bool (a && p)]) ∧ Below w.heap.size w w' := by
  have HG := Lib.hid (Try.bgBoth w B B' v v' ps pl bag a p ha hp hlp hls h h')
  cases hr : (a && p)
  · rw [hr] at HG
    obtain ⟨A, c, rfl⟩ := h.sl
    obtain ⟨A', c', rfl⟩ := h'.sl
    clear h h' ha hp hr
    go_enter Try.func31, Try.ntmps31
    go_wp2_with (first | (go_at_call 60; refine HG.out.mono ?_; rintro e w1 ⟨rfl, b1⟩))
    go_ret2
    exact ⟨rfl, b1⟩
  · rw [hr] at HG
    rw [if_pos rfl]
    rw [Bool.and_eq_true] at hr
    have hask := ha.1 hr.1
    have hpl := hp.1 hr.2
    have hlen := hpl.1
    have hfl := farB_len hask.1 hpl.1 hpl.2.1
    have hin := farB_in hask.1 pl
    have HL := Lib.hid (fun W (bl : Below w.heap.size w W) => Try.bgLength W B B' v v' ps pl hask.1 hpl.1 hpl.2.1 (h.below bl (Nat.le_refl _)) (h'.below bl (Nat.le_refl _)))
    have hq1 := lenS_in hfl.2 hin
    have hq2 := mxN_in hin
    unfold lenB
    generalize lenS (farB ps pl) = s at *
    generalize mxN (farB ps pl) (farB ps pl).length = m at *
    have wsm : IntKind.i64.wrap (s - m) = s - m := IntWalk.i64_in _ (by omega)
    clear hin hfl
    obtain ⟨A, c, rfl⟩ := h.sl
    obtain ⟨A', c', rfl⟩ := h'.sl
    clear h h' ha hp hr hask hpl hlen
    go_enter Try.func31, Try.ntmps31
    go_wp2_with (first | (go_at_call 60; refine HG.out.mono ?_; rintro e w1 ⟨rfl, b1⟩) | (go_at_call 63; refine (HL.out _ b1).mono ?_; rintro e w2 ⟨rfl, b2⟩))
    go_ret2
    exact ⟨rfl, b1.trans (b2.mono b1.size)⟩
set_option maxHeartbeats 1600000 in
theorem Try.sLengthWithoutBack (w : World) (B B' : Nat) (v v' : Value) (ps : List Pi2) (pl : List Int) (bag : Int) (a p : Bool) (ha : a = true ↔ AskB ps bag) (hp : p = true ↔ PlanB ps bag pl) (hlp : pl.length ≤ 1048576) (hls : ps.length ≤ 1048576) (h : OwnP 55 w B v ps) (h' : OwnI w B' v' pl) :
    Calls Try.prog 33 #[v, .int .i64 bag, v'] w fun e w' => e = .returned (.tuple #[.int .i64 (if (a && p) = true then backB ps pl else 0), .bool (a && p)]) ∧ Below w.heap.size w w' := by
  have HG := Lib.hid (Try.bgBoth w B B' v v' ps pl bag a p ha hp hlp hls h h')
  cases hr : (a && p)
  · rw [hr] at HG
    obtain ⟨A, c, rfl⟩ := h.sl
    obtain ⟨A', c', rfl⟩ := h'.sl
    clear h h' ha hp hr
    go_enter Try.func33, Try.ntmps33
    go_wp2_with (first | (go_at_call 60; refine HG.out.mono ?_; rintro e w1 ⟨rfl, b1⟩))
    go_ret2
    exact ⟨rfl, b1⟩
  · rw [hr] at HG
    rw [if_pos rfl]
    rw [Bool.and_eq_true] at hr
    have hask := ha.1 hr.1
    have hpl := hp.1 hr.2
    have hlen := hpl.1
    have hfl := farB_len hask.1 hpl.1 hpl.2.1
    have hin := farB_in hask.1 pl
    have HL := Lib.hid (fun W (bl : Below w.heap.size w W) => Try.bgLength W B B' v v' ps pl hask.1 hpl.1 hpl.2.1 (h.below bl (Nat.le_refl _)) (h'.below bl (Nat.le_refl _)))
    have hq1 := lenS_in hfl.2 hin
    have hq2 := mxN_in hin
    unfold backB
    generalize lenS (farB ps pl) = s at *
    generalize mxN (farB ps pl) (farB ps pl).length = m at *
    have wsm : IntKind.i64.wrap (s - m) = s - m := IntWalk.i64_in _ (by omega)
    clear hin hfl
    obtain ⟨A, c, rfl⟩ := h.sl
    obtain ⟨A', c', rfl⟩ := h'.sl
    clear h h' ha hp hr hask hpl hlen
    go_enter Try.func33, Try.ntmps33
    go_wp2_with (first | (go_at_call 60; refine HG.out.mono ?_; rintro e w1 ⟨rfl, b1⟩) | (go_at_call 63; refine (HL.out _ b1).mono ?_; rintro e w2 ⟨rfl, b2⟩))
    go_ret2
    exact ⟨rfl, b1.trans (b2.mono b1.size)⟩
set_option maxHeartbeats 1600000 in
theorem Try.iLengthOfPlan (w : World) (B B' : Nat) (v v' : Value) (ps : List Pi2) (pl : List Int) (bag : Int) (a p : Bool) (ha : a = true ↔ AskB ps bag) (hp : p = true ↔ PlanB ps bag pl) (hlp : pl.length ≤ 1048576) (hls : ps.length ≤ 1048576) (h : OwnP 55 w B v ps) (h' : OwnI w B' v' pl) :
    Calls Try.prog 32 #[v, .int .i64 bag, v'] w fun e w' => e = .returned (.tuple #[.int .i64 (if (a && p) = true then lenB ps pl else 0), .bool (a && p)]) ∧ Below w.heap.size w w' := by
  have HG := Lib.hid (Try.havePlan w B B' v v' ps pl bag a p ha hp hlp hls h h')
  cases hr : (a && p)
  · rw [hr] at HG
    obtain ⟨A, c, rfl⟩ := h.sl
    obtain ⟨A', c', rfl⟩ := h'.sl
    clear h h' ha hp hr
    go_enter Try.func32, Try.ntmps32
    go_wp2_with (first | (go_at_call 58; refine HG.out.mono ?_; rintro e w1 ⟨rfl, b1⟩))
    go_ret2
    exact ⟨rfl, b1⟩
  · rw [hr] at HG
    rw [if_pos rfl]
    rw [Bool.and_eq_true] at hr
    have hask := ha.1 hr.1
    have hpl := hp.1 hr.2
    have hlen := hpl.1
    have hfl := farB_len hask.1 hpl.1 hpl.2.1
    have hin := farB_in hask.1 pl
    have HF := Lib.hid (fun W (bl : Below w.heap.size w W) => Try.farthestOf W B B' v v' ps pl hask.1 hpl.1 hpl.2.1 (h.below bl (Nat.le_refl _)) (h'.below bl (Nat.le_refl _)))
    have HLN := Lib.hid (fun W C u (o : OwnI W C u (farB ps pl)) => Try.lengthOf (farB ps pl) W C u o (by omega) (fun k hk => by have := hin k hk; omega))
    have HMX := Lib.hid (fun W C u (o : OwnI W C u (farB ps pl)) => Try.maxI W C u (farB ps pl) hfl.1 (by omega) o)
    have hq1 := lenS_in hfl.2 hin
    have hq2 := mxN_in hin
    rw [mxN_max hfl.1 (fun j hj => (hin j hj).1)] at HMX
    unfold lenB
    generalize lenS (farB ps pl) = s at *
    generalize mxN (farB ps pl) (farB ps pl).length = m at *
    generalize farB ps pl = T at *
    have wsm : IntKind.i64.wrap (s - m) = s - m := IntWalk.i64_in _ (by omega)
    clear hin hfl
    obtain ⟨A, c, rfl⟩ := h.sl
    obtain ⟨A', c', rfl⟩ := h'.sl
    clear h h' ha hp hr hask hpl hlen
    go_enter Try.func32, Try.ntmps32
    go_wp2_with (first | (go_at_call 58; refine HG.out.mono ?_; rintro e w1 ⟨rfl, b1⟩) | (go_at_call 65; refine (HF.out _ b1).mono ?_; rintro e w2 ⟨v2, rfl, o2, b2⟩; have OO := Lib.hid o2) | (go_at_call 64; refine (HLN.out _ _ _ OO.out).mono ?_; rintro e w3 ⟨rfl, g3⟩; have OP := Lib.hid (OO.out.gr g3)) | (go_at_call 66; refine (HMX.out _ _ _ OP.out).mono ?_; rintro e w4 ⟨rfl, rfl⟩))
    go_ret2
    exact ⟨rfl, (b1.trans (b2.mono b1.size)).trans (g3.below.mono (b1.trans (b2.mono b1.size)).size)⟩
set_option maxHeartbeats 1600000 in
theorem Try.iLengthWithoutBack (w : World) (B B' : Nat) (v v' : Value) (ps : List Pi2) (pl : List Int) (bag : Int) (a p : Bool) (ha : a = true ↔ AskB ps bag) (hp : p = true ↔ PlanB ps bag pl) (hlp : pl.length ≤ 1048576) (hls : ps.length ≤ 1048576) (h : OwnP 55 w B v ps) (h' : OwnI w B' v' pl) :
    Calls Try.prog 34 #[v, .int .i64 bag, v'] w fun e w' => e = .returned (.tuple #[.int .i64 (if (a && p) = true then backB ps pl else 0), .bool (a && p)]) ∧ Below w.heap.size w w' := by
  have HG := Lib.hid (Try.havePlan w B B' v v' ps pl bag a p ha hp hlp hls h h')
  cases hr : (a && p)
  · rw [hr] at HG
    obtain ⟨A, c, rfl⟩ := h.sl
    obtain ⟨A', c', rfl⟩ := h'.sl
    clear h h' ha hp hr
    go_enter Try.func34, Try.ntmps34
    go_wp2_with (first | (go_at_call 58; refine HG.out.mono ?_; rintro e w1 ⟨rfl, b1⟩))
    go_ret2
    exact ⟨rfl, b1⟩
  · rw [hr] at HG
    rw [if_pos rfl]
    rw [Bool.and_eq_true] at hr
    have hask := ha.1 hr.1
    have hpl := hp.1 hr.2
    have hlen := hpl.1
    have hfl := farB_len hask.1 hpl.1 hpl.2.1
    have hin := farB_in hask.1 pl
    have HF := Lib.hid (fun W (bl : Below w.heap.size w W) => Try.farthestOf W B B' v v' ps pl hask.1 hpl.1 hpl.2.1 (h.below bl (Nat.le_refl _)) (h'.below bl (Nat.le_refl _)))
    have HLN := Lib.hid (fun W C u (o : OwnI W C u (farB ps pl)) => Try.lengthOf (farB ps pl) W C u o (by omega) (fun k hk => by have := hin k hk; omega))
    have HMX := Lib.hid (fun W C u (o : OwnI W C u (farB ps pl)) => Try.maxI W C u (farB ps pl) hfl.1 (by omega) o)
    have hq1 := lenS_in hfl.2 hin
    have hq2 := mxN_in hin
    rw [mxN_max hfl.1 (fun j hj => (hin j hj).1)] at HMX
    unfold backB
    generalize lenS (farB ps pl) = s at *
    generalize mxN (farB ps pl) (farB ps pl).length = m at *
    generalize farB ps pl = T at *
    have wsm : IntKind.i64.wrap (s - m) = s - m := IntWalk.i64_in _ (by omega)
    clear hin hfl
    obtain ⟨A, c, rfl⟩ := h.sl
    obtain ⟨A', c', rfl⟩ := h'.sl
    clear h h' ha hp hr hask hpl hlen
    go_enter Try.func34, Try.ntmps34
    go_wp2_with (first | (go_at_call 58; refine HG.out.mono ?_; rintro e w1 ⟨rfl, b1⟩) | (go_at_call 65; refine (HF.out _ b1).mono ?_; rintro e w2 ⟨v2, rfl, o2, b2⟩; have OO := Lib.hid o2) | (go_at_call 64; refine (HLN.out _ _ _ OO.out).mono ?_; rintro e w3 ⟨rfl, g3⟩; have OP := Lib.hid (OO.out.gr g3)) | (go_at_call 66; refine (HMX.out _ _ _ OP.out).mono ?_; rintro e w4 ⟨rfl, rfl⟩))
    go_ret2
    exact ⟨rfl, (b1.trans (b2.mono b1.size)).trans (g3.below.mono (b1.trans (b2.mono b1.size)).size)⟩
end Go.Proofs
