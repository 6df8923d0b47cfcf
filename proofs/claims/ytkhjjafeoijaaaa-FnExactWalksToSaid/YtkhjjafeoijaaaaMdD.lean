/-
  Contracts of chapter 5, the program: the function that tells sums (impl.sumsIn and its closure), sums of all.
-/
import Derived.Test.YtkhjjafeoijaaaaMdC
namespace Go.Proofs
open Go.RowKit
set_option linter.unusedVariables false
set_option linter.unusedSimpArgs false
def hdf (xs : List Int) (fo : Nat) (i : Nat) : Int := gx xs (fo + i)
def stf (xs bs : List Int) (fo : Nat) (i : Nat) : Int := gx xs (fo + i) * avv (((fo : Int) + (i : Int)) - near bs ((fo : Int) + (i : Int)))
theorem hdf_bd {xs : List Int} (hg : GoodP xs) (fo i : Nat) : 0 ≤ hdf xs fo i ∧ hdf xs fo i ≤ 1000 := hg.bd _
theorem near_bd {bs : List Int} {h : Int} (h0 : 0 < bs.length) (hb : ∀ j, j < bs.length → -200 ≤ gx bs j ∧ gx bs j ≤ 200) : -200 ≤ near bs h ∧ near bs h ≤ 200 := by
  obtain ⟨j, hj, e⟩ := nearN_in bs h bs.length (Nat.le_refl _) h0
  unfold near
  rw [e]
  exact hb j hj
theorem stf_bd {xs bs : List Int} (hg : GoodP xs) (h0 : 0 < bs.length) (hb : ∀ j, j < bs.length → -200 ≤ gx bs j ∧ gx bs j ≤ 200) (fo i : Nat) (hi : fo + i < xs.length) : 0 ≤ stf xs bs fo i ∧ stf xs bs fo i ≤ 300000 := by
  have a := hg.bd (fo + i)
  have c := hg.1.2
  have d := near_bd (h := (fo : Int) + (i : Int)) h0 hb
  exact mul_bd a.1 a.2 (avv_nn _) (avv_le (K := 300) (by omega) (by omega))
/-- part of the people, as it can be read -/
def PartRow (w : World) (v : Value) (xs : List Int) (fo n : Nat) : Prop := ∃ g c, v = .slice (some ⟨g, fo, none⟩) n c ∧ fo + n ≤ xs.length ∧ (∀ j, j < n → w.cell? ⟨g, fo + j, none⟩ = some (.int .i64 (gx xs (fo + j))))
theorem PartRow.gr {w w' : World} {v : Value} {xs : List Int} {fo n : Nat} (h : PartRow w v xs fo n) (g : Gr w w') : PartRow w' v xs fo n := by
  obtain ⟨a, c, e, h0, h1⟩ := h
  exact ⟨a, c, e, h0, fun j hj => g.keep2 (h1 j hj)⟩
def Try.STRel (xs bs : List Int) (fo n : Nat) (w : World) (i : Value) (wr : World) : Prop :=
  ∃ k : Nat, k ≤ n ∧ i = .int .i64 k ∧ Gr (w.alloc (.cells #[.int .i64 0, .int .i64 0] 56)) wr ∧ wr.cell? ⟨w.heap.size + 1, 0, none⟩ = some (.int .i64 (sumF (hdf xs fo) k)) ∧ wr.cell? ⟨w.heap.size + 1, 1, none⟩ = some (.int .i64 (sumF (stf xs bs fo) k)) ∧
    wr.frozen? ⟨w.heap.size + 1, 0, none⟩ = false ∧ wr.frozen? ⟨w.heap.size + 1, 1, none⟩ = false
set_option maxRecDepth 100000 in
set_option maxHeartbeats 1600000 in
theorem Try.sumsFn (w : World) (v vp : Value) (bs xs : List Int) (fo n bp bf : Nat) (hg : GoodP xs) (hr : BoxRow w v bs) (hp : PartRow w vp xs fo n)
    (h1 : w.cell? ⟨bp, 0, none⟩ = some vp) (h2 : w.cell? ⟨bf, 0, none⟩ = some (.int .i64 (fo : Int))) :
    Calls Try.prog 96 (#[v] ++ #[.pointer (some ⟨bp, 0, none⟩), .pointer (some ⟨bf, 0, none⟩)]) w fun e w' => e = .returned (.agg #[.int .i64 (sumF (hdf xs fo) n), .int .i64 (sumF (stf xs bs fo) n)]) ∧ Gr w w' := by
  have mixed : Try.prog.follows .mixedOrders = true := by kernel_rfl
  obtain ⟨g, c, rfl, hn, hc⟩ := hp
  have HR := Lib.hid hr
  obtain ⟨gb, cb, rfl, hb0, hb1, hb2, hb3⟩ := hr
  have hxl := hg.1.2
  have HC := Lib.hid hc
  have HX := Lib.hid hg
  have HB := Lib.hid hb3
  have H2 := Lib.hid h2
  have HA := Lib.hid (show sumF (hdf xs fo) n = sumF (hdf xs fo) n from rfl)
  obtain ⟨R1, hR1⟩ : ∃ R, sumF (hdf xs fo) n = R := ⟨_, rfl⟩
  obtain ⟨R2, hR2⟩ : ∃ R, sumF (stf xs bs fo) n = R := ⟨_, rfl⟩
  rw [hR1, hR2]
  have HR1 := Lib.hid hR1
  have HR2 := Lib.hid hR2
  have sz0 : bf < w.heap.size := World.block_lt_of_cell? _ _ h2
  have sz1 : bp < w.heap.size := World.block_lt_of_cell? _ _ h1
  clear hg hc hb2 hb3 hR1 hR2 HA h2
  go_enter Try.func96, Try.ntmps96
  go_wp2
  go_loopw [10] (fun i wr => Try.STRel xs bs fo n w i wr) (fun i _ => (n - intOf i).toNat)
  case atStart =>
    refine ⟨0, Nat.zero_le _, rfl, by repeat (first | exact Gr.refl _ | refine Gr.alloc ?_ _ | refine Gr.trans ?_ (by assumption) | refine Gr.drew ?_ | refine Gr.drewN ?_ _ | refine Gr.grow ?_ _ | refine Gr.setCell ?_ (by (try simp); (try omega)) _), ?_, ?_, ?_, ?_⟩
    · simp [go_sem, sumF]
    · simp [go_sem, sumF]
    · simp [go_sem]
    · simp [go_sem]
  case round =>
    obtain ⟨k, hk, rfl, gr, t0, t1, t2, t3⟩ := hrel
    have grw : Gr w wr := (Gr.alloc (Gr.refl w) _).trans gr
    have HG := Lib.hid gr
    have szr : w.heap.size + 1 < wr.heap.size := World.block_lt_of_cell? _ _ t0
    by_cases hlt : k < n
    · have e1 := grw.keep2 (HC.out k hlt)
      have z0 : (0 : Int) ≤ (k : Int) := by omega
      have z1 : (k : Int) < (n : Int) := by omega
      have hs := sumF_bd (f := hdf xs fo) (n := k) (K := 1000) (fun i _ => hdf_bd HX.out fo i)
      have hs2 := sumF_bd (f := stf xs bs fo) (n := k) (K := 300000) (fun i hi => stf_bd HX.out hb0 HB.out fo i (by omega))
      have hy := hdf_bd HX.out fo k
      have hp := stf_bd HX.out hb0 HB.out fo k (by omega)
      have HN1 := Lib.hid (sumF_succ (hdf xs fo) k)
      have HN2 := Lib.hid (sumF_succ (stf xs bs fo) k)
      have hm : stf xs bs fo k = gx xs (fo + k) * avv (((fo : Int) + (k : Int)) - near bs ((fo : Int) + (k : Int))) := rfl
      have hm1 : hdf xs fo k = gx xs (fo + k) := rfl
      have wf : IntKind.i64.wrap ((fo : Int) + (k : Int)) = (fo : Int) + (k : Int) := IntWalk.i64_in _ (by omega)
      have nb := near_bd (h := (fo : Int) + (k : Int)) hb0 HB.out
      have HNB := Lib.hid (fun W (g : Gr w W) => Try.nearestBox W _ bs ((fo : Int) + (k : Int)) (HR.out.gr g) (by omega))
      generalize near bs ((fo : Int) + (k : Int)) = nr at *
      have HSA := Lib.hid (fun W => Try.stepsApart ((fo : Int) + (k : Int)) nr W (by omega) (by omega))
      generalize avv (((fo : Int) + (k : Int)) - nr) = d at *
      rw [← hm1] at hm e1
      clear hm1
      generalize hdf xs fo k = y at *
      generalize stf xs bs fo k = p at *
      generalize sumF (hdf xs fo) k = s1 at *
      generalize sumF (stf xs bs fo) k = s2 at *
      have wm : IntKind.i64.wrap (y * d) = p := by rw [← hm]; exact IntWalk.i64_in _ (by omega)
      have ws1 : IntKind.i64.wrap (s1 + y) = s1 + y := IntWalk.i64_in _ (by omega)
      have ws2 : IntKind.i64.wrap (s2 + p) = s2 + p := IntWalk.i64_in _ (by omega)
      have e2 := grw.keep2 H2.out
      have e3 := grw.keep2 h1
      clear gr hm
      go_wp2_with fail
      obtain ⟨wx, hwx⟩ : ∃ wx, wr.setCell ⟨w.heap.size + 1, 0, none⟩ (.int .i64 (s1 + y)) = wx := ⟨_, rfl⟩
      have gx : Gr (w.alloc (.cells #[.int .i64 0, .int .i64 0] 56)) wx := by rw [← hwx]; exact Gr.setCell HG.out (by simp) _
      have u0 : wx.cell? ⟨w.heap.size + 1, 0, none⟩ = some (.int .i64 (s1 + y)) := by rw [← hwx]; exact World.cell?_setCell_same _ _ _ t0
      have u1 : wx.cell? ⟨w.heap.size + 1, 1, none⟩ = some (.int .i64 s2) := by rw [← hwx, World.cell?_setCell_other _ ⟨w.heap.size + 1, 0, none⟩ ⟨w.heap.size + 1, 1, none⟩ _ (by simp)]; exact t1
      have u2 : wx.frozen? ⟨w.heap.size + 1, 0, none⟩ = false := by rw [← hwx]; simpa using t2
      have u3 : wx.frozen? ⟨w.heap.size + 1, 1, none⟩ = false := by rw [← hwx]; simpa using t3
      simp only [hwx]
      have gwx : Gr w wx := (Gr.alloc (Gr.refl w) _).trans gx
      have v2 := gwx.keep2 H2.out
      have szx : w.heap.size + 1 < wx.heap.size := World.block_lt_of_cell? _ _ u0
      have q1 := gr_all (Gr.refl wx) u1
      have q2 := gr_all (Gr.refl wx) v2
      have q3 := gr_all_f (Gr.refl wx) szx u3
      have U0 := Lib.hid u0
      have U1 := Lib.hid u1
      have U2 := Lib.hid u2
      have U3 := Lib.hid u3
      have GX := Lib.hid gx
      have GWX := Lib.hid gwx
      clear hwx gx u0 u1 u2 u3 gwx v2 t0 t1 t2 t3 e1 e2 e3 grw
      (refine wp_region_grown_tail 15 mixed (by kernel_rfl) ?_; simp only [List.take_succ_cons, List.take_zero, List.drop_succ_cons, List.drop_zero]; (repeat (first | go_big_quiet_step ((first | (go_at_call 39; exact Calls.grown_of (HNB.out _ (Gr.grow (Gr.drewN GWX.out _) _))) | (go_at_call 77; exact Calls.grown_of (same_gr (HSA.out _))))) | quiet_step ((first | (go_at_call 39; exact Calls.grown_of (HNB.out _ (Gr.grow (Gr.drewN GWX.out _) _))) | (go_at_call 77; exact Calls.grown_of (same_gr (HSA.out _))))))); refine wpQuiet_nil ?_; intro _ hw'; obtain ⟨⟨nq, osq⟩, hw''⟩ := hw'; subst hw'')
      have q1' := q1 nq osq
      have q3' := q3 nq osq
      clear q1 q2 q3
      go_wp2
      have gg : Gr wx (Go.Sort.grow (wx.drewN nq) osq) := Gr.grow (Gr.drewN (Gr.refl wx) nq) osq
      go_roundw
      case rel =>
        refine ⟨k + 1, by omega, by go_num, Gr.setCell (GX.out.trans gg) (by simp) _, ?_, ?_, ?_, ?_⟩
        · rw [World.cell?_setCell_other _ ⟨w.heap.size + 1, 1, none⟩ ⟨w.heap.size + 1, 0, none⟩ _ (by simp), HN1.out]
          exact gg.keep2 U0.out
        · rw [HN2.out]
          exact World.cell?_setCell_same _ _ _ q1'
        · simpa using ((bcell gg.below).2 _ _ szx).trans U2.out
        · simpa using q3'
      case measure => simp [intOf]; omega
    · obtain rfl : k = n := by omega
      rw [HR1.out] at t0
      rw [HR2.out] at t1
      have r0 : wr.cell? ⟨w.heap.size, 0, none⟩ = some (.int .i64 0) := gr.keep2 (by simp [go_sem])
      have r1 : wr.cell? ⟨w.heap.size, 1, none⟩ = some (.int .i64 0) := gr.keep2 (by simp [go_sem])
      have r2 : wr.frozen? ⟨w.heap.size, 0, none⟩ = false := ((bcell gr.below).2 _ _ (by simp)).trans (by simp [go_sem])
      have r3 : wr.frozen? ⟨w.heap.size, 1, none⟩ = false := ((bcell gr.below).2 _ _ (by simp)).trans (by simp [go_sem])
      have GW := Lib.hid grw
      clear gr grw
      go_wp2
      refine bodyPost_ret (v := .agg #[.int .i64 R1, .int .i64 R2]) ?_ rfl ⟨rfl, ?_⟩
      · simp [results, Try.results96, go_sem, r0, r1, r2, r3]
      · exact Gr.setCell (Gr.setCell GW.out (by simp) _) (by simp) _
end Go.Proofs
