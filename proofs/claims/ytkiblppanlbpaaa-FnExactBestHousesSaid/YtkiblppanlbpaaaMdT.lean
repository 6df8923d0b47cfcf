/-
  Contracts of chapter 5: the longest walk to a house (both sides).
-/
import Derived.Test.YtkiblppanlbpaaaMdS
import Derived.ChangeKeysEq
namespace Go.Proofs
open Go.RowKit
set_option linter.unusedVariables false
set_option linter.unusedSimpArgs false
theorem farN_le {xs : List Int} {h : Int} {i : Int} (i0 : 0 ≤ i) (k : Nat) : farN xs h k ≤ i ↔ ∀ j, j < k → 0 < gx xs j → avv ((j : Int) - h) ≤ i := by
  induction k with
  | zero => simp [farN]; omega
  | succ k ih =>
    unfold farN
    constructor
    · intro hk j hj pj
      rcases Nat.lt_or_eq_of_le (Nat.le_of_lt_succ hj) with c | c
      · refine ih.1 ?_ j c pj
        split at hk
        · rw [Int.max_def] at hk; split at hk <;> omega
        · exact hk
      · subst c
        rw [if_pos pj] at hk
        rw [Int.max_def] at hk; split at hk <;> omega
    · intro hk
      have a := ih.2 (fun j hj pj => hk j (by omega) pj)
      split
      · rename_i pk
        have b := hk k (by omega) pk
        rw [Int.max_def]; split <;> omega
      · exact a
theorem far_part {xs : List Int} {h : Int} (hp : HouseP xs h) (i fo m : Nat) (h1 : max (h - (i : Int)) 0 = (fo : Int)) (h2 : min (h + (i : Int) + 1) (xs.length : Int) = ((fo + m : Nat) : Int)) :
    (farI xs h ≤ (i : Int) → sumF (hdf xs fo) m = heads xs ∧ sumF (stf xs [h] fo) m = boxSum xs [h]) ∧ (¬ farI xs h ≤ (i : Int) → sumF (hdf xs fo) m ≠ heads xs) := by
  obtain ⟨hg, a, b⟩ := hp
  obtain ⟨r, hr⟩ : ∃ r, xs.length = fo + m + r := ⟨xs.length - (fo + m), by omega⟩
  have fe := farN_le (xs := xs) (h := h) (i := (i : Int)) (by omega) xs.length
  have split1 : heads xs = sumF (gx xs) fo + sumF (hdf xs fo) m + sumF (fun t => gx xs (fo + m + t)) r := by
    unfold heads
    rw [hr, sumF_split, sumF_split]
    rfl
  have split2 : boxSum xs [h] = sumF (bwf xs [h]) fo + sumF (stf xs [h] fo) m + sumF (fun t => bwf xs [h] (fo + m + t)) r := by
    unfold boxSum
    rw [hr, sumF_split, sumF_split]
    congr 2
  constructor
  · intro hf
    have all := fe.1 hf
    have z : ∀ j, j < xs.length → (j < fo ∨ fo + m ≤ j) → gx xs j = 0 := fun j hj hc => by
      have bd := hg.bd j
      by_cases p : 0 < gx xs j
      · have := all j hj p
        unfold avv at this
        split at this <;> omega
      · omega
    have a1 : sumF (gx xs) fo = 0 := sumF_zeros fun t ht => z t (by omega) (.inl ht)
    have a2 : sumF (fun t => gx xs (fo + m + t)) r = 0 := sumF_zeros fun t ht => z _ (by omega) (.inr (by omega))
    have a3 : sumF (bwf xs [h]) fo = 0 := sumF_zeros fun t ht => by unfold bwf; rw [z t (by omega) (.inl ht), Int.zero_mul]
    have a4 : sumF (fun t => bwf xs [h] (fo + m + t)) r = 0 := sumF_zeros fun t ht => by unfold bwf; rw [z _ (by omega) (.inr (by omega)), Int.zero_mul]
    omega
  · intro hf
    have ne : ¬ ∀ j, j < xs.length → 0 < gx xs j → avv ((j : Int) - h) ≤ (i : Int) := fun c => hf (fe.2 c)
    obtain ⟨j, hj⟩ := Classical.not_forall.1 ne
    have hj1 : j < xs.length := Classical.byContradiction fun c => hj fun q => absurd q c
    have hj2 : 0 < gx xs j := Classical.byContradiction fun c => hj fun _ q => absurd q c
    have hj3 : ¬ avv ((j : Int) - h) ≤ (i : Int) := fun c => hj fun _ _ => c
    have bd1 := sumF_bd (f := gx xs) (n := fo) (K := 1000) (fun t _ => hg.bd t)
    have bd2 := sumF_bd (f := fun t => gx xs (fo + m + t)) (n := r) (K := 1000) (fun t _ => hg.bd _)
    have out : j < fo ∨ fo + m ≤ j := by unfold avv at hj3; split at hj3 <;> omega
    rcases out with c | c
    · have := (sumF_pos (f := gx xs) (n := fo) (fun t _ => (hg.bd t).1)).2 ⟨j, c, hj2⟩
      omega
    · have := (sumF_pos (f := fun t => gx xs (fo + m + t)) (n := r) (fun t _ => (hg.bd _).1)).2 ⟨j - (fo + m), by omega, by show 0 < gx xs (fo + m + (j - (fo + m))); rw [show fo + m + (j - (fo + m)) = j by omega]; exact hj2⟩
      omega
set_option maxHeartbeats 800000 in
theorem Try.sFarthestTo (w : World) (B : Nat) (v : Value) (xs : List Int) (n : Int) (b : Bool) (hb : b = true ↔ HouseP xs n) (hl : xs.length ≤ 1048576) (h : OwnI w B v xs) :
    Calls Try.prog 27 #[v, .int .i64 n] w fun e w' => e = .returned (.tuple #[.int .i64 (if b then farI xs n else 0), .bool b]) ∧ Gr w w' := by
  have HO := Lib.hid h
  have HH := Lib.hid (Try.mdHouse w B v xs n b hb hl h)
  obtain ⟨A, c, rfl, _⟩ := h.eta
  cases q : b
  · rw [q] at HH
    clear h hb q
    go_enter Try.func27, Try.ntmps27
    go_wp2_with (first | (go_at_call 53; refine (HH.out).mono ?_; rintro e w1 ⟨rfl, hbW⟩; have hcW := (bcell hbW.below).1; have hfW := (bcell hbW.below).2; (try have hzW : w.heap.size < w1.heap.size := by have hq := hbW.below.size; (try simp at hq); omega); (try have hyW : w.heap.size + 1 < w1.heap.size := by have hq := hbW.below.size; (try simp at hq); omega); (try have hxW : w.heap.size + 2 < w1.heap.size := by have hq := hbW.below.size; (try simp at hq); omega)))
    go_ret2
    exact ⟨rfl, by repeat (first | exact Gr.refl _ | refine Gr.alloc ?_ _ | refine Gr.trans ?_ (by assumption) | refine Gr.drew ?_ | refine Gr.drewN ?_ _ | refine Gr.grow ?_ _ | refine Gr.setCell ?_ (by (try simp); (try omega)) _)⟩
  · rw [q] at HH
    obtain ⟨hg, h0, h1⟩ := hb.1 q
    have h2 := hg.1.2
    have HW := Lib.hid (fun w1 (g : Gr w w1) => Try.mdFar w1 B _ xs n hg h0 (by omega) (HO.out.gr g))
    rw [if_pos rfl]
    generalize farI xs n = R at *
    clear h hb q hg
    go_enter Try.func27, Try.ntmps27
    go_wp2_with (first | (go_at_call 53; refine (HH.out).mono ?_; rintro e w1 ⟨rfl, hbW⟩; have hcW := (bcell hbW.below).1; have hfW := (bcell hbW.below).2; (try have hzW : w.heap.size < w1.heap.size := by have hq := hbW.below.size; (try simp at hq); omega); (try have hyW : w.heap.size + 1 < w1.heap.size := by have hq := hbW.below.size; (try simp at hq); omega); (try have hxW : w.heap.size + 2 < w1.heap.size := by have hq := hbW.below.size; (try simp at hq); omega)) | (go_at_call 58; refine (HW.out _ (by assumption)).mono ?_; rintro e w1 ⟨rfl, hbW⟩; have hcW := (bcell hbW.below).1; have hfW := (bcell hbW.below).2; (try have hzW : w.heap.size < w1.heap.size := by have hq := hbW.below.size; (try simp at hq); omega); (try have hyW : w.heap.size + 1 < w1.heap.size := by have hq := hbW.below.size; (try simp at hq); omega); (try have hxW : w.heap.size + 2 < w1.heap.size := by have hq := hbW.below.size; (try simp at hq); omega)))
    go_ret2
    exact ⟨rfl, by repeat (first | exact Gr.refl _ | refine Gr.alloc ?_ _ | refine Gr.trans ?_ (by assumption) | refine Gr.drew ?_ | refine Gr.drewN ?_ _ | refine Gr.grow ?_ _ | refine Gr.setCell ?_ (by (try simp); (try omega)) _)⟩
theorem Try.eqlS (a b c d : Int) (r : Bool) (hr : decide (a = c ∧ b = d) = r) (w : World) : Sem.run Try.prog (Op.equalIn 10000 45 (.agg #[.int .i64 a, .int .i64 b]) (.agg #[.int .i64 c, .int .i64 d])) w = .ok r w := by
  have u3 := Try.underlying3
  have a3 := Try.isAgg3
  have z3 := Try.sizeOf3
  obtain ⟨i, hi⟩ : ∃ i, Try.prog.info? 3 = some i := Option.isSome_iff_exists.1 (by kernel_rfl)
  have hc : Try.prog.cellsOf 3 = 1 := by kernel_rfl
  subst hr
  rw [show (10000 : Nat) = 9999 + 1 from rfl, run_equalIn_array (w := w) 9999 _ _ Try.underlying45 hi, hc, show List.range 2 = [0, 1] from rfl]
  simp only [Op.eqItems]
  go_simp
  by_cases h1 : a = c <;> by_cases h2 : b = d <;> simp [h1, h2]
theorem four_k {w W : World} {a b c d : Addr} {x y z u : Value} (g : Gr w W) (h : w.cell? a = some x ∧ w.cell? b = some y ∧ w.cell? c = some z ∧ w.cell? d = some u) : W.cell? a = some x ∧ W.cell? b = some y ∧ W.cell? c = some z ∧ W.cell? d = some u :=
  ⟨g.keep0 h.1, g.keep0 h.2.1, g.keep0 h.2.2.1, g.keep0 h.2.2.2⟩
theorem box1 {W : World} {g : Nat} {n : Int} (h0 : -200 ≤ n) (h1 : n ≤ 200) (h : W.cell? ⟨g, 0, none⟩ = some (.int .i64 n)) : BoxRow W (.slice (some ⟨g, 0, none⟩) 1 1) [n] :=
  ⟨g, 1, rfl, by simp, by simp, fun j hj => (by obtain rfl : j = 0 := (by simp at hj; exact hj); simpa [gx] using h), fun j hj => (by obtain rfl : j = 0 := (by simp at hj; exact hj); simp [gx]; omega)⟩
set_option maxRecDepth 100000 in
set_option maxHeartbeats 1600000 in
theorem Try.farToCl (w : World) (v : Value) (xs : List Int) (n : Int) (i : Nat) (bp bh ba : Nat) (hH : HouseP xs n) (hi : i ≤ 60) (hp : PplRow w v xs) (h1 : w.cell? ⟨bp, 0, none⟩ = some v) (h2 : w.cell? ⟨bh, 0, none⟩ = some (.int .i64 n))
    (h3 : w.cell? ⟨ba, 0, none⟩ = some (.int .i64 (heads xs))) (h4 : w.cell? ⟨ba, 1, none⟩ = some (.int .i64 (boxSum xs [n]))) :
    Calls Try.prog 62 (#[.int .i64 (i : Int)] ++ #[.pointer (some ⟨bp, 0, none⟩), .pointer (some ⟨bh, 0, none⟩), .pointer (some ⟨ba, 0, none⟩)]) w fun e w' => e = .returned (.bool (decide (farI xs n ≤ (i : Int)))) ∧ Gr w w' := by
  have mixed : Try.prog.follows .mixedOrders = true := by kernel_rfl
  have hxl := hH.1.1
  have hn := hH.2
  have HGD := Lib.hid hH.1
  obtain ⟨fo, hfo⟩ : ∃ fo : Nat, max (n - (i : Int)) 0 = (fo : Int) := ⟨(max (n - (i : Int)) 0).toNat, by rw [Int.max_def]; split <;> omega⟩
  obtain ⟨m, hm, hm0⟩ : ∃ m : Nat, min (n + (i : Int) + 1) (xs.length : Int) = ((fo + m : Nat) : Int) ∧ 0 < m := by
    refine ⟨(min (n + (i : Int) + 1) (xs.length : Int)).toNat - fo, ?_, ?_⟩ <;> omega
  obtain ⟨fp1, fp2⟩ := far_part hH i fo m hfo hm
  have HSI := Lib.hid (fun w1 (g : Gr w w1) => Try.sumsIn w1 v xs (n - (i : Int)) (n + (i : Int) + 1) fo m (hp.gr g) hxl.2 hfo hm hm0)
  have HFN := Lib.hid (fun (W : World) (gb : Nat) (vp : Value) (bp bf : Nat) (hb : W.cell? ⟨gb, 0, none⟩ = some (.int .i64 n)) (hp : PartRow W vp xs fo m) => Try.sumsFn W (.slice (some ⟨gb, 0, none⟩) 1 1) vp [n] xs fo m bp bf HGD.out (box1 (by omega) (by omega) hb) hp)
  have wd1 : IntKind.i64.wrap (n - (i : Int)) = n - (i : Int) := IntWalk.i64_in _ (by omega)
  have wd2 : IntKind.i64.wrap (n + (i : Int)) = n + (i : Int) := IntWalk.i64_in _ (by omega)
  have wd3 : IntKind.i64.wrap (n + (i : Int) + 1) = n + (i : Int) + 1 := IntWalk.i64_in _ (by omega)
  obtain ⟨g, c, rfl, _⟩ := hp
  by_cases hf : farI xs n ≤ (i : Int)
  · obtain ⟨e1, e2⟩ := fp1 hf
    rw [decide_eq_true hf]
    rw [e1, e2] at HFN
    generalize heads xs = H at *
    generalize boxSum xs [n] = T at *
    have hE := fun (X : World) => Try.eqlS H T H T true (by simp) X
    clear fp1 fp2 e1 e2 hf hfo hm hH
    go_enter Try.func62, Try.ntmps62
    go_wp2
    go_region_held3 (fun W' => W'.cell? ⟨bp, 0, none⟩ = some (.slice (some ⟨g, 0, none⟩) xs.length c) ∧ W'.cell? ⟨bh, 0, none⟩ = some (.int .i64 n) ∧ W'.cell? ⟨ba, 0, none⟩ = some (.int .i64 H) ∧ W'.cell? ⟨ba, 1, none⟩ = some (.int .i64 T))
      (exact four_k (w := w) (by repeat (first | exact Gr.refl _ | refine Gr.alloc ?_ _ | refine Gr.trans ?_ (by assumption) | refine Gr.drew ?_ | refine Gr.drewN ?_ _ | refine Gr.grow ?_ _ | refine Gr.setCell ?_ (by (try simp); (try omega)) _)) ⟨h1, h2, h3, h4⟩)
      (first | (go_at_call 63; refine (HSI.out _ (by repeat (first | exact Gr.refl _ | refine Gr.alloc ?_ _ | refine Gr.trans ?_ (by assumption) | refine Gr.drew ?_ | refine Gr.drewN ?_ _ | refine Gr.grow ?_ _ | refine Gr.setCell ?_ (by (try simp); (try omega)) _))).mono ?_; rintro e w2 ⟨bp2, bf2, vp, rfl, g2, p2, c1, c2⟩) | (go_at_call 82; refine (HFN.out _ _ vp bp2 bf2 (by first | (simp [go_sem]; done) | exact g2.keep2 (by simp [go_sem])) (p2.gr (by repeat (first | exact Gr.refl _ | refine Gr.alloc ?_ _ | refine Gr.trans ?_ (by assumption) | refine Gr.drew ?_ | refine Gr.drewN ?_ _ | refine Gr.grow ?_ _ | refine Gr.setCell ?_ (by (try simp); (try omega)) _))) (Gr.keep2 (w := w2) (by repeat (first | exact Gr.refl _ | refine Gr.alloc ?_ _ | refine Gr.trans ?_ (by assumption) | refine Gr.drew ?_ | refine Gr.drewN ?_ _ | refine Gr.grow ?_ _ | refine Gr.setCell ?_ (by (try simp); (try omega)) _)) c1) (Gr.keep2 (w := w2) (by repeat (first | exact Gr.refl _ | refine Gr.alloc ?_ _ | refine Gr.trans ?_ (by assumption) | refine Gr.drew ?_ | refine Gr.drewN ?_ _ | refine Gr.grow ?_ _ | refine Gr.setCell ?_ (by (try simp); (try omega)) _)) c2)).mono ?_; rintro e w3 ⟨rfl, g3⟩))
    all_goals
      go_wp2
      go_ret
      exact ⟨rfl, by repeat (first | exact Gr.refl _ | refine Gr.alloc ?_ _ | refine Gr.trans ?_ (by assumption) | refine Gr.drew ?_ | refine Gr.drewN ?_ _ | refine Gr.grow ?_ _ | refine Gr.setCell ?_ (by (try simp); (try omega)) _)⟩
  · have e1 := fp2 hf
    rw [decide_eq_false hf]
    generalize heads xs = H at *
    generalize boxSum xs [n] = T at *
    generalize sumF (hdf xs fo) m = H2 at *
    generalize sumF (stf xs [n] fo) m = T2 at *
    have hE := fun (X : World) => Try.eqlS H2 T2 H T false (by simp [e1]) X
    clear fp1 fp2 e1 hf hfo hm hH
    go_enter Try.func62, Try.ntmps62
    go_wp2
    go_region_held3 (fun W' => W'.cell? ⟨bp, 0, none⟩ = some (.slice (some ⟨g, 0, none⟩) xs.length c) ∧ W'.cell? ⟨bh, 0, none⟩ = some (.int .i64 n) ∧ W'.cell? ⟨ba, 0, none⟩ = some (.int .i64 H) ∧ W'.cell? ⟨ba, 1, none⟩ = some (.int .i64 T))
      (exact four_k (w := w) (by repeat (first | exact Gr.refl _ | refine Gr.alloc ?_ _ | refine Gr.trans ?_ (by assumption) | refine Gr.drew ?_ | refine Gr.drewN ?_ _ | refine Gr.grow ?_ _ | refine Gr.setCell ?_ (by (try simp); (try omega)) _)) ⟨h1, h2, h3, h4⟩)
      (first | (go_at_call 63; refine (HSI.out _ (by repeat (first | exact Gr.refl _ | refine Gr.alloc ?_ _ | refine Gr.trans ?_ (by assumption) | refine Gr.drew ?_ | refine Gr.drewN ?_ _ | refine Gr.grow ?_ _ | refine Gr.setCell ?_ (by (try simp); (try omega)) _))).mono ?_; rintro e w2 ⟨bp2, bf2, vp, rfl, g2, p2, c1, c2⟩) | (go_at_call 82; refine (HFN.out _ _ vp bp2 bf2 (by first | (simp [go_sem]; done) | exact g2.keep2 (by simp [go_sem])) (p2.gr (by repeat (first | exact Gr.refl _ | refine Gr.alloc ?_ _ | refine Gr.trans ?_ (by assumption) | refine Gr.drew ?_ | refine Gr.drewN ?_ _ | refine Gr.grow ?_ _ | refine Gr.setCell ?_ (by (try simp); (try omega)) _))) (Gr.keep2 (w := w2) (by repeat (first | exact Gr.refl _ | refine Gr.alloc ?_ _ | refine Gr.trans ?_ (by assumption) | refine Gr.drew ?_ | refine Gr.drewN ?_ _ | refine Gr.grow ?_ _ | refine Gr.setCell ?_ (by (try simp); (try omega)) _)) c1) (Gr.keep2 (w := w2) (by repeat (first | exact Gr.refl _ | refine Gr.alloc ?_ _ | refine Gr.trans ?_ (by assumption) | refine Gr.drew ?_ | refine Gr.drewN ?_ _ | refine Gr.grow ?_ _ | refine Gr.setCell ?_ (by (try simp); (try omega)) _)) c2)).mono ?_; rintro e w3 ⟨rfl, g3⟩))
    all_goals
      go_wp2
      go_ret
      exact ⟨rfl, by repeat (first | exact Gr.refl _ | refine Gr.alloc ?_ _ | refine Gr.trans ?_ (by assumption) | refine Gr.drew ?_ | refine Gr.drewN ?_ _ | refine Gr.grow ?_ _ | refine Gr.setCell ?_ (by (try simp); (try omega)) _)⟩
theorem farI_bd {xs : List Int} {n : Int} (h : HouseP xs n) : 0 ≤ farI xs n ∧ farI xs n ≤ 59 := by
  have := h.1.1
  have := h.2
  exact farN_bd xs n (by omega) (by omega) xs.length (by omega)
set_option maxHeartbeats 1600000 in
theorem Try.iFarthestTo (w : World) (B : Nat) (v : Value) (xs : List Int) (n : Int) (b : Bool) (hb : b = true ↔ HouseP xs n) (hl : xs.length ≤ 1048576) (h : OwnI w B v xs) :
    Calls Try.prog 28 #[v, .int .i64 n] w fun e w' => e = .returned (.tuple #[.int .i64 (if b then farI xs n else 0), .bool b]) ∧ Gr w w' := by
  have HH := Lib.hid (fun W (g : Gr w W) => Try.haveHouse W B v xs n b hb hl (h.gr g))
  cases q : b
  · rw [q] at HH
    obtain ⟨A, c, rfl, _⟩ := h.eta
    clear h hb q
    go_enter Try.func28, Try.ntmps28
    go_wp2_with (first | (go_at_call 59; refine (HH.out _ (Gr.alloc (Gr.alloc (Gr.refl _) _) _)).mono ?_; rintro e w1 ⟨rfl, hbW⟩; have hcW := (bcell hbW.below).1; have hfW := (bcell hbW.below).2; (try have hzW : w.heap.size < w1.heap.size := by have hq := hbW.below.size; (try simp at hq); omega); (try have hyW : w.heap.size + 1 < w1.heap.size := by have hq := hbW.below.size; (try simp at hq); omega); (try have hxW : w.heap.size + 2 < w1.heap.size := by have hq := hbW.below.size; (try simp at hq); omega)))
    go_ret2
    exact ⟨rfl, by repeat (first | exact Gr.refl _ | refine Gr.alloc ?_ _ | refine Gr.trans ?_ (by assumption) | refine Gr.drew ?_ | refine Gr.drewN ?_ _ | refine Gr.grow ?_ _ | refine Gr.setCell ?_ (by (try simp); (try omega)) _)⟩
  · rw [q] at HH
    have hP := hb.1 q
    have hfb := farI_bd hP
    have hpp := h.ppl hP.1.1.1
    have hxl := hP.1.1.2
    have hn := hP.2
    obtain ⟨W0, hW0⟩ : ∃ W0, W0 = (w.alloc (.cells #[v] 22)).alloc (.cells #[.int .i64 n] 3) := ⟨_, rfl⟩
    have g0 : Gr w W0 := by rw [hW0]; exact Gr.alloc (Gr.alloc (Gr.refl _) _) _
    have ca : W0.cell? ⟨w.heap.size, 0, none⟩ = some v := by rw [hW0]; simp [go_sem]
    have cb : W0.cell? ⟨w.heap.size + 1, 0, none⟩ = some (.int .i64 n) := by rw [hW0]; simp [go_sem]
    have eg : ∀ args w, (callFunc 62 args).run Try.prog w = .ok (.enter 62 args) w := enters_of Try.func62 (by kernel_rfl) rfl
    have HS := Lib.hid (fun (W : World) (ba : Nat) (g : Gr W0 W) (k1 : W.cell? ⟨ba, 0, none⟩ = some (.int .i64 (heads xs))) (k2 : W.cell? ⟨ba, 1, none⟩ = some (.int .i64 (boxSum xs [n]))) =>
      Try.searchM 62 #[.pointer (some ⟨w.heap.size, 0, none⟩), .pointer (some ⟨w.heap.size + 1, 0, none⟩), .pointer (some ⟨ba, 0, none⟩)] 60 (farI xs n) W (by omega) (by omega) (by omega) eg (fun W' i g' i0 i1 => by
        obtain ⟨k, rfl⟩ : ∃ k : Nat, i = (k : Int) := ⟨i.toNat, by omega⟩
        have gg := g.trans g'
        exact Try.farToCl W' v xs n k w.heap.size (w.heap.size + 1) ba hP (by omega) (hpp.gr (g0.trans gg)) (gg.keep2 ca) (gg.keep2 cb) (g'.keep2 k1) (g'.keep2 k2)))
    have HA := Lib.hid (fun (W : World) (g : Gr w W) => Try.sumsOfAll (W.alloc (.cells #[.int .i64 n] 3)) v (.slice (some ⟨W.heap.size, 0, none⟩) 1 1) xs [n] hP.1 (hpp.gr (Gr.alloc g _)) (box1 (by omega) (by omega) (by simp [go_sem])))
    rw [hW0] at HS
    obtain ⟨A, c, rfl, _⟩ := h.eta
    have hmf : ∀ (fn : Fn) (first cap : Array Value) (w : World), (Instr.makeFunc fn first cap).run Try.prog w = .ok (.func fn first cap) w := fun _ _ _ _ => rfl
    rw [if_pos rfl]
    generalize heads xs = H at *
    generalize boxSum xs [n] = T at *
    generalize farI xs n = R at *
    clear h hb q hP hpp ca cb eg g0 hW0
    go_enter Try.func28, Try.ntmps28
    go_wp2_with (first | (go_at_call 59; refine (HH.out _ (Gr.alloc (Gr.alloc (Gr.refl _) _) _)).mono ?_; rintro e w1 ⟨rfl, hbW⟩; have hcW := (bcell hbW.below).1; have hfW := (bcell hbW.below).2; (try have hzW : w.heap.size < w1.heap.size := by have hq := hbW.below.size; (try simp at hq); omega); (try have hyW : w.heap.size + 1 < w1.heap.size := by have hq := hbW.below.size; (try simp at hq); omega); (try have hxW : w.heap.size + 2 < w1.heap.size := by have hq := hbW.below.size; (try simp at hq); omega)) | (go_at_call 60; refine (HA.out _ (by repeat (first | exact Gr.refl _ | refine Gr.alloc ?_ _ | refine Gr.trans ?_ (by assumption) | refine Gr.drew ?_ | refine Gr.drewN ?_ _ | refine Gr.grow ?_ _ | refine Gr.setCell ?_ (by (try simp); (try omega)) _))).mono ?_; rintro e w2 ⟨rfl, g2⟩; have gw := (Gr.alloc hbW _).trans g2) | (go_at_call 61; refine (HS.out _ w2.heap.size (Gr.alloc gw _) (by simp [go_sem]) (by simp [go_sem])).mono ?_; rintro e w3 ⟨rfl, g3⟩))
    go_ret2
    exact ⟨rfl, (Gr.alloc (Gr.alloc (Gr.refl w) _) _).trans ((Gr.alloc gw _).trans g3)⟩
end Go.Proofs
