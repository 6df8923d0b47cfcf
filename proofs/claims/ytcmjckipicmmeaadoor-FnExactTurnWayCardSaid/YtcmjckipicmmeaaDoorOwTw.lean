/-
  Chapter 6: the way of one street or avenue turned (the model).
-/
import Derived.Test.YtcmjckipicmmeaaDoorOwTp
namespace Go.Proofs
open Go.RowKit
set_option linter.unusedVariables false
set_option linter.unusedSimpArgs false
set_option maxRecDepth 100000 in
set_option maxHeartbeats 40000000 in
theorem Tryd.sTurnWay (w : World) (s a : ByteArray) (hs : s.size ≤ maxLen) (ha : a.size ≤ maxLen) (k : Int) :
    Calls Tryd.prog 31 #[.agg #[.string s, .string a], .int .i64 k] w fun e w' => e = .returned (.tuple #[.agg #[.string (tw1 s a k), .string (tw2 s a k)], .bool (twB s a k)]) ∧ Gr w w' := by
  have mixed : Tryd.prog.follows .mixedOrders = true := by kernel_rfl
  obtain ⟨b, hb⟩ : ∃ b, okW s a = b := ⟨_, rfl⟩
  have H1 := Lib.hid (fun (W : World) => Tryd.owGood W s a hs ha b hb)
  cases b
  · have e : twB s a k = false := by unfold twB; rw [hb]; rfl
    unfold tw1 tw2
    rw [e]
    simp only [Bool.false_eq_true, if_false]
    clear hs ha hb e
    go_enter Tryd.func31, Tryd.ntmps31
    go_wp2_with (first | (go_at_call 40; refine (H1.out _).mono ?_; rintro e w1 ⟨rfl, hbW⟩; have hcW := (bcell hbW.below).1; have hfW := (bcell hbW.below).2; (try have hzW : w.heap.size < w1.heap.size := by have hq := hbW.below.size; (try simp at hq); omega); (try have hyW : w.heap.size + 1 < w1.heap.size := by have hq := hbW.below.size; (try simp at hq); omega); (try have hxW : w.heap.size + 2 < w1.heap.size := by have hq := hbW.below.size; (try simp at hq); omega)))
    obtain ⟨q0, q1⟩ := resSet hbW (.string ⟨#[]⟩) (.string ⟨#[]⟩)
    refine bodyPost_ret (v := .tuple #[.agg #[.string ⟨#[]⟩, .string ⟨#[]⟩], .bool false]) ?_ rfl ⟨rfl, ?_⟩
    · simp [results, Tryd.results31, go_sem, q0, q1]
    · exact by repeat (first | exact Gr.refl _ | refine Gr.alloc ?_ _ | refine Gr.trans ?_ (by assumption) | refine Gr.drew ?_ | refine Gr.drewN ?_ _ | refine Gr.grow ?_ _ | refine Gr.setCell ?_ (by (try simp); (try omega)) _)
  · have HB := Lib.hid (fun (W : World) => Tryd.owBack W s a hb)
    obtain ⟨h1, h2⟩ := okW_and hb
    have l1 := okT_len h1
    have l2 := okT_len h2
    obtain ⟨bx, hbx⟩ : ∃ b, inn k 0 ((s.size : Int) + a.size - 1) = b := ⟨_, rfl⟩
    have HX := Lib.hid (fun (W : World) => Tryd.l1In k 0 ((s.size : Int) + a.size - 1) bx hbx W)
    have wr0 : IntKind.i64.wrap ((s.size : Int) + a.size) = (s.size : Int) + a.size := IntWalk.i64_in _ (by omega)
    have wr1 : IntKind.i64.wrap ((s.size : Int) + a.size - 1) = (s.size : Int) + a.size - 1 := IntWalk.i64_in _ (by omega)
    have e : twB s a k = bx := by unfold twB; rw [hb, hbx]; rfl
    have HQ := Lib.hid hbx
    unfold tw1 tw2
    rw [e]
    clear e hb h1 h2 hs ha hbx
    obtain ⟨W2, hW2⟩ : ∃ W, (w.alloc (.cells #[.string s, .string a] 26)).alloc (.cells #[.string ⟨#[]⟩, .string ⟨#[]⟩] 26) = W := ⟨_, rfl⟩
    have c0 : W2.cell? ⟨w.heap.size, 0, none⟩ = some (.string s) := by subst hW2; simp [go_sem]
    have c1 : W2.cell? ⟨w.heap.size, 1, none⟩ = some (.string a) := by subst hW2; simp [go_sem]
    have c2 : W2.cell? ⟨w.heap.size + 1, 0, none⟩ = some (.string ⟨#[]⟩) := by subst hW2; simp [go_sem]
    have c3 : W2.cell? ⟨w.heap.size + 1, 1, none⟩ = some (.string ⟨#[]⟩) := by subst hW2; simp [go_sem]
    have f2 : W2.frozen? ⟨w.heap.size + 1, 0, none⟩ = false := by subst hW2; simp [go_sem]
    have f3 : W2.frozen? ⟨w.heap.size + 1, 1, none⟩ = false := by subst hW2; simp [go_sem]
    have sz : w.heap.size + 1 < W2.heap.size := by subst hW2; simp
    have GG := Lib.hid (show Gr w W2 by subst hW2; exact by repeat (first | exact Gr.refl _ | refine Gr.alloc ?_ _ | refine Gr.trans ?_ (by assumption) | refine Gr.drew ?_ | refine Gr.drewN ?_ _ | refine Gr.grow ?_ _ | refine Gr.setCell ?_ (by (try simp); (try omega)) _))
    cases bx
    · simp only [Bool.false_eq_true, if_false]
      go_enter Tryd.func31, Tryd.ntmps31
      go_wp2_with fail
      refine (H1.out W2).mono ?_
      rintro e w1 ⟨rfl, g1⟩
      have d0 := g1.keep0 c0
      have d1 := g1.keep0 c1
      have d2 := g1.keep0 c2
      have d3 := g1.keep0 c3
      have e2 := ((bcell g1.below).2 _ _ sz).trans f2
      have e3 := ((bcell g1.below).2 _ _ sz).trans f3
      have G1 := Lib.hid (Gr.trans GG.out g1)
      clear c0 c1 c2 c3 f2 f3 g1 hW2
      go_wp2_with (first | (go_at_call 52; refine (HX.out _).mono ?_; rintro e w1 ⟨rfl, rfl⟩))
      obtain ⟨q0, q1⟩ := two_set d2 d3 (.string ⟨#[]⟩) (.string ⟨#[]⟩)
      refine bodyPost_ret (v := .tuple #[.agg #[.string ⟨#[]⟩, .string ⟨#[]⟩], .bool false]) ?_ rfl ⟨rfl, ?_⟩
      · simp [results, Tryd.results31, go_sem, q0, q1]
      · exact Gr.setCell (Gr.setCell G1.out (Nat.le_succ _) _) (Nat.le_succ _) _
    · simp only [if_true]
      have q1 := inn_e HQ.out
      obtain ⟨n, rfl⟩ : ∃ n : Nat, (n : Int) = k := ⟨k.toNat, by omega⟩
      go_enter Tryd.func31, Tryd.ntmps31
      go_wp2_with fail
      refine (H1.out W2).mono ?_
      rintro e w1 ⟨rfl, g1⟩
      have d0 := g1.keep0 c0
      have d1 := g1.keep0 c1
      have d2 := g1.keep0 c2
      have d3 := g1.keep0 c3
      have e2 := ((bcell g1.below).2 _ _ sz).trans f2
      have e3 := ((bcell g1.below).2 _ _ sz).trans f3
      have sz1 := Nat.lt_of_lt_of_le sz g1.below.size
      have G1 := Lib.hid (Gr.trans GG.out g1)
      clear c0 c1 c2 c3 f2 f3 g1 GG sz hW2
      go_wp2_with (first | (go_at_call 52; refine (HX.out _).mono ?_; rintro e w1 ⟨rfl, rfl⟩))
      rename_i Q1 K1 hK
      have TAIL : ∀ (X : World) (b6 b7 : Nat), (X.cell? ⟨w.heap.size, 0, none⟩ = some (.string s) ∧ X.cell? ⟨w.heap.size, 1, none⟩ = some (.string a)) → (X.cell? ⟨b6, 0, none⟩ = some (.string (flB s)) ∧ X.cell? ⟨b6, 1, none⟩ = some (.string (flB a))) → (X.cell? ⟨b7, 0, none⟩ = some (.string s) ∧ X.cell? ⟨b7, 1, none⟩ = some (.string a)) →
          (X.cell? ⟨w.heap.size + 1, 0, none⟩ = some (.string ⟨#[]⟩) ∧ X.cell? ⟨w.heap.size + 1, 1, none⟩ = some (.string ⟨#[]⟩)) → (X.frozen? ⟨b7, 0, none⟩ = false ∧ X.frozen? ⟨b7, 1, none⟩ = false) → (X.frozen? ⟨w.heap.size + 1, 0, none⟩ = false ∧ X.frozen? ⟨w.heap.size + 1, 1, none⟩ = false) → w.heap.size + 1 < b7 → Gr w X →
          K1 { tmps := #[.agg #[.string s, .string a], .int .i64 (n : Nat), .pointer (some ⟨w.heap.size, 0, none⟩), undef, .pointer (some ⟨w.heap.size + 1, 0, none⟩), .bool false, .pointer (some ⟨b6, 0, none⟩), .pointer (some ⟨b7, 0, none⟩), undef, .agg #[.string s, .string a], .bool true, .bool false, .bool false, .int .i64 (n : Nat), .pointer (some ⟨w.heap.size, 0, none⟩), .string s, .int .i64 (s.size : Nat), .pointer (some ⟨w.heap.size, 1, none⟩), .string a, .int .i64 (a.size : Nat), .int .i64 ((s.size : Int) + (a.size : Int)), .int .i64 ((s.size : Int) + (a.size : Int) - 1), .bool true, .bool false, .bool false, undef, .agg #[.string s, .string a], .agg #[.string (flB s), .string (flB a)], .agg #[.string s, .string a], undef, undef, undef, undef, undef, undef, undef, undef, undef, undef, undef, undef, undef, undef, undef, undef, undef, undef, undef, undef, undef, undef, undef, undef, undef, undef, undef, undef, undef, undef, undef, undef, undef, undef, undef, undef, undef, undef, undef, undef, undef, undef, undef, undef, undef, undef], defers := [] } X := by
        intro X b6 b7 x01 x6 x7 xr hf7 hfr hb7 gX
        apply hK
        obtain ⟨x0, x1⟩ := x01
        obtain ⟨x60, x61⟩ := x6
        obtain ⟨x70, x71⟩ := x7
        obtain ⟨xr0, xr1⟩ := xr
        have hs1 : (flB s).size = s.size := flB_size s
        have hs2 : (flB a).size = a.size := flB_size a
        have HG := Lib.hid gX
        have szb : b7 < X.heap.size := World.block_lt_of_cell? _ _ x70
        have HF := Lib.hid (And.intro hf7 hfr)
        have HXR := Lib.hid (And.intro xr0 xr1)
        have HX7 := Lib.hid (And.intro x70 x71)
        by_cases hk : n < s.size
        · have z0 : (0 : Int) ≤ (n : Int) := by omega
          have z1 : (n : Int) < (s.size : Int) := by omega
          have z2 : (n : Int) ≤ (s.size : Int) := by omega
          have z3 : (0 : Int) ≤ (n : Int) + 1 := by omega
          have z4 : (n : Int) + 1 ≤ (s.size : Int) := by omega
          have z5 : (n : Int) + 1 ≤ ((flB s).size : Int) := by omega
          have z6 : (n : Int) ≤ (n : Int) + 1 := by omega
          have n1 : ((n : Int) + 1).toNat = n + 1 := by omega
          have wr3 : IntKind.i64.wrap ((n : Int) + 1) = (n : Int) + 1 := IntWalk.i64_in _ (by omega)
          have e2 : (flB s).extract n (n + 1) = ⟨#[fl (gb s n)]⟩ := by rw [ext_one (flB s) n (by omega), gb_eq, gb_fl2 s n hk]
          have HV := Lib.hid (show s.extract 0 n ++ ⟨#[fl (gb s n)]⟩ ++ s.extract (n + 1) s.size = flS s n from cut3 s n hk _)
          have p1 : (s.extract 0 n).size ≤ 8 := by rw [ByteArray.size_extract]; omega
          have p3 : (s.extract (n + 1) s.size).size ≤ 8 := by rw [ByteArray.size_extract]; omega
          have hE : (if (n : Int) < (s.size : Int) then flS s ((n : Int)).toNat else s) = flS s n ∧ (if (n : Int) < (s.size : Int) then a else flS a ((n : Int) - s.size).toNat) = a := ⟨by rw [if_pos z1, Int.toNat_natCast], by rw [if_pos z1]⟩
          simp only [hE.1, hE.2] at *
          generalize fl (gb s n) = ch at *
          have hz1 : (⟨#[ch]⟩ : ByteArray).size = 1 := rfl
          have e1 : ∃ p, s.extract 0 n = p := ⟨_, rfl⟩
          have e3 : ∃ p, s.extract (n + 1) s.size = p := ⟨_, rfl⟩
          obtain ⟨u1, e1⟩ := e1
          obtain ⟨u3, e3⟩ := e3
          rw [e1] at HV p1
          rw [e3] at HV p3
          have hadd := fun W => run_string_add (P := Tryd.prog) (w := W) u1 ⟨#[ch]⟩ (by omega) (by omega)
          have p4 : (u1 ++ ⟨#[ch]⟩ : ByteArray).size ≤ 9 := by rw [ByteArray.size_append]; omega
          have hadd2 := fun W => run_string_add (P := Tryd.prog) (w := W) (u1 ++ ⟨#[ch]⟩) u3 (by omega) (by omega)
          generalize hVV : flS s n = V at *
          have HVV := Lib.hid hVV
          clear hVV
          rw [HV.out] at hadd2
          have q0 := gr_all (Gr.refl X) x0
          have q6 := gr_all (Gr.refl X) x60
          have q7 := gr_all (Gr.refl X) x70
          have qf := gr_all_f (Gr.refl X) szb hf7.1
          clear p1 p3 p4 hz1
          go_wp2_with fail
          (refine wp_region_grown_tail 18 mixed (by kernel_rfl) ?_; simp only [List.take_succ_cons, List.take_zero, List.drop_succ_cons, List.drop_zero]; (repeat (first | go_big_quiet_step ((fail)) | quiet_step ((fail)))); refine wpQuiet_nil ?_; intro _ hw'; obtain ⟨⟨nq, osq⟩, hw''⟩ := hw'; subst hw'')
          have qf' := qf nq osq
          have gY : Gr X (Go.Sort.grow (X.drewN nq) osq) := Gr.grow (Gr.drewN (Gr.refl X) nq) osq
          obtain ⟨Y, hY⟩ : ∃ Y, Go.Sort.grow (X.drewN nq) osq = Y := ⟨_, rfl⟩
          rw [hY] at gY qf'
          simp only [hY]
          have y0 := gY.keep0 HX7.out.1
          have y1 := gY.keep0 HX7.out.2
          have yr0 := gY.keep0 HXR.out.1
          have yr1 := gY.keep0 HXR.out.2
          have hrb : w.heap.size + 1 < X.heap.size := by omega
          have fr0 := ((bcell gY.below).2 _ _ hrb).trans HF.out.2.1
          have fr1 := ((bcell gY.below).2 _ _ hrb).trans HF.out.2.2
          have f7 := ((bcell gY.below).2 _ _ szb).trans HF.out.1.1
          have GY := Lib.hid (Gr.trans HG.out gY)
          obtain ⟨Z, hZ⟩ : ∃ Z, Y.setCell ⟨b7, 0, none⟩ (.string V) = Z := ⟨_, rfl⟩
          have g0 : Z.cell? ⟨b7, 0, none⟩ = some (.string V) := by rw [← hZ]; exact World.cell?_setCell_same _ _ _ y0
          have g1 : Z.cell? ⟨b7, 1, none⟩ = some (.string a) := by rw [← hZ, World.cell?_setCell_other _ ⟨b7, 0, none⟩ ⟨b7, 1, none⟩ _ (by simp)]; exact y1
          obtain ⟨zr0, zr1⟩ := kset ⟨yr0, yr1⟩ (show w.heap.size + 1 ≠ (⟨b7, 0, none⟩ : Addr).block by simp; omega) (u := .string V)
          have fz0 : Z.frozen? ⟨w.heap.size + 1, 0, none⟩ = false := by rw [← hZ]; simpa using fr0
          have fz1 : Z.frozen? ⟨w.heap.size + 1, 1, none⟩ = false := by rw [← hZ]; simpa using fr1
          rw [hZ] at zr0 zr1
          have GZ := Lib.hid (show Gr w Z by rw [← hZ]; exact Gr.setCell GY.out (by simp; omega) _)
          clear q0 q6 q7 qf yr0 yr1 fr0 fr1 gY hY hadd hadd2
          go_wp2_with fail
          (try simp only [hZ])
          clear hZ qf'
          clear y0 y1
          go_wp2_with fail
          obtain ⟨w0, w1'⟩ := two_set zr0 zr1 (.string V) (.string a)
          refine bodyPost_ret (v := .tuple #[.agg #[.string V, .string a], .bool true]) ?_ rfl ⟨by rw [HVV.out], ?_⟩
          · simp [results, Tryd.results31, go_sem, w0, w1']
          · exact Gr.setCell (Gr.setCell GZ.out (Nat.le_succ _) _) (Nat.le_succ _) _
        · obtain ⟨m, hm⟩ : ∃ m : Nat, (m : Int) = (n : Int) - (s.size : Int) := ⟨n - s.size, by omega⟩
          have hnk : ¬ (n : Int) < (s.size : Int) := by omega
          have wk : IntKind.i64.wrap ((n : Int) - (s.size : Int)) = (m : Int) := by rw [← hm]; exact IntWalk.i64_in _ (by omega)
          have hk : m < a.size := by omega
          have HNM := Lib.hid (show n - s.size = m by omega)
          have z0 : (0 : Int) ≤ (m : Int) := by omega
          have z1 : (m : Int) < (a.size : Int) := by omega
          have z2 : (m : Int) ≤ (a.size : Int) := by omega
          have z3 : (0 : Int) ≤ (m : Int) + 1 := by omega
          have z4 : (m : Int) + 1 ≤ (a.size : Int) := by omega
          have z5 : (m : Int) + 1 ≤ ((flB a).size : Int) := by omega
          have z6 : (m : Int) ≤ (m : Int) + 1 := by omega
          have n1 : ((m : Int) + 1).toNat = m + 1 := by omega
          have wr3 : IntKind.i64.wrap ((m : Int) + 1) = (m : Int) + 1 := IntWalk.i64_in _ (by omega)
          have e2 : (flB a).extract m (m + 1) = ⟨#[fl (gb a m)]⟩ := by rw [ext_one (flB a) m (by omega), gb_eq, gb_fl2 a m hk]
          have HV := Lib.hid (show a.extract 0 m ++ ⟨#[fl (gb a m)]⟩ ++ a.extract (m + 1) a.size = flS a m from cut3 a m hk _)
          have p1 : (a.extract 0 m).size ≤ 8 := by rw [ByteArray.size_extract]; omega
          have p3 : (a.extract (m + 1) a.size).size ≤ 8 := by rw [ByteArray.size_extract]; omega
          have hE : (if (n : Int) < (s.size : Int) then flS s ((n : Int)).toNat else s) = s ∧ (if (n : Int) < (s.size : Int) then a else flS a ((n : Int) - s.size).toNat) = flS a m := ⟨by rw [if_neg hnk], by rw [if_neg hnk, ← hm, Int.toNat_natCast]⟩
          simp only [hE.1, hE.2] at *
          generalize fl (gb a m) = ch at *
          have hz1 : (⟨#[ch]⟩ : ByteArray).size = 1 := rfl
          have e1 : ∃ p, a.extract 0 m = p := ⟨_, rfl⟩
          have e3 : ∃ p, a.extract (m + 1) a.size = p := ⟨_, rfl⟩
          obtain ⟨u1, e1⟩ := e1
          obtain ⟨u3, e3⟩ := e3
          rw [e1] at HV p1
          rw [e3] at HV p3
          have hadd := fun W => run_string_add (P := Tryd.prog) (w := W) u1 ⟨#[ch]⟩ (by omega) (by omega)
          have p4 : (u1 ++ ⟨#[ch]⟩ : ByteArray).size ≤ 9 := by rw [ByteArray.size_append]; omega
          have hadd2 := fun W => run_string_add (P := Tryd.prog) (w := W) (u1 ++ ⟨#[ch]⟩) u3 (by omega) (by omega)
          generalize hVV : flS a m = V at *
          have HVV := Lib.hid hVV
          clear hVV
          rw [HV.out] at hadd2
          have q0 := gr_all (Gr.refl X) x1
          have q6 := gr_all (Gr.refl X) x61
          have q7 := gr_all (Gr.refl X) x71
          have qf := gr_all_f (Gr.refl X) szb hf7.2
          clear p1 p3 p4 hz1 hm
          go_wp2_with fail
          (refine wp_region_grown_tail 18 mixed (by kernel_rfl) ?_; simp only [List.take_succ_cons, List.take_zero, List.drop_succ_cons, List.drop_zero]; (repeat (first | go_big_quiet_step ((fail)) | quiet_step ((fail)))); refine wpQuiet_nil ?_; intro _ hw'; obtain ⟨⟨nq, osq⟩, hw''⟩ := hw'; subst hw'')
          have qf' := qf nq osq
          have gY : Gr X (Go.Sort.grow (X.drewN nq) osq) := Gr.grow (Gr.drewN (Gr.refl X) nq) osq
          obtain ⟨Y, hY⟩ : ∃ Y, Go.Sort.grow (X.drewN nq) osq = Y := ⟨_, rfl⟩
          rw [hY] at gY qf'
          simp only [hY]
          have y0 := gY.keep0 HX7.out.1
          have y1 := gY.keep0 HX7.out.2
          have yr0 := gY.keep0 HXR.out.1
          have yr1 := gY.keep0 HXR.out.2
          have hrb : w.heap.size + 1 < X.heap.size := by omega
          have fr0 := ((bcell gY.below).2 _ _ hrb).trans HF.out.2.1
          have fr1 := ((bcell gY.below).2 _ _ hrb).trans HF.out.2.2
          have f7 := ((bcell gY.below).2 _ _ szb).trans HF.out.1.1
          have GY := Lib.hid (Gr.trans HG.out gY)
          obtain ⟨Z, hZ⟩ : ∃ Z, Y.setCell ⟨b7, 1, none⟩ (.string V) = Z := ⟨_, rfl⟩
          have g0 : Z.cell? ⟨b7, 1, none⟩ = some (.string V) := by rw [← hZ]; exact World.cell?_setCell_same _ _ _ y1
          have g1 : Z.cell? ⟨b7, 0, none⟩ = some (.string s) := by rw [← hZ, World.cell?_setCell_other _ ⟨b7, 1, none⟩ ⟨b7, 0, none⟩ _ (by simp)]; exact y0
          obtain ⟨zr0, zr1⟩ := kset ⟨yr0, yr1⟩ (show w.heap.size + 1 ≠ (⟨b7, 1, none⟩ : Addr).block by simp; omega) (u := .string V)
          have fz0 : Z.frozen? ⟨w.heap.size + 1, 0, none⟩ = false := by rw [← hZ]; simpa using fr0
          have fz1 : Z.frozen? ⟨w.heap.size + 1, 1, none⟩ = false := by rw [← hZ]; simpa using fr1
          rw [hZ] at zr0 zr1
          have GZ := Lib.hid (show Gr w Z by rw [← hZ]; exact Gr.setCell GY.out (by simp; omega) _)
          clear q0 q6 q7 qf yr0 yr1 fr0 fr1 gY hY hadd hadd2
          go_wp2_with fail
          (try simp only [hZ])
          clear hZ qf'
          clear y0 y1
          go_wp2_with fail
          obtain ⟨w0, w1'⟩ := two_set zr0 zr1 (.string s) (.string V)
          refine bodyPost_ret (v := .tuple #[.agg #[.string s, .string V], .bool true]) ?_ rfl ⟨by rw [show n - s.size = m from HNM.out, HVV.out], ?_⟩
          · simp [results, Tryd.results31, go_sem, w0, w1']
          · exact Gr.setCell (Gr.setCell GZ.out (Nat.le_succ _) _) (Nat.le_succ _) _
      have HS0 := And.intro d0 d1
      go_region_held3 (fun W' => W'.cell? ⟨w.heap.size, 0, none⟩ = some (.string s) ∧ W'.cell? ⟨w.heap.size, 1, none⟩ = some (.string a))
        (repeat' (first | assumption | (refine kset ?_ ?_) | (refine ks (Gr.alloc (Gr.refl _) _) ?_) | (refine ks (Gr.drew (Gr.refl _)) ?_) | (simp; omega; done)))
        (first | (go_at_call 56; refine (HB.out _).mono ?_; rintro e w2 ⟨rfl, g2⟩; have HS2 := ks (show Gr w1 w2 from (by repeat (first | exact Gr.refl _ | refine Gr.alloc ?_ _ | refine Gr.trans ?_ (by assumption) | refine Gr.drew ?_ | refine Gr.drewN ?_ _ | refine Gr.grow ?_ _ | refine Gr.setCell ?_ (by (try simp); (try omega)) _))) HS0; have hs2 := (show Gr w1 w2 from (by repeat (first | exact Gr.refl _ | refine Gr.alloc ?_ _ | refine Gr.trans ?_ (by assumption) | refine Gr.drew ?_ | refine Gr.drewN ?_ _ | refine Gr.grow ?_ _ | refine Gr.setCell ?_ (by (try simp); (try omega)) _))).below.size; have hc2 := (bcell g2.below).1; have hf2 := (bcell g2.below).2; (try have hz2 : w1.heap.size < w2.heap.size := by have hq := g2.below.size; simp at hq; omega); (try have hz3 : w1.heap.size + 1 < w2.heap.size := by have hq := g2.below.size; simp at hq; omega)))
      all_goals
        have gW : Gr w1 w2 := by repeat (first | exact Gr.refl _ | refine Gr.alloc ?_ _ | refine Gr.trans ?_ (by assumption) | refine Gr.drew ?_ | refine Gr.drewN ?_ _ | refine Gr.grow ?_ _ | refine Gr.setCell ?_ (by (try simp); (try omega)) _)
        have kr := ks gW (And.intro d2 d3)
        have fr := fgr gW (And.intro e2 e3) (by omega)
        have gX2 : Gr w w2 := G1.out.trans gW
        have sz2 : w.heap.size + 1 < w2.heap.size := by omega
        have m1 : w.heap.size ≠ w1.heap.size := by omega
        have m2 : w.heap.size + 1 ≠ w1.heap.size := by omega
        have m3 : w.heap.size ≠ w1.heap.size + 1 := by omega
        have m4 : w.heap.size + 1 ≠ w1.heap.size + 1 := by omega
        have m5 : w.heap.size ≤ w1.heap.size := by omega
        have m6 : w.heap.size ≤ w1.heap.size + 1 := by omega
        have m7 : w1.heap.size ≠ w1.heap.size + 1 := by omega
        have m8 : w1.heap.size + 1 ≠ w1.heap.size := by omega
      · refine TAIL _ (w2.heap.size) (w2.heap.size + 1) ?_ ?_ ?_ ?_ ?_ ?_ ?_ ?_
        · exact ks (Gr.alloc (Gr.refl _) _) (ks (Gr.alloc (Gr.refl _) _) (HS2))
        · exact ks (Gr.alloc (Gr.refl _) _) (⟨by simp [go_sem], by simp [go_sem]⟩)
        · exact ⟨by simp [go_sem], by simp [go_sem]⟩
        · exact ks (Gr.alloc (Gr.refl _) _) (ks (Gr.alloc (Gr.refl _) _) (kr))
        · exact ⟨by simp [go_sem], by simp [go_sem]⟩
        · exact fgr (Gr.alloc (Gr.refl _) _) (fgr (Gr.alloc (Gr.refl _) _) (fr) (by (try simp) <;> omega)) (by (try simp) <;> omega)
        · omega
        · exact Gr.alloc (Gr.alloc gX2 _) _
      · refine TAIL _ (w2.heap.size + 1) (w2.heap.size) ?_ ?_ ?_ ?_ ?_ ?_ ?_ ?_
        · exact ks (Gr.alloc (Gr.refl _) _) (ks (Gr.alloc (Gr.refl _) _) (HS2))
        · exact ⟨by simp [go_sem], by simp [go_sem]⟩
        · exact ks (Gr.alloc (Gr.refl _) _) (⟨by simp [go_sem], by simp [go_sem]⟩)
        · exact ks (Gr.alloc (Gr.refl _) _) (ks (Gr.alloc (Gr.refl _) _) (kr))
        · exact fgr (Gr.alloc (Gr.refl _) _) (⟨by simp [go_sem], by simp [go_sem]⟩) (by (try simp) <;> omega)
        · exact fgr (Gr.alloc (Gr.refl _) _) (fgr (Gr.alloc (Gr.refl _) _) (fr) (by (try simp) <;> omega)) (by (try simp) <;> omega)
        · omega
        · exact Gr.alloc (Gr.alloc gX2 _) _
      · have c6 : w2.cell? ⟨w1.heap.size, 0, none⟩ = some (.string ⟨#[]⟩) ∧ w2.cell? ⟨w1.heap.size, 1, none⟩ = some (.string ⟨#[]⟩) := ⟨g2.keep0 (by simp [go_sem]), g2.keep0 (by simp [go_sem])⟩
        have fb : w2.frozen? ⟨w1.heap.size, 0, none⟩ = false ∧ w2.frozen? ⟨w1.heap.size, 1, none⟩ = false := fgr g2 ⟨by simp [go_sem], by simp [go_sem]⟩ (by (try simp) <;> omega)
        have hz8 : w1.heap.size < w2.heap.size := World.block_lt_of_cell? _ _ c6.1
        refine TAIL _ (w1.heap.size) (w2.heap.size) ?_ ?_ ?_ ?_ ?_ ?_ ?_ ?_
        · exact ks (Gr.alloc (Gr.refl _) _) (kset (kset (HS2) m1) m1)
        · exact ks (Gr.alloc (Gr.refl _) _) (two_set c6.1 c6.2 _ _)
        · exact ⟨by simp [go_sem], by simp [go_sem]⟩
        · exact ks (Gr.alloc (Gr.refl _) _) (kset (kset (kr) m2) m2)
        · exact ⟨by simp [go_sem], by simp [go_sem]⟩
        · exact fgr (Gr.alloc (Gr.refl _) _) (fset (fset (fr))) (by (try simp) <;> omega)
        · omega
        · exact Gr.alloc (Gr.setCell (Gr.setCell (gX2) m5 _) m5 _) _
      · have c6 : w2.cell? ⟨w1.heap.size, 0, none⟩ = some (.string ⟨#[]⟩) ∧ w2.cell? ⟨w1.heap.size, 1, none⟩ = some (.string ⟨#[]⟩) := ⟨g2.keep0 (by simp [go_sem]), g2.keep0 (by simp [go_sem])⟩
        have fb : w2.frozen? ⟨w1.heap.size, 0, none⟩ = false ∧ w2.frozen? ⟨w1.heap.size, 1, none⟩ = false := fgr g2 ⟨by simp [go_sem], by simp [go_sem]⟩ (by (try simp) <;> omega)
        have hz8 : w1.heap.size < w2.heap.size := World.block_lt_of_cell? _ _ c6.1
        have c7 : w2.cell? ⟨w1.heap.size + 1, 0, none⟩ = some (.string ⟨#[]⟩) ∧ w2.cell? ⟨w1.heap.size + 1, 1, none⟩ = some (.string ⟨#[]⟩) := ⟨g2.keep0 (by simp [go_sem]), g2.keep0 (by simp [go_sem])⟩
        have fc : w2.frozen? ⟨w1.heap.size + 1, 0, none⟩ = false ∧ w2.frozen? ⟨w1.heap.size + 1, 1, none⟩ = false := fgr g2 ⟨by simp [go_sem], by simp [go_sem]⟩ (by (try simp) <;> omega)
        have hz9 : w1.heap.size + 1 < w2.heap.size := World.block_lt_of_cell? _ _ c7.1
        refine TAIL _ (w1.heap.size) (w1.heap.size + 1) ?_ ?_ ?_ ?_ ?_ ?_ ?_ ?_
        · exact kset (kset (kset (kset (HS2) m1) m1) m3) m3
        · exact kset (kset (two_set c6.1 c6.2 _ _) m7) m7
        · exact two_set (kset (kset (c7) m8) m8).1 (kset (kset (c7) m8) m8).2 _ _
        · exact kset (kset (kset (kset (kr) m2) m2) m4) m4
        · exact fset (fset (fset (fset (fc))))
        · exact fset (fset (fset (fset (fr))))
        · omega
        · exact Gr.setCell (Gr.setCell (Gr.setCell (Gr.setCell (gX2) m5 _) m5 _) m6 _) m6 _
      · have c6 : w2.cell? ⟨w1.heap.size, 0, none⟩ = some (.string ⟨#[]⟩) ∧ w2.cell? ⟨w1.heap.size, 1, none⟩ = some (.string ⟨#[]⟩) := ⟨g2.keep0 (by simp [go_sem]), g2.keep0 (by simp [go_sem])⟩
        have fb : w2.frozen? ⟨w1.heap.size, 0, none⟩ = false ∧ w2.frozen? ⟨w1.heap.size, 1, none⟩ = false := fgr g2 ⟨by simp [go_sem], by simp [go_sem]⟩ (by (try simp) <;> omega)
        have hz8 : w1.heap.size < w2.heap.size := World.block_lt_of_cell? _ _ c6.1
        refine TAIL _ (w2.heap.size) (w1.heap.size) ?_ ?_ ?_ ?_ ?_ ?_ ?_ ?_
        · exact ks (Gr.alloc (Gr.refl _) _) (kset (kset (HS2) m1) m1)
        · exact ⟨by simp [go_sem], by simp [go_sem]⟩
        · exact ks (Gr.alloc (Gr.refl _) _) (two_set c6.1 c6.2 _ _)
        · exact ks (Gr.alloc (Gr.refl _) _) (kset (kset (kr) m2) m2)
        · exact fgr (Gr.alloc (Gr.refl _) _) (fset (fset (fb))) (by (try simp) <;> omega)
        · exact fgr (Gr.alloc (Gr.refl _) _) (fset (fset (fr))) (by (try simp) <;> omega)
        · omega
        · exact Gr.alloc (Gr.setCell (Gr.setCell (gX2) m5 _) m5 _) _
      · have c6 : w2.cell? ⟨w1.heap.size, 0, none⟩ = some (.string ⟨#[]⟩) ∧ w2.cell? ⟨w1.heap.size, 1, none⟩ = some (.string ⟨#[]⟩) := ⟨g2.keep0 (by simp [go_sem]), g2.keep0 (by simp [go_sem])⟩
        have fb : w2.frozen? ⟨w1.heap.size, 0, none⟩ = false ∧ w2.frozen? ⟨w1.heap.size, 1, none⟩ = false := fgr g2 ⟨by simp [go_sem], by simp [go_sem]⟩ (by (try simp) <;> omega)
        have hz8 : w1.heap.size < w2.heap.size := World.block_lt_of_cell? _ _ c6.1
        have c7 : w2.cell? ⟨w1.heap.size + 1, 0, none⟩ = some (.string ⟨#[]⟩) ∧ w2.cell? ⟨w1.heap.size + 1, 1, none⟩ = some (.string ⟨#[]⟩) := ⟨g2.keep0 (by simp [go_sem]), g2.keep0 (by simp [go_sem])⟩
        have fc : w2.frozen? ⟨w1.heap.size + 1, 0, none⟩ = false ∧ w2.frozen? ⟨w1.heap.size + 1, 1, none⟩ = false := fgr g2 ⟨by simp [go_sem], by simp [go_sem]⟩ (by (try simp) <;> omega)
        have hz9 : w1.heap.size + 1 < w2.heap.size := World.block_lt_of_cell? _ _ c7.1
        refine TAIL _ (w1.heap.size + 1) (w1.heap.size) ?_ ?_ ?_ ?_ ?_ ?_ ?_ ?_
        · exact kset (kset (kset (kset (HS2) m3) m3) m1) m1
        · exact kset (kset (two_set c7.1 c7.2 _ _) m8) m8
        · exact two_set (kset (kset (c6) m7) m7).1 (kset (kset (c6) m7) m7).2 _ _
        · exact kset (kset (kset (kset (kr) m4) m4) m2) m2
        · exact fset (fset (fset (fset (fb))))
        · exact fset (fset (fset (fset (fr))))
        · omega
        · exact Gr.setCell (Gr.setCell (Gr.setCell (Gr.setCell (gX2) m6 _) m6 _) m5 _) m5 _
end Go.Proofs
