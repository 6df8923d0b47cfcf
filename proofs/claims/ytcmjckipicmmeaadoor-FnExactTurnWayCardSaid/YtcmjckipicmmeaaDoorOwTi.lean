/-
  Chapter 6: the way of one street or avenue turned (the program).
-/
import Derived.Test.YtcmjckipicmmeaaDoorOwTp
namespace Go.Proofs
open Go.RowKit
set_option linter.unusedVariables false
set_option linter.unusedSimpArgs false
theorem turned1 (c : UInt8) : flB ⟨#[c]⟩ = ⟨#[fl c]⟩ := rfl
theorem isSg_two {s a : ByteArray} (h1 : okT 101 119 s = true) (h2 : okT 110 115 a = true) (k : Nat) (hk : k < s.size + a.size) : isSg (gb (s ++ a) k) := by
  have hl : s.data.toList.length = s.size := by simp
  have hla : a.data.toList.length = a.size := by simp
  have e : (s ++ a).data.toList = s.data.toList ++ a.data.toList := by simp
  by_cases c : k < s.size
  · have : gb (s ++ a) k = gb s k := by
      unfold gb; rw [e, List.getD_eq_getElem?_getD, List.getD_eq_getElem?_getD, List.getElem?_append_left (by omega)]
    rw [this, ← gb_eq s k c]
    rcases okT_at h1 k c with q | q <;> rw [q]
    · exact sgE
    · exact sgW
  · have : gb (s ++ a) k = gb a (k - s.size) := by
      unfold gb; rw [e, List.getD_eq_getElem?_getD, List.getD_eq_getElem?_getD, List.getElem?_append_right (by omega), hl]
    rw [this, ← gb_eq a (k - s.size) (by omega)]
    rcases okT_at h2 (k - s.size) (by omega) with q | q <;> rw [q]
    · exact sgN
    · exact sgS
theorem gb_two (s a : ByteArray) (k : Nat) : (k < s.size → gb (s ++ a) k = gb s k) ∧ (s.size ≤ k → gb (s ++ a) k = gb a (k - s.size)) := by
  have hl : s.data.toList.length = s.size := by simp
  have e : (s ++ a).data.toList = s.data.toList ++ a.data.toList := by simp
  constructor <;> intro c <;> unfold gb <;> rw [e, List.getD_eq_getElem?_getD, List.getD_eq_getElem?_getD]
  · rw [List.getElem?_append_left (by omega)]
  · rw [List.getElem?_append_right (by omega), hl]
set_option maxRecDepth 100000 in
set_option maxHeartbeats 4000000 in
theorem Tryd.iTurnWay (w : World) (s a : ByteArray) (hs : s.size ≤ 1048576) (ha : a.size ≤ 1048576) (k : Int) :
    Calls Tryd.prog 32 #[.agg #[.string s, .string a], .int .i64 k] w fun e w' => e = .returned (.tuple #[.agg #[.string (tw1 s a k), .string (tw2 s a k)], .bool (twB s a k)]) ∧ Gr w w' := by
  have mixed : Tryd.prog.follows .mixedOrders = true := by kernel_rfl
  obtain ⟨b, hb⟩ : ∃ b, okW s a = b := ⟨_, rfl⟩
  have H1 := Lib.hid (fun (W : World) => Tryd.iAreWays W s a (by unfold maxLen; omega) (by unfold maxLen; omega) b hb)
  cases b
  · have e : twB s a k = false := by unfold twB; rw [hb]; rfl
    unfold tw1 tw2
    rw [e]
    simp only [Bool.false_eq_true, if_false]
    clear hs ha hb e
    go_enter Tryd.func32, Tryd.ntmps32
    go_wp2_with (first | (go_at_call 16; refine (H1.out _).mono ?_; rintro e w1 ⟨rfl, hbW⟩; have hcW := (bcell hbW.below).1; have hfW := (bcell hbW.below).2; (try have hzW : w.heap.size < w1.heap.size := by have hq := hbW.below.size; (try simp at hq); omega); (try have hyW : w.heap.size + 1 < w1.heap.size := by have hq := hbW.below.size; (try simp at hq); omega); (try have hxW : w.heap.size + 2 < w1.heap.size := by have hq := hbW.below.size; (try simp at hq); omega)))
    obtain ⟨q0, q1⟩ := resSet hbW (.string ⟨#[]⟩) (.string ⟨#[]⟩)
    refine bodyPost_ret (v := .tuple #[.agg #[.string ⟨#[]⟩, .string ⟨#[]⟩], .bool false]) ?_ rfl ⟨rfl, ?_⟩
    · simp [results, Tryd.results32, go_sem, q0, q1]
    · exact by repeat (first | exact Gr.refl _ | refine Gr.alloc ?_ _ | refine Gr.trans ?_ (by assumption) | refine Gr.drew ?_ | refine Gr.drewN ?_ _ | refine Gr.grow ?_ _ | refine Gr.setCell ?_ (by (try simp); (try omega)) _)
  · obtain ⟨h1, h2⟩ := okW_and hb
    have l1 := okT_len h1
    have l2 := okT_len h2
    obtain ⟨bx, hbx⟩ : ∃ b, inn k 0 ((s.size : Int) + a.size - 1) = b := ⟨_, rfl⟩
    have HX := Lib.hid (fun (W : World) => Tryd.within k 0 ((s.size : Int) + a.size - 1) bx hbx W)
    have wr0 : IntKind.i64.wrap ((s.size : Int) + a.size) = (s.size : Int) + a.size := IntWalk.i64_in _ (by omega)
    have wr1 : IntKind.i64.wrap ((s.size : Int) + a.size - 1) = (s.size : Int) + a.size - 1 := IntWalk.i64_in _ (by omega)
    have e : twB s a k = bx := by unfold twB; rw [hb, hbx]; rfl
    have HQ := Lib.hid hbx
    unfold tw1 tw2
    rw [e]
    have HH := Lib.hid (And.intro h1 h2)
    clear e hb h1 h2 hs ha hbx
    cases bx
    · simp only [Bool.false_eq_true, if_false]
      go_enter Tryd.func32, Tryd.ntmps32
      go_wp2_with (first | (go_at_call 16; refine (H1.out _).mono ?_; rintro e w1 ⟨rfl, hbW⟩; have hcW := (bcell hbW.below).1; have hfW := (bcell hbW.below).2; (try have hzW : w.heap.size < w1.heap.size := by have hq := hbW.below.size; (try simp at hq); omega); (try have hyW : w.heap.size + 1 < w1.heap.size := by have hq := hbW.below.size; (try simp at hq); omega); (try have hxW : w.heap.size + 2 < w1.heap.size := by have hq := hbW.below.size; (try simp at hq); omega)) | (go_at_call 54; refine (HX.out _).mono ?_; rintro e w1 ⟨rfl, rfl⟩))
      obtain ⟨q0, q1⟩ := resSet hbW (.string ⟨#[]⟩) (.string ⟨#[]⟩)
      refine bodyPost_ret (v := .tuple #[.agg #[.string ⟨#[]⟩, .string ⟨#[]⟩], .bool false]) ?_ rfl ⟨rfl, ?_⟩
      · simp [results, Tryd.results32, go_sem, q0, q1]
      · exact by repeat (first | exact Gr.refl _ | refine Gr.alloc ?_ _ | refine Gr.trans ?_ (by assumption) | refine Gr.drew ?_ | refine Gr.drewN ?_ _ | refine Gr.grow ?_ _ | refine Gr.setCell ?_ (by (try simp); (try omega)) _)
    · simp only [if_true]
      have q1 := inn_e HQ.out
      obtain ⟨n, rfl⟩ : ∃ n : Nat, (n : Int) = k := ⟨k.toNat, by omega⟩
      have hn : n < s.size + a.size := by omega
      have hsg := isSg_two HH.out.1 HH.out.2 n hn
      have hcs : (s ++ a).size = s.size + a.size := by rw [ByteArray.size_append]
      obtain ⟨R1, hR1⟩ : ∃ R, (⟨((s ++ a).data.toList.set n (fl (gb (s ++ a) n))).toArray⟩ : ByteArray).extract 0 s.size = R := ⟨_, rfl⟩
      obtain ⟨R2, hR2⟩ : ∃ R, (⟨((s ++ a).data.toList.set n (fl (gb (s ++ a) n))).toArray⟩ : ByteArray).extract s.size (s.size + a.size) = R := ⟨_, rfl⟩
      have hE : (if (n : Int) < (s.size : Int) then flS s ((n : Int)).toNat else s) = R1 ∧ (if (n : Int) < (s.size : Int) then a else flS a ((n : Int) - s.size).toNat) = R2 := by
        subst hR1 hR2
        obtain ⟨t1, t2⟩ := tw_join s a n (fl (gb (s ++ a) n))
        obtain ⟨v1, v2⟩ := gb_two s a n
        by_cases c : n < s.size
        · rw [if_pos (by omega), if_pos (by omega), (t1 c).1, (t1 c).2, v1 c, Int.toNat_natCast]
          exact ⟨rfl, rfl⟩
        · rw [if_neg (by omega), if_neg (by omega), (t2 (by omega)).1, (t2 (by omega)).2, v2 (by omega), show ((n : Int) - (s.size : Int)).toNat = n - s.size by omega]
          exact ⟨rfl, rfl⟩
      rw [hE.1, hE.2]
      have hcut := cut3 (s ++ a) n (by omega) (fl (gb (s ++ a) n))
      have hT := Lib.hid (fun (W : World) => Tryd.turned W ⟨#[gb (s ++ a) n]⟩ (by show (1 : Nat) ≤ 8; omega) (fun i hi => by
        have : i = 0 := by have : i < 1 := hi; omega
        subst this; exact hsg))
      have e2 : (s ++ a).extract n (n + 1) = ⟨#[gb (s ++ a) n]⟩ := by rw [ext_one (s ++ a) n (by omega), gb_eq]
      rw [turned1] at hT
      have hVs : (⟨((s ++ a).data.toList.set n (fl (gb (s ++ a) n))).toArray⟩ : ByteArray).size = s.size + a.size := by
        show (((s ++ a).data.toList.set n (fl (gb (s ++ a) n))).toArray).size = _
        simp
      generalize fl (gb (s ++ a) n) = ch at *
      generalize (⟨((s ++ a).data.toList.set n ch).toArray⟩ : ByteArray) = V at *
      have hadd0 := fun W => run_string_add (P := Tryd.prog) (w := W) s a (by omega) (by omega)
      generalize gb (s ++ a) n = cc at *
      generalize hcc : s ++ a = c at *
      have p1 : (c.extract 0 n).size ≤ 16 := by rw [ByteArray.size_extract]; omega
      have p3 : (c.extract (n + 1) c.size).size ≤ 16 := by rw [ByteArray.size_extract]; omega
      obtain ⟨u1, e1⟩ : ∃ p, c.extract 0 n = p := ⟨_, rfl⟩
      obtain ⟨u3, e3⟩ : ∃ p, c.extract (n + 1) c.size = p := ⟨_, rfl⟩
      rw [e1] at hcut p1
      rw [e3] at hcut p3
      have hz1 : (⟨#[ch]⟩ : ByteArray).size = 1 := rfl
      have hadd := fun W => run_string_add (P := Tryd.prog) (w := W) u1 ⟨#[ch]⟩ (by omega) (by omega)
      have p4 : (u1 ++ ⟨#[ch]⟩ : ByteArray).size ≤ 17 := by rw [ByteArray.size_append]; omega
      have hadd2 := fun W => run_string_add (P := Tryd.prog) (w := W) (u1 ++ ⟨#[ch]⟩) u3 (by omega) (by omega)
      rw [hcut] at hadd2
      have z0 : (0 : Int) ≤ (n : Int) := by omega
      have z2 : (n : Int) ≤ (c.size : Int) := by omega
      have z3 : (0 : Int) ≤ (n : Int) + 1 := by omega
      have z4 : (n : Int) + 1 ≤ (c.size : Int) := by omega
      have z6 : (n : Int) ≤ (n : Int) + 1 := by omega
      have n1 : ((n : Int) + 1).toNat = n + 1 := by omega
      have wr3 : IntKind.i64.wrap ((n : Int) + 1) = (n : Int) + 1 := IntWalk.i64_in _ (by omega)
      have z7 : (s.size : Int) ≤ (V.size : Int) := by omega
      have z8 : (0 : Int) ≤ (s.size : Int) := by omega
      rw [← hVs] at hR2
      clear hn hsg hcc hcut hVs hE p1 p3 p4 hz1 HH l1 l2 q1 hcs HQ
      go_enter Tryd.func32, Tryd.ntmps32
      go_wp2_with (first | (go_at_call 16; refine (H1.out _).mono ?_; rintro e w1 ⟨rfl, hbW⟩; have hcW := (bcell hbW.below).1; have hfW := (bcell hbW.below).2; (try have hzW : w.heap.size < w1.heap.size := by have hq := hbW.below.size; (try simp at hq); omega); (try have hyW : w.heap.size + 1 < w1.heap.size := by have hq := hbW.below.size; (try simp at hq); omega); (try have hxW : w.heap.size + 2 < w1.heap.size := by have hq := hbW.below.size; (try simp at hq); omega)) | (go_at_call 54; refine (HX.out _).mono ?_; rintro e w1 ⟨rfl, rfl⟩))
      have gW0 := hbW
      (refine wp_region_quiet_grown mixed (by kernel_rfl) ?_; (repeat (first | go_big_quiet_step ((first | (go_at_call 57; exact Calls.grown_of (hT.out _)))) | quiet_step ((first | (go_at_call 57; exact Calls.grown_of (hT.out _)))))); refine wpQuiet_nil ?_; intro _ hw'; obtain ⟨⟨nq, osq⟩, hw''⟩ := hw'; subst hw'')
      have gY := Gr.grow (Gr.drewN hbW nq) osq
      obtain ⟨Y, hY⟩ : ∃ Y, Go.Sort.grow (w1.drewN nq) osq = Y := ⟨_, rfl⟩
      rw [hY] at gY
      simp only [hY]
      have f0 := gr_all gY (a := ⟨w.heap.size + 1, 0, none⟩) (v := .string ⟨#[]⟩) (by simp [go_sem])
      have f1 := gr_all gY (a := ⟨w.heap.size + 1, 1, none⟩) (v := .string ⟨#[]⟩) (by simp [go_sem])
      have f2 := gr_all_f gY (b := w.heap.size + 1) (o := 0) (by simp) (by simp [go_sem])
      have f3 := gr_all_f gY (b := w.heap.size + 1) (o := 1) (by simp) (by simp [go_sem])
      clear hadd0 hadd hadd2 e1 e2 e3 hT HX hY
      go_wp2_with fail
      (refine wp_region_grown_tail 7 mixed (by kernel_rfl) ?_; simp only [List.take_succ_cons, List.take_zero, List.drop_succ_cons, List.drop_zero]; (repeat (first | go_big_quiet_step ((fail)) | quiet_step ((fail)))); refine wpQuiet_nil ?_; intro _ hw'; obtain ⟨⟨nq, osq⟩, hw''⟩ := hw'; subst hw'')
      go_wp2_with fail
      obtain ⟨q0, q1⟩ := resSet (W := Go.Sort.grow (Y.drewN nq) osq) (Gr.grow (Gr.drewN gY nq) osq) (.string R1) (.string R2)
      refine bodyPost_ret (v := .tuple #[.agg #[.string R1, .string R2], .bool true]) ?_ rfl ⟨rfl, ?_⟩
      · simp [results, Tryd.results32, go_sem, q0, q1]
      · have gZ := Gr.grow (Gr.drewN gY nq) osq
        exact Gr.setCell (Gr.setCell (Gr.trans (Gr.alloc (Gr.alloc (Gr.refl _) _) _) gZ) (Nat.le_succ _) _) (Nat.le_succ _) _
end Go.Proofs
