/-
  Chapter 6: the signs of a corner and a step (the program).
-/
import Derived.Test.YtfdiiichjopncaaDoorOwI
namespace Go.Proofs
open Go.RowKit Av
set_option linter.unusedVariables false
set_option linter.unusedSimpArgs false
theorem ext_at (s : ByteArray) (k : Nat) (h : k < s.size) : s.extract k (k + 1) = ⟨#[gb s k]⟩ := by
  rw [← gb_eq s k h]
  apply ByteArray.ext
  rw [ByteArray.data_extract]
  have hd : s.data.size = s.size := rfl
  apply Array.ext
  · rw [Array.size_extract, hd]
    show min (k + 1) s.size - k = 1
    omega
  · intro i h1 h2
    have e : i = 0 := Nat.lt_one_iff.1 h2
    subst e
    rw [Array.getElem_extract]
    rfl
theorem ib_two (p q c : UInt8) : decide (0 ≤ Lib.indexByte [p, q] c) = (c == p || c == q) := by
  unfold Lib.indexByte Lib.indexByte Lib.indexByte
  by_cases h1 : p = c
  · subst h1; simp
  · have h1' : (p == c) = false := by simpa using h1
    have h1'' : (c == p) = false := by simpa using (Ne.symm h1)
    by_cases h2 : q = c
    · subst h2; simp [h1', h1'']
    · have h2' : (q == c) = false := by simpa using h2
      have h2'' : (c == q) = false := by simpa using (Ne.symm h2)
      simp [h1', h2', h1'', h2'']
set_option maxRecDepth 100000 in
set_option maxHeartbeats 1600000 in
theorem Tryd.signsAt (w : World) (s a : ByteArray) (hs : s.size ≤ 8) (ha : a.size ≤ 8) (x y : Nat) (hx : x < a.size) (hy : y < s.size) :
    Calls Tryd.prog 31 #[.agg #[.string s, .string a], .agg #[.int .i64 (x : Nat), .int .i64 (y : Nat)]] w fun e w' => e = .returned (.string ⟨#[gb s y, gb a x]⟩) ∧ Gr w w' := by
  have mixed : Tryd.prog.follows .mixedOrders = true := by kernel_rfl
  obtain ⟨W2, hW2⟩ : ∃ W, (w.alloc (.cells #[.string s, .string a] 28)).alloc (.cells #[.int .i64 (x : Nat), .int .i64 (y : Nat)] 47) = W := ⟨_, rfl⟩
  have GG := Lib.hid (show Gr w W2 by subst hW2; exact by repeat (first | exact Gr.refl _ | refine Gr.alloc ?_ _ | refine Gr.trans ?_ (by assumption) | refine Gr.drew ?_ | refine Gr.drewN ?_ _ | refine Gr.grow ?_ _ | refine Gr.setCell ?_ (by (try simp); (try omega)) _))
  have r0 := gr_all (Gr.refl W2) (a := ⟨w.heap.size, 0, none⟩) (v := .string s) (by subst hW2; simp [go_sem])
  have r1 := gr_all (Gr.refl W2) (a := ⟨w.heap.size, 1, none⟩) (v := .string a) (by subst hW2; simp [go_sem])
  have r2 := gr_all (Gr.refl W2) (a := ⟨w.heap.size + 1, 0, none⟩) (v := .int .i64 (x : Nat)) (by subst hW2; simp [go_sem])
  have r3 := gr_all (Gr.refl W2) (a := ⟨w.heap.size + 1, 1, none⟩) (v := .int .i64 (y : Nat)) (by subst hW2; simp [go_sem])
  have zx0 : (0 : Int) ≤ (x : Int) := by omega
  have zy0 : (0 : Int) ≤ (y : Int) := by omega
  have zx1 : (x : Int) ≤ 7 := by omega
  have zy1 : (y : Int) ≤ 7 := by omega
  have zx2 : (x : Int) + 1 ≤ (a.size : Int) := by omega
  have zy2 : (y : Int) + 1 ≤ (s.size : Int) := by omega
  have zx3 : (0 : Int) ≤ (x : Int) + 1 := by omega
  have zy3 : (0 : Int) ≤ (y : Int) + 1 := by omega
  have zx4 : (x : Int) ≤ (x : Int) + 1 := by omega
  have zy4 : (y : Int) ≤ (y : Int) + 1 := by omega
  have n1 : ((x : Int) + 1).toNat = x + 1 := by omega
  have n2 : ((y : Int) + 1).toNat = y + 1 := by omega
  have e1 := ext_at s y hy
  have e2 := ext_at a x hx
  have hadd := fun W => run_string_add (P := Tryd.prog) (w := W) ⟨#[gb s y]⟩ ⟨#[gb a x]⟩ (by have : (⟨#[gb s y]⟩ : ByteArray).size = 1 := rfl; omega) (by have : (⟨#[gb a x]⟩ : ByteArray).size = 1 := rfl; omega)
  have he : (⟨#[gb s y]⟩ ++ ⟨#[gb a x]⟩ : ByteArray) = ⟨#[gb s y, gb a x]⟩ := rfl
  have HE := Lib.hid he
  generalize gb s y = p at *
  generalize gb a x = q at *
  clear he
  go_enter Tryd.func31, Tryd.ntmps31
  go_wp2
  (refine wp_region_quiet_grown mixed (by kernel_rfl) ?_; (repeat (first | go_big_quiet_step ((fail)) | quiet_step ((fail)))); refine wpQuiet_nil ?_; intro _ hw'; obtain ⟨⟨nq, osq⟩, hw''⟩ := hw'; subst hw'')
  go_wp2
  go_ret
  exact ⟨rfl, GG.out.trans (by repeat (first | exact Gr.refl _ | refine Gr.alloc ?_ _ | refine Gr.trans ?_ (by assumption) | refine Gr.drew ?_ | refine Gr.drewN ?_ _ | refine Gr.grow ?_ _ | refine Gr.setCell ?_ (by (try simp); (try omega)) _))⟩
/-- what the program's step comes to -/
def iwV (s a : ByteArray) (x y j : Nat) : Value := if drv s a x y j then .tuple #[.agg #[.int .i64 ((x : Int) + dx j), .int .i64 ((y : Int) + dy j)], .bool true] else .tuple #[.agg #[.int .i64 0, .int .i64 0], .bool false]
theorem stp_nil (W H : Int) (u : Cr) (j : Nat) : stp W H [] u j = decide (onC W H (nx u j)) := by
  unfold stp has; simp
theorem sgc_sgn (j : Nat) (hj : j < 4) : (sgn j).toNat.toUInt8 = sgc j ∧ 0 ≤ sgn j ∧ sgn j < 128 := by
  have : j = 0 ∨ j = 1 ∨ j = 2 ∨ j = 3 := by omega
  rcases this with rfl | rfl | rfl | rfl <;> decide
theorem Tryd.hasRune (p q : UInt8) (j : Nat) (hj : j < 4) (b : Bool) (hb : (sgc j == p || sgc j == q) = b) (w : World) :
    Calls Tryd.prog 37 #[.string ⟨#[p, q]⟩, .int .i32 (sgn j)] w fun e w' => e = .returned (.bool b) ∧ w' = w := by
  obtain ⟨h1, h2, h3⟩ := sgc_sgn j hj
  have := Tryd.strings_ContainsRune_ascii ⟨#[p, q]⟩ (sgn j) w h2 h3
  rw [h1] at this
  have e : (⟨#[p, q]⟩ : ByteArray).data.toList = [p, q] := rfl
  rw [e, ib_two, hb] at this
  exact this
/-- a result of two cells behind two boxes, stored behind a walk -/
theorem resSet2 {w W : World} {A B : Obj} {x y : Value} {t : TypeId} (g : Gr (((w.alloc A).alloc B).alloc (.cells #[x, y] t)) W) (u v : Value) :
    ((W.setCell ⟨w.heap.size + 1 + 1, 0, none⟩ u).setCell ⟨w.heap.size + 1 + 1, 1, none⟩ v).cell? ⟨w.heap.size + 1 + 1, 0, none⟩ = some u ∧ ((W.setCell ⟨w.heap.size + 1 + 1, 0, none⟩ u).setCell ⟨w.heap.size + 1 + 1, 1, none⟩ v).cell? ⟨w.heap.size + 1 + 1, 1, none⟩ = some v :=
  two_set (g.keep0 (v := x) (by simp [go_sem])) (g.keep0 (v := y) (by simp [go_sem])) u v
set_option maxRecDepth 100000 in
set_option maxHeartbeats 4000000 in
theorem Tryd.iwStep (w : World) (s a : ByteArray) (hs : 2 ≤ s.size ∧ s.size ≤ 8) (ha : 2 ≤ a.size ∧ a.size ≤ 8) (x y : Nat) (hx : x < a.size) (hy : y < s.size) (j : Nat) (hj : j < 4) :
    Calls Tryd.prog 32 #[.agg #[.string s, .string a], .agg #[.int .i64 (x : Nat), .int .i64 (y : Nat)], .int .i32 (sgn j)] w fun e w' => e = .returned (iwV s a x y j) ∧ Gr w w' := by
  have mixed : Tryd.prog.follows .mixedOrders = true := by kernel_rfl
  have HS := Lib.hid (fun (W : World) => Tryd.signsAt W s a hs.2 ha.2 x y hx hy)
  have HC := Lib.hid (fun (b : Bool) hb (W : World) => Tryd.hasRune (gb s y) (gb a x) j hj b hb W)
  have HY := Lib.hid (fun (W : World) => Tryd.city W s a)
  have ho : onC (a.size : Int) (s.size : Int) ((x : Int), (y : Int)) := by unfold onC; simp only; omega
  have HT := Lib.hid (fun (W : World) => Tryd.iStep W a.size s.size 0 (.slice none 0 0) [] x y j hj (by omega) (by omega) List.Pairwise.nil ho (by decide) (OwnE.nil _ _ _ _ _))
  have hv : iwV s a x y j = if mayB s a x y j then (if onB a.size s.size ((x : Int) + dx j) ((y : Int) + dy j) then .tuple #[.agg #[.int .i64 ((x : Int) + dx j), .int .i64 ((y : Int) + dy j)], .bool true] else .tuple #[.agg #[.int .i64 0, .int .i64 0], .bool false]) else .tuple #[.agg #[.int .i64 0, .int .i64 0], .bool false] := by
    unfold iwV drv
    cases mayB s a x y j <;> simp
  have hi : itV a.size s.size [] x y j = if onB a.size s.size ((x : Int) + dx j) ((y : Int) + dy j) then .tuple #[.agg #[.int .i64 ((x : Int) + dx j), .int .i64 ((y : Int) + dy j)], .bool true] else .tuple #[.agg #[.int .i64 0, .int .i64 0], .bool false] := by
    unfold itV
    rw [stp_nil]
    have e : decide (onC (a.size : Int) (s.size : Int) (nx ((x : Int), (y : Int)) j)) = onB a.size s.size ((x : Int) + dx j) ((y : Int) + dy j) := rfl
    rw [e]
    cases onB (a.size : Int) (s.size : Int) ((x : Int) + dx j) ((y : Int) + dy j) <;> simp
  rw [hi] at HT
  rw [hv]
  clear hv hi ho
  obtain ⟨b, hb⟩ : ∃ b, mayB s a x y j = b := ⟨_, rfl⟩
  rw [hb]
  have HD := Lib.hid (HC.out b hb)
  clear HC hb
  generalize (x : Int) + dx j = x1 at *
  generalize (y : Int) + dy j = y1 at *
  generalize onB a.size s.size x1 y1 = o at *
  generalize gb s y = p at *
  generalize gb a x = q at *
  generalize sgn j = c at *
  cases b
  · simp only [Bool.false_eq_true, if_false]
    clear HT HY
    go_enter Tryd.func32, Tryd.ntmps32
    go_wp2_with (first | (go_at_call 31; refine (HS.out _).mono ?_; rintro e w1 ⟨rfl, hbW⟩; have hcW := (bcell hbW.below).1; have hfW := (bcell hbW.below).2; (try have hzW : w.heap.size < w1.heap.size := by have hq := hbW.below.size; (try simp at hq); omega); (try have hyW : w.heap.size + 1 < w1.heap.size := by have hq := hbW.below.size; (try simp at hq); omega); (try have hxW : w.heap.size + 2 < w1.heap.size := by have hq := hbW.below.size; (try simp at hq); omega)) | (go_at_call 37; refine (HD.out _).mono ?_; rintro e w2 ⟨rfl, rfl⟩))
    obtain ⟨q0, q1⟩ := resSet2 (w := w) hbW (.int .i64 0) (.int .i64 0)
    refine bodyPost_ret (v := .tuple #[.agg #[.int .i64 0, .int .i64 0], .bool false]) ?_ rfl ⟨rfl, ?_⟩
    · simp [results, Tryd.results32, go_sem, q0, q1]
    · exact by repeat (first | exact Gr.refl _ | refine Gr.alloc ?_ _ | refine Gr.trans ?_ (by assumption) | refine Gr.drew ?_ | refine Gr.drewN ?_ _ | refine Gr.grow ?_ _ | refine Gr.setCell ?_ (by (try simp); (try omega)) _)
  · simp only [if_true]
    obtain ⟨xr, yr, hr⟩ : ∃ xr yr : Int, (if o = true then Value.tuple #[.agg #[.int .i64 x1, .int .i64 y1], .bool true] else .tuple #[.agg #[.int .i64 0, .int .i64 0], .bool false]) = .tuple #[.agg #[.int .i64 xr, .int .i64 yr], .bool o] := by
      cases o
      · exact ⟨0, 0, rfl⟩
      · exact ⟨x1, y1, rfl⟩
    rw [hr] at HT ⊢
    clear hr
    go_enter Tryd.func32, Tryd.ntmps32
    go_wp2_with (first | (go_at_call 31; refine (HS.out _).mono ?_; rintro e w1 ⟨rfl, hbW⟩; have hcW := (bcell hbW.below).1; have hfW := (bcell hbW.below).2; (try have hzW : w.heap.size < w1.heap.size := by have hq := hbW.below.size; (try simp at hq); omega); (try have hyW : w.heap.size + 1 < w1.heap.size := by have hq := hbW.below.size; (try simp at hq); omega); (try have hxW : w.heap.size + 2 < w1.heap.size := by have hq := hbW.below.size; (try simp at hq); omega)) | (go_at_call 37; refine (HD.out _).mono ?_; rintro e w2 ⟨rfl, rfl⟩))
    have r0 := gr_all hbW (a := ⟨w.heap.size, 0, none⟩) (v := .string s) (by simp [go_sem])
    have r1 := gr_all hbW (a := ⟨w.heap.size, 1, none⟩) (v := .string a) (by simp [go_sem])
    have r2 := gr_all hbW (a := ⟨w.heap.size + 1, 0, none⟩) (v := .int .i64 (x : Nat)) (by simp [go_sem])
    have r3 := gr_all hbW (a := ⟨w.heap.size + 1, 1, none⟩) (v := .int .i64 (y : Nat)) (by simp [go_sem])
    have r4 := gr_all hbW (a := ⟨w.heap.size + 1 + 1, 0, none⟩) (v := .int .i64 0) (by simp [go_sem])
    have r5 := gr_all hbW (a := ⟨w.heap.size + 1 + 1, 1, none⟩) (v := .int .i64 0) (by simp [go_sem])
    have f0 := gr_all_f hbW (b := w.heap.size + 1 + 1) (o := 0) (by simp) (by simp [go_sem])
    have f1 := gr_all_f hbW (b := w.heap.size + 1 + 1) (o := 1) (by simp) (by simp [go_sem])
    (refine wp_region_grown_tail 7 mixed (by kernel_rfl) ?_; simp only [List.take_succ_cons, List.take_zero, List.drop_succ_cons, List.drop_zero]; (repeat (first | go_big_quiet_step ((first | (go_at_call 24; exact Calls.grown_of (HY.out _)) | (go_at_call 38; exact Calls.grown_of (HT.out _)))) | quiet_step ((first | (go_at_call 24; exact Calls.grown_of (HY.out _)) | (go_at_call 38; exact Calls.grown_of (HT.out _)))))); refine wpQuiet_nil ?_; intro _ hw'; obtain ⟨⟨nq, osq⟩, hw''⟩ := hw'; subst hw'')
    go_wp2_with fail
    obtain ⟨q0, q1⟩ := resSet2 (w := w) (W := Go.Sort.grow (w2.drewN nq) osq) (Gr.grow (Gr.drewN hbW nq) osq) (.int .i64 xr) (.int .i64 yr)
    refine bodyPost_ret (v := .tuple #[.agg #[.int .i64 xr, .int .i64 yr], .bool o]) ?_ rfl ⟨rfl, ?_⟩
    · simp [results, Tryd.results32, go_sem, q0, q1]
    · exact by repeat (first | exact Gr.refl _ | refine Gr.alloc ?_ _ | refine Gr.trans ?_ (by assumption) | refine Gr.drew ?_ | refine Gr.drewN ?_ _ | refine Gr.grow ?_ _ | refine Gr.setCell ?_ (by (try simp); (try omega)) _)
end Go.Proofs
