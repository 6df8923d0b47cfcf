/-
  Contracts of chapter 4: the block between two corners, the program's step.
-/
import Derived.Test.YtfdiiichjopncaaDoorBrG
import Derived.ChangeKeysEq
namespace Go.Proofs
open Go.RowKit Av
set_option linter.unusedVariables false
set_option linter.unusedSimpArgs false
set_option maxRecDepth 100000 in
set_option maxHeartbeats 1600000 in
theorem Tryd.blockBetween (w : World) (a1 a2 c1 c2 : Int) (p q : Int) (t : Bool) (hv : bb (a1, a2) (c1, c2) = (p, q, t)) :
    Calls Tryd.prog 52 #[.agg #[.int .i64 a1, .int .i64 a2], .agg #[.int .i64 c1, .int .i64 c2]] w fun e w' => e = .returned (.agg #[.int .i64 p, .int .i64 q, .bool t]) ∧ Gr w w' := by
  have mixed : Tryd.prog.follows .mixedOrders = true := by kernel_rfl
  simp only [bb, Prod.mk.injEq] at hv
  obtain ⟨h1, h2, rfl⟩ := hv
  have H1 := Lib.hid h1
  have H2 := Lib.hid h2
  clear h1 h2
  go_enter Tryd.func52, Tryd.ntmps52
  go_wp2
  all_goals
    refine bodyPost_ret (v := .agg #[.int .i64 p, .int .i64 q, .bool (decide (a1 = c1))]) ?_ rfl ⟨rfl, by repeat (first | exact Gr.refl _ | refine Gr.alloc ?_ _ | refine Gr.trans ?_ (by assumption) | refine Gr.drew ?_ | refine Gr.drewN ?_ _ | refine Gr.grow ?_ _ | refine Gr.setCell ?_ (by (try simp); (try omega)) _)⟩
    have h1 := H1.out
    have h2 := H2.out
    simp [results, Tryd.results52, go_sem]
    exact ⟨by omega, by omega, rfl⟩
theorem Tryd.eqlC (a b c d : Int) (w : World) : Sem.run Tryd.prog (Op.equalIn 10000 47 (.agg #[.int .i64 a, .int .i64 b]) (.agg #[.int .i64 c, .int .i64 d])) w = .ok (decide ((a, b) = (c, d))) w := by
  have u3 := Tryd.underlying3
  have a3 := Tryd.isAgg3
  have z3 := Tryd.sizeOf3
  obtain ⟨i, hi⟩ : ∃ i, Tryd.prog.info? 3 = some i := Option.isSome_iff_exists.1 (by kernel_rfl)
  have hc : Tryd.prog.cellsOf 3 = 1 := by kernel_rfl
  rw [show (10000 : Nat) = 9999 + 1 from rfl, run_equalIn_array (w := w) 9999 _ _ Tryd.underlying47 hi, hc, show List.range 2 = [0, 1] from rfl]
  simp only [Op.eqItems]
  go_simp
  by_cases h1 : a = c <;> by_cases h2 : b = d <;> simp [h1, h2]
/-- what the program's step comes to -/
def itV (W H : Int) (cl : List Blk) (x y : Int) (j : Nat) : Value :=
  if onB W H (x + dx j) (y + dy j) then .tuple #[.agg #[.int .i64 (x + dx j), .int .i64 (y + dy j)], .bool (stp W H cl (x, y) j)] else .tuple #[.agg #[.int .i64 0, .int .i64 0], .bool false]
set_option maxRecDepth 100000 in
set_option maxHeartbeats 1600000 in
theorem Tryd.iStep0 (w : World) (W H : Int) (B : Nat) (a : Value) (ps : List Blk) (x y : Int) (hW : 1 ≤ W ∧ W ≤ 8) (hH : 1 ≤ H ∧ H ≤ 8) (hu : Up ps) (ho : onC W H (x, y)) (hl : ps.length ≤ 1048576) (h : OwnB w B a ps) :
    Calls Tryd.prog 38 #[.agg #[.int .i64 W, .int .i64 H, a], .agg #[.int .i64 x, .int .i64 y], .int .i32 101] w fun e w' => e = .returned (itV W H ps x y 0) ∧ Gr w w' := by
  have mixed : Tryd.prog.follows .mixedOrders = true := by kernel_rfl
  have hbb : bb (x, y) ((x + 1), y) = (x, y, false) := by
    have e : nx (x, y) 0 = ((x + 1), y) := by simp [nx, dx, dy] <;> omega
    rw [← e]; exact sb_eq x y 0 (by decide)
  have hst : stp W H ps (x, y) 0 = (onB W H (x + 1) y && !has ps (x, y, false)) := by
    have : nx (x, y) 0 = ((x + 1), y) := by simp [nx, dx, dy] <;> omega
    unfold stp
    rw [this, hbb]
    rfl
  have hno : onB W H (x + dx 0) (y + dy 0) = onB W H (x + 1) y := by
    have : nx (x, y) 0 = ((x + 1), y) := by simp [nx, dx, dy] <;> omega
    unfold onB
    exact congrArg (fun q => decide (onC W H q)) this
  have HP := Lib.hid (fun (X : World) (g : Gr w X) => Tryd.placeOfClosed X W H B a ps x y false hu hl (h.gr g))
  have HB := Lib.hid (fun (X : World) => Tryd.blockBetween X x y (x + 1) y x y false hbb)
  have hE := fun (X : World) => Tryd.eqlC (x + 1) y x y X
  rw [decide_eq_false (by simp only [Prod.mk.injEq]; omega)] at hE
  obtain ⟨o1, o2, o3, o4⟩ := ho
  simp only at o1 o2 o3 o4
  obtain ⟨A, c, rfl, h⟩ := OwnE.eta h
  clear h hbb hu
  unfold itV
  rw [hno, hst]
  clear hno hst
  simp only [dx, dy]
  generalize plc ps (x, y, false) = k at *
  generalize has ps (x, y, false) = t at *
  cases h1 : onB W H (x + 1) y
  · have H1 := Lib.hid h1
    clear h1
    simp only [Bool.false_eq_true, if_false, Bool.false_and]
    go_enter Tryd.func38, Tryd.ntmps38
    go_wp2_with (first | (go_at_call 30; refine (Tryd.hasCorner W H _ _ _ _ _ hW hH _ H1.out _).mono ?_; rintro e w1 ⟨rfl, hbW⟩; have hcW := (bcell hbW.below).1; have hfW := (bcell hbW.below).2; (try have hzW : w.heap.size < w1.heap.size := by have hq := hbW.below.size; (try simp at hq); omega); (try have hyW : w.heap.size + 1 < w1.heap.size := by have hq := hbW.below.size; (try simp at hq); omega); (try have hxW : w.heap.size + 2 < w1.heap.size := by have hq := hbW.below.size; (try simp at hq); omega)))
    have q0 := hbW.keep0 (a := ⟨w.heap.size + 1 + 1, 0, none⟩) (v := .int .i64 0) (by simp [go_sem])
    have q1 := hbW.keep0 (a := ⟨w.heap.size + 1 + 1, 1, none⟩) (v := .int .i64 0) (by simp [go_sem])
    refine bodyPost_ret (v := .tuple #[.agg #[.int .i64 0, .int .i64 0], .bool false]) (by simp [results, Tryd.results38, go_sem, q0, q1]) rfl ⟨rfl, ?_⟩
    exact Gr.setCell (Gr.setCell (by repeat (first | exact Gr.refl _ | refine Gr.alloc ?_ _ | refine Gr.trans ?_ (by assumption) | refine Gr.drew ?_ | refine Gr.drewN ?_ _ | refine Gr.grow ?_ _ | refine Gr.setCell ?_ (by (try simp); (try omega)) _)) (by simp; omega) _) (by simp; omega) _
  · have H1 := Lib.hid h1
    clear h1
    simp only [if_true, Bool.true_and]
    go_enter Tryd.func38, Tryd.ntmps38
    go_wp2_with (first | (go_at_call 30; refine (Tryd.hasCorner W H _ _ _ _ _ hW hH _ H1.out _).mono ?_; rintro e w1 ⟨rfl, hbW⟩; have hcW := (bcell hbW.below).1; have hfW := (bcell hbW.below).2; (try have hzW : w.heap.size < w1.heap.size := by have hq := hbW.below.size; (try simp at hq); omega); (try have hyW : w.heap.size + 1 < w1.heap.size := by have hq := hbW.below.size; (try simp at hq); omega); (try have hxW : w.heap.size + 2 < w1.heap.size := by have hq := hbW.below.size; (try simp at hq); omega)))
    have c0 := gr_all hbW (a := ⟨w.heap.size, 0, none⟩) (v := .int .i64 W) (by simp [go_sem])
    have c1 := gr_all hbW (a := ⟨w.heap.size, 1, none⟩) (v := .int .i64 H) (by simp [go_sem])
    have c2 := gr_all hbW (a := ⟨w.heap.size, 2, none⟩) (v := .slice A ps.length c) (by simp [go_sem])
    have c3 := gr_all hbW (a := ⟨w.heap.size + 1, 0, none⟩) (v := .int .i64 x) (by simp [go_sem])
    have c4 := gr_all hbW (a := ⟨w.heap.size + 1, 1, none⟩) (v := .int .i64 y) (by simp [go_sem])
    have c5 := gr_all hbW (a := ⟨w.heap.size + 1 + 1 + 1, 0, none⟩) (v := .int .i64 (x + 1)) (by simp [go_sem])
    have c6 := gr_all hbW (a := ⟨w.heap.size + 1 + 1 + 1, 1, none⟩) (v := .int .i64 y) (by simp [go_sem])
    have r0 := gr_all hbW (a := ⟨w.heap.size + 1 + 1, 0, none⟩) (v := .int .i64 0) (by simp [go_sem])
    have r1 := gr_all hbW (a := ⟨w.heap.size + 1 + 1, 1, none⟩) (v := .int .i64 0) (by simp [go_sem])
    have r2 := gr_all_f hbW (b := w.heap.size + 1 + 1) (o := 0) (by simp) (by simp [go_sem])
    have r3 := gr_all_f hbW (b := w.heap.size + 1 + 1) (o := 1) (by simp) (by simp [go_sem])
    have GW : Gr w w1 := (by repeat (first | exact Gr.refl _ | refine Gr.alloc ?_ _ | refine Gr.trans ?_ (by assumption) | refine Gr.drew ?_ | refine Gr.drewN ?_ _ | refine Gr.grow ?_ _ | refine Gr.setCell ?_ (by (try simp); (try omega)) _))
    have HGW := Lib.hid GW
    clear hcW hfW
    (refine wp_region_quiet_grown mixed (by kernel_rfl) ?_; (repeat (first | go_big_quiet_step ((first | (go_at_call 52; exact Calls.grown_of (HB.out _)) | (go_at_call 51; exact Calls.grown_of (HP.out _ (Gr.grow (Gr.drewN HGW.out _) _))))) | quiet_step ((first | (go_at_call 52; exact Calls.grown_of (HB.out _)) | (go_at_call 51; exact Calls.grown_of (HP.out _ (Gr.grow (Gr.drewN HGW.out _) _))))))); refine wpQuiet_nil ?_; intro _ hw'; obtain ⟨⟨nq, osq⟩, hw''⟩ := hw'; subst hw'')
    go_wp2
    refine bodyPost_ret (v := .tuple #[.agg #[.int .i64 (x + 1), .int .i64 y], .bool !t]) (by simp [results, Tryd.results38, go_sem, r0, r1]) rfl ⟨?_, ?_⟩
    · simp <;> omega
    · exact Gr.setCell (Gr.setCell (Gr.grow (Gr.drewN HGW.out _) _) (by simp; omega) _) (by simp; omega) _
set_option maxRecDepth 100000 in
set_option maxHeartbeats 1600000 in
theorem Tryd.iStep1 (w : World) (W H : Int) (B : Nat) (a : Value) (ps : List Blk) (x y : Int) (hW : 1 ≤ W ∧ W ≤ 8) (hH : 1 ≤ H ∧ H ≤ 8) (hu : Up ps) (ho : onC W H (x, y)) (hl : ps.length ≤ 1048576) (h : OwnB w B a ps) :
    Calls Tryd.prog 38 #[.agg #[.int .i64 W, .int .i64 H, a], .agg #[.int .i64 x, .int .i64 y], .int .i32 110] w fun e w' => e = .returned (itV W H ps x y 1) ∧ Gr w w' := by
  have mixed : Tryd.prog.follows .mixedOrders = true := by kernel_rfl
  have hbb : bb (x, y) (x, (y + 1)) = (x, y, true) := by
    have e : nx (x, y) 1 = (x, (y + 1)) := by simp [nx, dx, dy] <;> omega
    rw [← e]; exact sb_eq x y 1 (by decide)
  have hst : stp W H ps (x, y) 1 = (onB W H x (y + 1) && !has ps (x, y, true)) := by
    have : nx (x, y) 1 = (x, (y + 1)) := by simp [nx, dx, dy] <;> omega
    unfold stp
    rw [this, hbb]
    rfl
  have hno : onB W H (x + dx 1) (y + dy 1) = onB W H x (y + 1) := by
    have : nx (x, y) 1 = (x, (y + 1)) := by simp [nx, dx, dy] <;> omega
    unfold onB
    exact congrArg (fun q => decide (onC W H q)) this
  have HP := Lib.hid (fun (X : World) (g : Gr w X) => Tryd.placeOfClosed X W H B a ps x y true hu hl (h.gr g))
  have HB := Lib.hid (fun (X : World) => Tryd.blockBetween X x y x (y + 1) x y true hbb)
  have hE := fun (X : World) => Tryd.eqlC x (y + 1) x y X
  rw [decide_eq_false (by simp only [Prod.mk.injEq]; omega)] at hE
  obtain ⟨o1, o2, o3, o4⟩ := ho
  simp only at o1 o2 o3 o4
  obtain ⟨A, c, rfl, h⟩ := OwnE.eta h
  clear h hbb hu
  unfold itV
  rw [hno, hst]
  clear hno hst
  simp only [dx, dy]
  generalize plc ps (x, y, true) = k at *
  generalize has ps (x, y, true) = t at *
  cases h1 : onB W H x (y + 1)
  · have H1 := Lib.hid h1
    clear h1
    simp only [Bool.false_eq_true, if_false, Bool.false_and]
    go_enter Tryd.func38, Tryd.ntmps38
    go_wp2_with (first | (go_at_call 30; refine (Tryd.hasCorner W H _ _ _ _ _ hW hH _ H1.out _).mono ?_; rintro e w1 ⟨rfl, hbW⟩; have hcW := (bcell hbW.below).1; have hfW := (bcell hbW.below).2; (try have hzW : w.heap.size < w1.heap.size := by have hq := hbW.below.size; (try simp at hq); omega); (try have hyW : w.heap.size + 1 < w1.heap.size := by have hq := hbW.below.size; (try simp at hq); omega); (try have hxW : w.heap.size + 2 < w1.heap.size := by have hq := hbW.below.size; (try simp at hq); omega)))
    have q0 := hbW.keep0 (a := ⟨w.heap.size + 1 + 1, 0, none⟩) (v := .int .i64 0) (by simp [go_sem])
    have q1 := hbW.keep0 (a := ⟨w.heap.size + 1 + 1, 1, none⟩) (v := .int .i64 0) (by simp [go_sem])
    refine bodyPost_ret (v := .tuple #[.agg #[.int .i64 0, .int .i64 0], .bool false]) (by simp [results, Tryd.results38, go_sem, q0, q1]) rfl ⟨rfl, ?_⟩
    exact Gr.setCell (Gr.setCell (by repeat (first | exact Gr.refl _ | refine Gr.alloc ?_ _ | refine Gr.trans ?_ (by assumption) | refine Gr.drew ?_ | refine Gr.drewN ?_ _ | refine Gr.grow ?_ _ | refine Gr.setCell ?_ (by (try simp); (try omega)) _)) (by simp; omega) _) (by simp; omega) _
  · have H1 := Lib.hid h1
    clear h1
    simp only [if_true, Bool.true_and]
    go_enter Tryd.func38, Tryd.ntmps38
    go_wp2_with (first | (go_at_call 30; refine (Tryd.hasCorner W H _ _ _ _ _ hW hH _ H1.out _).mono ?_; rintro e w1 ⟨rfl, hbW⟩; have hcW := (bcell hbW.below).1; have hfW := (bcell hbW.below).2; (try have hzW : w.heap.size < w1.heap.size := by have hq := hbW.below.size; (try simp at hq); omega); (try have hyW : w.heap.size + 1 < w1.heap.size := by have hq := hbW.below.size; (try simp at hq); omega); (try have hxW : w.heap.size + 2 < w1.heap.size := by have hq := hbW.below.size; (try simp at hq); omega)))
    have c0 := gr_all hbW (a := ⟨w.heap.size, 0, none⟩) (v := .int .i64 W) (by simp [go_sem])
    have c1 := gr_all hbW (a := ⟨w.heap.size, 1, none⟩) (v := .int .i64 H) (by simp [go_sem])
    have c2 := gr_all hbW (a := ⟨w.heap.size, 2, none⟩) (v := .slice A ps.length c) (by simp [go_sem])
    have c3 := gr_all hbW (a := ⟨w.heap.size + 1, 0, none⟩) (v := .int .i64 x) (by simp [go_sem])
    have c4 := gr_all hbW (a := ⟨w.heap.size + 1, 1, none⟩) (v := .int .i64 y) (by simp [go_sem])
    have c5 := gr_all hbW (a := ⟨w.heap.size + 1 + 1 + 1, 0, none⟩) (v := .int .i64 x) (by simp [go_sem])
    have c6 := gr_all hbW (a := ⟨w.heap.size + 1 + 1 + 1, 1, none⟩) (v := .int .i64 (y + 1)) (by simp [go_sem])
    have r0 := gr_all hbW (a := ⟨w.heap.size + 1 + 1, 0, none⟩) (v := .int .i64 0) (by simp [go_sem])
    have r1 := gr_all hbW (a := ⟨w.heap.size + 1 + 1, 1, none⟩) (v := .int .i64 0) (by simp [go_sem])
    have r2 := gr_all_f hbW (b := w.heap.size + 1 + 1) (o := 0) (by simp) (by simp [go_sem])
    have r3 := gr_all_f hbW (b := w.heap.size + 1 + 1) (o := 1) (by simp) (by simp [go_sem])
    have GW : Gr w w1 := (by repeat (first | exact Gr.refl _ | refine Gr.alloc ?_ _ | refine Gr.trans ?_ (by assumption) | refine Gr.drew ?_ | refine Gr.drewN ?_ _ | refine Gr.grow ?_ _ | refine Gr.setCell ?_ (by (try simp); (try omega)) _))
    have HGW := Lib.hid GW
    clear hcW hfW
    (refine wp_region_quiet_grown mixed (by kernel_rfl) ?_; (repeat (first | go_big_quiet_step ((first | (go_at_call 52; exact Calls.grown_of (HB.out _)) | (go_at_call 51; exact Calls.grown_of (HP.out _ (Gr.grow (Gr.drewN HGW.out _) _))))) | quiet_step ((first | (go_at_call 52; exact Calls.grown_of (HB.out _)) | (go_at_call 51; exact Calls.grown_of (HP.out _ (Gr.grow (Gr.drewN HGW.out _) _))))))); refine wpQuiet_nil ?_; intro _ hw'; obtain ⟨⟨nq, osq⟩, hw''⟩ := hw'; subst hw'')
    go_wp2
    refine bodyPost_ret (v := .tuple #[.agg #[.int .i64 x, .int .i64 (y + 1)], .bool !t]) (by simp [results, Tryd.results38, go_sem, r0, r1]) rfl ⟨?_, ?_⟩
    · simp <;> omega
    · exact Gr.setCell (Gr.setCell (Gr.grow (Gr.drewN HGW.out _) _) (by simp; omega) _) (by simp; omega) _
set_option maxRecDepth 100000 in
set_option maxHeartbeats 1600000 in
theorem Tryd.iStep2 (w : World) (W H : Int) (B : Nat) (a : Value) (ps : List Blk) (x y : Int) (hW : 1 ≤ W ∧ W ≤ 8) (hH : 1 ≤ H ∧ H ≤ 8) (hu : Up ps) (ho : onC W H (x, y)) (hl : ps.length ≤ 1048576) (h : OwnB w B a ps) :
    Calls Tryd.prog 38 #[.agg #[.int .i64 W, .int .i64 H, a], .agg #[.int .i64 x, .int .i64 y], .int .i32 115] w fun e w' => e = .returned (itV W H ps x y 2) ∧ Gr w w' := by
  have mixed : Tryd.prog.follows .mixedOrders = true := by kernel_rfl
  have hbb : bb (x, y) (x, (y - 1)) = (x, (y - 1), true) := by
    have e : nx (x, y) 2 = (x, (y - 1)) := by simp [nx, dx, dy] <;> omega
    rw [← e]; exact sb_eq x y 2 (by decide)
  have hst : stp W H ps (x, y) 2 = (onB W H x (y - 1) && !has ps (x, (y - 1), true)) := by
    have : nx (x, y) 2 = (x, (y - 1)) := by simp [nx, dx, dy] <;> omega
    unfold stp
    rw [this, hbb]
    rfl
  have hno : onB W H (x + dx 2) (y + dy 2) = onB W H x (y - 1) := by
    have : nx (x, y) 2 = (x, (y - 1)) := by simp [nx, dx, dy] <;> omega
    unfold onB
    exact congrArg (fun q => decide (onC W H q)) this
  have HP := Lib.hid (fun (X : World) (g : Gr w X) => Tryd.placeOfClosed X W H B a ps x (y - 1) true hu hl (h.gr g))
  have HB := Lib.hid (fun (X : World) => Tryd.blockBetween X x y x (y - 1) x (y - 1) true hbb)
  have hE := fun (X : World) => Tryd.eqlC x (y - 1) x y X
  rw [decide_eq_false (by simp only [Prod.mk.injEq]; omega)] at hE
  obtain ⟨o1, o2, o3, o4⟩ := ho
  simp only at o1 o2 o3 o4
  obtain ⟨A, c, rfl, h⟩ := OwnE.eta h
  clear h hbb hu
  unfold itV
  rw [hno, hst]
  clear hno hst
  simp only [dx, dy]
  generalize plc ps (x, (y - 1), true) = k at *
  generalize has ps (x, (y - 1), true) = t at *
  cases h1 : onB W H x (y - 1)
  · have H1 := Lib.hid h1
    clear h1
    simp only [Bool.false_eq_true, if_false, Bool.false_and]
    go_enter Tryd.func38, Tryd.ntmps38
    go_wp2_with (first | (go_at_call 30; refine (Tryd.hasCorner W H _ _ _ _ _ hW hH _ H1.out _).mono ?_; rintro e w1 ⟨rfl, hbW⟩; have hcW := (bcell hbW.below).1; have hfW := (bcell hbW.below).2; (try have hzW : w.heap.size < w1.heap.size := by have hq := hbW.below.size; (try simp at hq); omega); (try have hyW : w.heap.size + 1 < w1.heap.size := by have hq := hbW.below.size; (try simp at hq); omega); (try have hxW : w.heap.size + 2 < w1.heap.size := by have hq := hbW.below.size; (try simp at hq); omega)))
    have q0 := hbW.keep0 (a := ⟨w.heap.size + 1 + 1, 0, none⟩) (v := .int .i64 0) (by simp [go_sem])
    have q1 := hbW.keep0 (a := ⟨w.heap.size + 1 + 1, 1, none⟩) (v := .int .i64 0) (by simp [go_sem])
    refine bodyPost_ret (v := .tuple #[.agg #[.int .i64 0, .int .i64 0], .bool false]) (by simp [results, Tryd.results38, go_sem, q0, q1]) rfl ⟨rfl, ?_⟩
    exact Gr.setCell (Gr.setCell (by repeat (first | exact Gr.refl _ | refine Gr.alloc ?_ _ | refine Gr.trans ?_ (by assumption) | refine Gr.drew ?_ | refine Gr.drewN ?_ _ | refine Gr.grow ?_ _ | refine Gr.setCell ?_ (by (try simp); (try omega)) _)) (by simp; omega) _) (by simp; omega) _
  · have H1 := Lib.hid h1
    clear h1
    simp only [if_true, Bool.true_and]
    go_enter Tryd.func38, Tryd.ntmps38
    go_wp2_with (first | (go_at_call 30; refine (Tryd.hasCorner W H _ _ _ _ _ hW hH _ H1.out _).mono ?_; rintro e w1 ⟨rfl, hbW⟩; have hcW := (bcell hbW.below).1; have hfW := (bcell hbW.below).2; (try have hzW : w.heap.size < w1.heap.size := by have hq := hbW.below.size; (try simp at hq); omega); (try have hyW : w.heap.size + 1 < w1.heap.size := by have hq := hbW.below.size; (try simp at hq); omega); (try have hxW : w.heap.size + 2 < w1.heap.size := by have hq := hbW.below.size; (try simp at hq); omega)))
    have c0 := gr_all hbW (a := ⟨w.heap.size, 0, none⟩) (v := .int .i64 W) (by simp [go_sem])
    have c1 := gr_all hbW (a := ⟨w.heap.size, 1, none⟩) (v := .int .i64 H) (by simp [go_sem])
    have c2 := gr_all hbW (a := ⟨w.heap.size, 2, none⟩) (v := .slice A ps.length c) (by simp [go_sem])
    have c3 := gr_all hbW (a := ⟨w.heap.size + 1, 0, none⟩) (v := .int .i64 x) (by simp [go_sem])
    have c4 := gr_all hbW (a := ⟨w.heap.size + 1, 1, none⟩) (v := .int .i64 y) (by simp [go_sem])
    have c5 := gr_all hbW (a := ⟨w.heap.size + 1 + 1 + 1, 0, none⟩) (v := .int .i64 x) (by simp [go_sem])
    have c6 := gr_all hbW (a := ⟨w.heap.size + 1 + 1 + 1, 1, none⟩) (v := .int .i64 (y - 1)) (by simp [go_sem])
    have r0 := gr_all hbW (a := ⟨w.heap.size + 1 + 1, 0, none⟩) (v := .int .i64 0) (by simp [go_sem])
    have r1 := gr_all hbW (a := ⟨w.heap.size + 1 + 1, 1, none⟩) (v := .int .i64 0) (by simp [go_sem])
    have r2 := gr_all_f hbW (b := w.heap.size + 1 + 1) (o := 0) (by simp) (by simp [go_sem])
    have r3 := gr_all_f hbW (b := w.heap.size + 1 + 1) (o := 1) (by simp) (by simp [go_sem])
    have GW : Gr w w1 := (by repeat (first | exact Gr.refl _ | refine Gr.alloc ?_ _ | refine Gr.trans ?_ (by assumption) | refine Gr.drew ?_ | refine Gr.drewN ?_ _ | refine Gr.grow ?_ _ | refine Gr.setCell ?_ (by (try simp); (try omega)) _))
    have HGW := Lib.hid GW
    clear hcW hfW
    (refine wp_region_quiet_grown mixed (by kernel_rfl) ?_; (repeat (first | go_big_quiet_step ((first | (go_at_call 52; exact Calls.grown_of (HB.out _)) | (go_at_call 51; exact Calls.grown_of (HP.out _ (Gr.grow (Gr.drewN HGW.out _) _))))) | quiet_step ((first | (go_at_call 52; exact Calls.grown_of (HB.out _)) | (go_at_call 51; exact Calls.grown_of (HP.out _ (Gr.grow (Gr.drewN HGW.out _) _))))))); refine wpQuiet_nil ?_; intro _ hw'; obtain ⟨⟨nq, osq⟩, hw''⟩ := hw'; subst hw'')
    go_wp2
    refine bodyPost_ret (v := .tuple #[.agg #[.int .i64 x, .int .i64 (y - 1)], .bool !t]) (by simp [results, Tryd.results38, go_sem, r0, r1]) rfl ⟨?_, ?_⟩
    · simp <;> omega
    · exact Gr.setCell (Gr.setCell (Gr.grow (Gr.drewN HGW.out _) _) (by simp; omega) _) (by simp; omega) _
set_option maxRecDepth 100000 in
set_option maxHeartbeats 1600000 in
theorem Tryd.iStep3 (w : World) (W H : Int) (B : Nat) (a : Value) (ps : List Blk) (x y : Int) (hW : 1 ≤ W ∧ W ≤ 8) (hH : 1 ≤ H ∧ H ≤ 8) (hu : Up ps) (ho : onC W H (x, y)) (hl : ps.length ≤ 1048576) (h : OwnB w B a ps) :
    Calls Tryd.prog 38 #[.agg #[.int .i64 W, .int .i64 H, a], .agg #[.int .i64 x, .int .i64 y], .int .i32 119] w fun e w' => e = .returned (itV W H ps x y 3) ∧ Gr w w' := by
  have mixed : Tryd.prog.follows .mixedOrders = true := by kernel_rfl
  have hbb : bb (x, y) ((x - 1), y) = ((x - 1), y, false) := by
    have e : nx (x, y) 3 = ((x - 1), y) := by simp [nx, dx, dy] <;> omega
    rw [← e]; exact sb_eq x y 3 (by decide)
  have hst : stp W H ps (x, y) 3 = (onB W H (x - 1) y && !has ps ((x - 1), y, false)) := by
    have : nx (x, y) 3 = ((x - 1), y) := by simp [nx, dx, dy] <;> omega
    unfold stp
    rw [this, hbb]
    rfl
  have hno : onB W H (x + dx 3) (y + dy 3) = onB W H (x - 1) y := by
    have : nx (x, y) 3 = ((x - 1), y) := by simp [nx, dx, dy] <;> omega
    unfold onB
    exact congrArg (fun q => decide (onC W H q)) this
  have HP := Lib.hid (fun (X : World) (g : Gr w X) => Tryd.placeOfClosed X W H B a ps (x - 1) y false hu hl (h.gr g))
  have HB := Lib.hid (fun (X : World) => Tryd.blockBetween X x y (x - 1) y (x - 1) y false hbb)
  have hE := fun (X : World) => Tryd.eqlC (x - 1) y x y X
  rw [decide_eq_false (by simp only [Prod.mk.injEq]; omega)] at hE
  obtain ⟨o1, o2, o3, o4⟩ := ho
  simp only at o1 o2 o3 o4
  obtain ⟨A, c, rfl, h⟩ := OwnE.eta h
  clear h hbb hu
  unfold itV
  rw [hno, hst]
  clear hno hst
  simp only [dx, dy]
  generalize plc ps ((x - 1), y, false) = k at *
  generalize has ps ((x - 1), y, false) = t at *
  cases h1 : onB W H (x - 1) y
  · have H1 := Lib.hid h1
    clear h1
    simp only [Bool.false_eq_true, if_false, Bool.false_and]
    go_enter Tryd.func38, Tryd.ntmps38
    go_wp2_with (first | (go_at_call 30; refine (Tryd.hasCorner W H _ _ _ _ _ hW hH _ H1.out _).mono ?_; rintro e w1 ⟨rfl, hbW⟩; have hcW := (bcell hbW.below).1; have hfW := (bcell hbW.below).2; (try have hzW : w.heap.size < w1.heap.size := by have hq := hbW.below.size; (try simp at hq); omega); (try have hyW : w.heap.size + 1 < w1.heap.size := by have hq := hbW.below.size; (try simp at hq); omega); (try have hxW : w.heap.size + 2 < w1.heap.size := by have hq := hbW.below.size; (try simp at hq); omega)))
    have q0 := hbW.keep0 (a := ⟨w.heap.size + 1 + 1, 0, none⟩) (v := .int .i64 0) (by simp [go_sem])
    have q1 := hbW.keep0 (a := ⟨w.heap.size + 1 + 1, 1, none⟩) (v := .int .i64 0) (by simp [go_sem])
    refine bodyPost_ret (v := .tuple #[.agg #[.int .i64 0, .int .i64 0], .bool false]) (by simp [results, Tryd.results38, go_sem, q0, q1]) rfl ⟨rfl, ?_⟩
    exact Gr.setCell (Gr.setCell (by repeat (first | exact Gr.refl _ | refine Gr.alloc ?_ _ | refine Gr.trans ?_ (by assumption) | refine Gr.drew ?_ | refine Gr.drewN ?_ _ | refine Gr.grow ?_ _ | refine Gr.setCell ?_ (by (try simp); (try omega)) _)) (by simp; omega) _) (by simp; omega) _
  · have H1 := Lib.hid h1
    clear h1
    simp only [if_true, Bool.true_and]
    go_enter Tryd.func38, Tryd.ntmps38
    go_wp2_with (first | (go_at_call 30; refine (Tryd.hasCorner W H _ _ _ _ _ hW hH _ H1.out _).mono ?_; rintro e w1 ⟨rfl, hbW⟩; have hcW := (bcell hbW.below).1; have hfW := (bcell hbW.below).2; (try have hzW : w.heap.size < w1.heap.size := by have hq := hbW.below.size; (try simp at hq); omega); (try have hyW : w.heap.size + 1 < w1.heap.size := by have hq := hbW.below.size; (try simp at hq); omega); (try have hxW : w.heap.size + 2 < w1.heap.size := by have hq := hbW.below.size; (try simp at hq); omega)))
    have c0 := gr_all hbW (a := ⟨w.heap.size, 0, none⟩) (v := .int .i64 W) (by simp [go_sem])
    have c1 := gr_all hbW (a := ⟨w.heap.size, 1, none⟩) (v := .int .i64 H) (by simp [go_sem])
    have c2 := gr_all hbW (a := ⟨w.heap.size, 2, none⟩) (v := .slice A ps.length c) (by simp [go_sem])
    have c3 := gr_all hbW (a := ⟨w.heap.size + 1, 0, none⟩) (v := .int .i64 x) (by simp [go_sem])
    have c4 := gr_all hbW (a := ⟨w.heap.size + 1, 1, none⟩) (v := .int .i64 y) (by simp [go_sem])
    have c5 := gr_all hbW (a := ⟨w.heap.size + 1 + 1 + 1, 0, none⟩) (v := .int .i64 (x - 1)) (by simp [go_sem])
    have c6 := gr_all hbW (a := ⟨w.heap.size + 1 + 1 + 1, 1, none⟩) (v := .int .i64 y) (by simp [go_sem])
    have r0 := gr_all hbW (a := ⟨w.heap.size + 1 + 1, 0, none⟩) (v := .int .i64 0) (by simp [go_sem])
    have r1 := gr_all hbW (a := ⟨w.heap.size + 1 + 1, 1, none⟩) (v := .int .i64 0) (by simp [go_sem])
    have r2 := gr_all_f hbW (b := w.heap.size + 1 + 1) (o := 0) (by simp) (by simp [go_sem])
    have r3 := gr_all_f hbW (b := w.heap.size + 1 + 1) (o := 1) (by simp) (by simp [go_sem])
    have GW : Gr w w1 := (by repeat (first | exact Gr.refl _ | refine Gr.alloc ?_ _ | refine Gr.trans ?_ (by assumption) | refine Gr.drew ?_ | refine Gr.drewN ?_ _ | refine Gr.grow ?_ _ | refine Gr.setCell ?_ (by (try simp); (try omega)) _))
    have HGW := Lib.hid GW
    clear hcW hfW
    (refine wp_region_quiet_grown mixed (by kernel_rfl) ?_; (repeat (first | go_big_quiet_step ((first | (go_at_call 52; exact Calls.grown_of (HB.out _)) | (go_at_call 51; exact Calls.grown_of (HP.out _ (Gr.grow (Gr.drewN HGW.out _) _))))) | quiet_step ((first | (go_at_call 52; exact Calls.grown_of (HB.out _)) | (go_at_call 51; exact Calls.grown_of (HP.out _ (Gr.grow (Gr.drewN HGW.out _) _))))))); refine wpQuiet_nil ?_; intro _ hw'; obtain ⟨⟨nq, osq⟩, hw''⟩ := hw'; subst hw'')
    go_wp2
    refine bodyPost_ret (v := .tuple #[.agg #[.int .i64 (x - 1), .int .i64 y], .bool !t]) (by simp [results, Tryd.results38, go_sem, r0, r1]) rfl ⟨?_, ?_⟩
    · simp <;> omega
    · exact Gr.setCell (Gr.setCell (Gr.grow (Gr.drewN HGW.out _) _) (by simp; omega) _) (by simp; omega) _
/-- in each direction -/
theorem Tryd.iStep (w : World) (W H : Int) (B : Nat) (a : Value) (ps : List Blk) (x y : Int) (j : Nat) (hj : j < 4) (hW : 1 ≤ W ∧ W ≤ 8) (hH : 1 ≤ H ∧ H ≤ 8) (hu : Up ps) (ho : onC W H (x, y)) (hl : ps.length ≤ 1048576) (h : OwnB w B a ps) :
    Calls Tryd.prog 38 #[.agg #[.int .i64 W, .int .i64 H, a], .agg #[.int .i64 x, .int .i64 y], .int .i32 (sgn j)] w fun e w' => e = .returned (itV W H ps x y j) ∧ Gr w w' := by
  have : j = 0 ∨ j = 1 ∨ j = 2 ∨ j = 3 := by omega
  rcases this with rfl | rfl | rfl | rfl
  · exact Tryd.iStep0 w W H B a ps x y hW hH hu ho hl h
  · exact Tryd.iStep1 w W H B a ps x y hW hH hu ho hl h
  · exact Tryd.iStep2 w W H B a ps x y hW hH hu ho hl h
  · exact Tryd.iStep3 w W H B a ps x y hW hH hu ho hl h
end Go.Proofs
