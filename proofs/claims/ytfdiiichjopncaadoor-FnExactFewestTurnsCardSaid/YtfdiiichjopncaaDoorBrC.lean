/-
  Contracts of chapter 4: one block in a city, the order of two blocks, both sides.
-/
import Derived.Test.YtfdiiichjopncaaDoorBrB
import Derived.Test.YtfdiiichjopncaaDoorQTail
namespace Go.Proofs
open Go.RowKit Av
set_option linter.unusedVariables false
set_option linter.unusedSimpArgs false
def isB (W H : Int) (b : Blk) : Bool := decide (IsB W H b)
set_option maxHeartbeats 400000 in
theorem Tryd.isNaNI (a : Int) (w : World) :
    Calls Tryd.prog 56 #[.int .i64 a] w fun e w' => e = .returned (.bool false) ∧ w = w' := by
  go_enter Tryd.func56, Tryd.ntmps56
  go_wp2
  go_ret
  exact ⟨by simp, rfl⟩
set_option maxHeartbeats 400000 in
theorem Tryd.cmpInt (a b v : Int) (h : sg a b = v) (w : World) :
    Calls Tryd.prog 48 #[.int .i64 a, .int .i64 b] w fun e w' => e = .returned (.int .i64 v) ∧ w = w' := by
  subst h
  go_enter Tryd.func48, Tryd.ntmps48
  go_wp2_with (first | (go_at_call 56; refine (Tryd.isNaNI _ _).mono ?_; rintro e w1 ⟨rfl, rfl⟩))
  all_goals
    go_ret
    exact ⟨ri (by (try simp only [beq_iff_eq, beq_eq_false_iff_ne, bne_iff_ne, ne_eq, decide_eq_true_eq, decide_eq_false_iff_not] at *); (try unfold sg); omega), rfl⟩
set_option maxHeartbeats 400000 in
theorem Tryd.ups (x y : Int) (u : Bool) (v : Int) (h : (if u then 1 else 0) = v) (w : World) :
    Calls Tryd.prog 49 #[.agg #[.int .i64 x, .int .i64 y, .bool u]] w fun e w' => e = .returned (.int .i64 v) ∧ Gr w w' := by
  subst h
  cases u
  all_goals
    go_enter Tryd.func49, Tryd.ntmps49
    go_wp2
    go_ret
    exact ⟨rfl, by repeat (first | exact Gr.refl _ | refine Gr.alloc ?_ _ | refine Gr.trans ?_ (by assumption) | refine Gr.drew ?_ | refine Gr.drewN ?_ _ | refine Gr.grow ?_ _ | refine Gr.setCell ?_ (by (try simp); (try omega)) _)⟩
set_option maxHeartbeats 400000 in
theorem Tryd.orInt (w : World) (b : Nat) (x y z v : Int) (h0 : w.cell? ⟨b, 0, none⟩ = some (.int .i64 x)) (h1 : w.cell? ⟨b, 1, none⟩ = some (.int .i64 y)) (h2 : w.cell? ⟨b, 2, none⟩ = some (.int .i64 z)) (h : orI x (orI y z) = v) :
    Calls Tryd.prog 47 #[.slice (some ⟨b, 0, none⟩) 3 3] w fun e w' => e = .returned (.int .i64 v) ∧ Gr w w' := by
  subst h
  have hx : orI x (orI y z) = if x ≠ 0 then x else if y ≠ 0 then y else z := by unfold orI; by_cases x = 0 <;> by_cases y = 0 <;> simp [*]
  rw [hx]
  clear hx
  by_cases hx : x = 0
  · subst hx
    by_cases hy : y = 0
    · subst hy
      by_cases hz : z = 0
      · subst hz
        simp only [ne_eq, not_true_eq_false, if_false]
        go_enter Tryd.func47, Tryd.ntmps47
        go_wp2
        refine wp_loop_rounds 4 ?_
        rw [rounds_succ]
        go_wp2
        rw [rounds_succ]
        go_wp2
        rw [rounds_succ]
        go_wp2
        rw [rounds_succ]
        go_wp2
        go_ret
        exact ⟨rfl, by repeat (first | exact Gr.refl _ | refine Gr.alloc ?_ _ | refine Gr.trans ?_ (by assumption) | refine Gr.drew ?_ | refine Gr.drewN ?_ _ | refine Gr.grow ?_ _ | refine Gr.setCell ?_ (by (try simp); (try omega)) _)⟩
      · have q : (z != 0) = true := by simp [hz]
        simp only [ne_eq, not_true_eq_false, if_false]
        go_enter Tryd.func47, Tryd.ntmps47
        go_wp2
        refine wp_loop_rounds 4 ?_
        rw [rounds_succ]
        go_wp2
        rw [rounds_succ]
        go_wp2
        rw [rounds_succ]
        go_wp2
        go_ret
        exact ⟨rfl, by repeat (first | exact Gr.refl _ | refine Gr.alloc ?_ _ | refine Gr.trans ?_ (by assumption) | refine Gr.drew ?_ | refine Gr.drewN ?_ _ | refine Gr.grow ?_ _ | refine Gr.setCell ?_ (by (try simp); (try omega)) _)⟩
    · have q : (y != 0) = true := by simp [hy]
      rw [if_neg (by simp), if_pos hy]
      go_enter Tryd.func47, Tryd.ntmps47
      go_wp2
      refine wp_loop_rounds 4 ?_
      rw [rounds_succ]
      go_wp2
      rw [rounds_succ]
      go_wp2
      go_ret
      exact ⟨rfl, by repeat (first | exact Gr.refl _ | refine Gr.alloc ?_ _ | refine Gr.trans ?_ (by assumption) | refine Gr.drew ?_ | refine Gr.drewN ?_ _ | refine Gr.grow ?_ _ | refine Gr.setCell ?_ (by (try simp); (try omega)) _)⟩
  · have q : (x != 0) = true := by simp [hx]
    rw [if_pos hx]
    go_enter Tryd.func47, Tryd.ntmps47
    go_wp2
    refine wp_loop_rounds 4 ?_
    rw [rounds_succ]
    go_wp2
    go_ret
    exact ⟨rfl, by repeat (first | exact Gr.refl _ | refine Gr.alloc ?_ _ | refine Gr.trans ?_ (by assumption) | refine Gr.drew ?_ | refine Gr.drewN ?_ _ | refine Gr.grow ?_ _ | refine Gr.setCell ?_ (by (try simp); (try omega)) _)⟩
theorem six_k {w w' : World} {a b c d e f : Addr} {x0 x1 x2 y0 y1 y2 : Value} (h : w.cell? a = some x0 ∧ w.cell? b = some x1 ∧ w.cell? c = some x2 ∧ w.cell? d = some y0 ∧ w.cell? e = some y1 ∧ w.cell? f = some y2) (g : Gr w w') :
    w'.cell? a = some x0 ∧ w'.cell? b = some x1 ∧ w'.cell? c = some x2 ∧ w'.cell? d = some y0 ∧ w'.cell? e = some y1 ∧ w'.cell? f = some y2 := ⟨g.keep0 h.1, g.keep0 h.2.1, g.keep0 h.2.2.1, g.keep0 h.2.2.2.1, g.keep0 h.2.2.2.2.1, g.keep0 h.2.2.2.2.2⟩
set_option maxRecDepth 100000 in
set_option maxHeartbeats 1600000 in
theorem Tryd.compareBlocks (a b : Blk) (v : Int) (hv : cmpB a b = v) (w : World) :
    Calls Tryd.prog 36 #[bV a, bV b] w fun e w' => e = .returned (.int .i64 v) ∧ Gr w w' := by
  obtain ⟨a1, a2, a3⟩ := a
  obtain ⟨c1, c2, c3⟩ := b
  unfold cmpB up at hv
  simp only at hv
  unfold bV
  obtain ⟨u1, hu1⟩ : ∃ u : Int, (if a3 then 1 else 0) = u := ⟨_, rfl⟩
  obtain ⟨u2, hu2⟩ : ∃ u : Int, (if c3 then 1 else 0) = u := ⟨_, rfl⟩
  rw [hu1, hu2] at hv
  have HV := Lib.hid hv
  have HU1 := Lib.hid hu1
  have HU2 := Lib.hid hu2
  obtain ⟨s1, hs1⟩ : ∃ s, sg a1 c1 = s := ⟨_, rfl⟩
  obtain ⟨s2, hs2⟩ : ∃ s, sg a2 c2 = s := ⟨_, rfl⟩
  obtain ⟨s3, hs3⟩ : ∃ s, sg u1 u2 = s := ⟨_, rfl⟩
  rw [hs1, hs2, hs3] at HV
  have HS1 := Lib.hid hs1
  have HS2 := Lib.hid hs2
  have HS3 := Lib.hid hs3
  clear hv hu1 hu2 hs1 hs2 hs3
  have mixed : Tryd.prog.follows .mixedOrders = true := by kernel_rfl
  go_enter Tryd.func36, Tryd.ntmps36
  go_wp2_with fail
  go_region_held3 (fun W' => W'.cell? ⟨w.heap.size, 0, none⟩ = some (.int .i64 a1) ∧ W'.cell? ⟨w.heap.size, 1, none⟩ = some (.int .i64 a2) ∧ W'.cell? ⟨w.heap.size, 2, none⟩ = some (.bool a3) ∧ W'.cell? ⟨w.heap.size + 1, 0, none⟩ = some (.int .i64 c1) ∧ W'.cell? ⟨w.heap.size + 1, 1, none⟩ = some (.int .i64 c2) ∧ W'.cell? ⟨w.heap.size + 1, 2, none⟩ = some (.bool c3))
    (first | go_keep | (simp [go_sem]; done) | exact six_k (by assumption) (by assumption))
    (first | (go_at_call_of 48 (Value.int .i64 a1); refine (Tryd.cmpInt a1 c1 _ HS1.out _).mono ?_; rintro e w1 ⟨rfl, rfl⟩) | (go_at_call_of 48 (Value.int .i64 a2); refine (Tryd.cmpInt a2 c2 _ HS2.out _).mono ?_; rintro e w1 ⟨rfl, rfl⟩) | (go_at_call_of 48 (Value.int .i64 u1); refine (Tryd.cmpInt u1 u2 _ HS3.out _).mono ?_; rintro e w1 ⟨rfl, rfl⟩) | (go_at_call_of 49 (Value.agg #[.int .i64 a1, .int .i64 a2, .bool a3]); refine (Tryd.ups a1 a2 a3 _ HU1.out _).mono ?_; rintro e w2 ⟨rfl, g2⟩) | (go_at_call_of 49 (Value.agg #[.int .i64 c1, .int .i64 c2, .bool c3]); refine (Tryd.ups c1 c2 c3 _ HU2.out _).mono ?_; rintro e w3 ⟨rfl, g3⟩) | (go_at_call 47; refine (Tryd.orInt _ _ _ _ _ _ (by simp [go_sem]) (by simp [go_sem]) (by simp [go_sem]) HV.out).mono ?_; rintro e w4 ⟨rfl, g4⟩))
  go_wp2
  go_ret
  exact ⟨rfl, by repeat (first | exact Gr.refl _ | refine Gr.alloc ?_ _ | refine Gr.trans ?_ (by assumption) | refine Gr.drew ?_ | refine Gr.drewN ?_ _ | refine Gr.grow ?_ _ | refine Gr.setCell ?_ (by (try simp); (try omega)) _)⟩
def onB (W H : Int) (x y : Int) : Bool := decide (onC W H (x, y))
theorem onB_inn (W H x y : Int) : onB W H x y = (inn x 0 (W - 1) && inn y 0 (H - 1)) := by
  unfold onB
  rw [Bool.eq_iff_iff, decide_eq_true_iff]
  unfold inn onC
  simp only [Bool.and_eq_true, decide_eq_true_eq]
  omega
set_option maxHeartbeats 800000 in
theorem Tryd.hasCorner (W H : Int) (A : Option Addr) (n c : Nat) (x y : Int) (hW : 1 ≤ W ∧ W ≤ 8) (hH : 1 ≤ H ∧ H ≤ 8) (v : Bool) (hv : onB W H x y = v) (w : World) :
    Calls Tryd.prog 30 #[.agg #[.int .i64 W, .int .i64 H, .slice A n c], .agg #[.int .i64 x, .int .i64 y]] w fun e w' => e = .returned (.bool v) ∧ Gr w w' := by
  subst hv
  rw [onB_inn]
  cases h1 : inn x 0 (W - 1)
  · have H1 := Lib.hid h1
    clear h1
    go_enter Tryd.func30, Tryd.ntmps30
    go_wp2_with (first | (go_at_call 33; refine (Tryd.within _ _ _ _ H1.out _).mono ?_; rintro e w1 ⟨rfl, rfl⟩))
    go_ret
    exact ⟨rfl, by repeat (first | exact Gr.refl _ | refine Gr.alloc ?_ _ | refine Gr.trans ?_ (by assumption) | refine Gr.drew ?_ | refine Gr.drewN ?_ _ | refine Gr.grow ?_ _ | refine Gr.setCell ?_ (by (try simp); (try omega)) _)⟩
  · cases h2 : inn y 0 (H - 1)
    all_goals
      have H1 := Lib.hid h1
      have H2 := Lib.hid h2
      clear h1 h2
      go_enter Tryd.func30, Tryd.ntmps30
      go_wp2_with (first | (go_at_call_of 33 (Value.int .i64 x); refine (Tryd.within _ _ _ _ H1.out _).mono ?_; rintro e w1 ⟨rfl, rfl⟩) | (go_at_call_of 33 (Value.int .i64 y); refine (Tryd.within _ _ _ _ H2.out _).mono ?_; rintro e w1 ⟨rfl, rfl⟩))
      go_ret
      exact ⟨rfl, by repeat (first | exact Gr.refl _ | refine Gr.alloc ?_ _ | refine Gr.trans ?_ (by assumption) | refine Gr.drew ?_ | refine Gr.drewN ?_ _ | refine Gr.grow ?_ _ | refine Gr.setCell ?_ (by (try simp); (try omega)) _)⟩
theorem three_k {w w' : World} {a b c : Addr} {x0 x1 x2 : Value} (g : Gr w w') (h : w.cell? a = some x0 ∧ w.cell? b = some x1 ∧ w.cell? c = some x2) : w'.cell? a = some x0 ∧ w'.cell? b = some x1 ∧ w'.cell? c = some x2 := ⟨g.keep0 h.1, g.keep0 h.2.1, g.keep0 h.2.2⟩
theorem three_s {w : World} {k i j l : Nat} {p : Addr} {u x0 x1 x2 : Value} (h : w.cell? ⟨k, i, none⟩ = some x0 ∧ w.cell? ⟨k, j, none⟩ = some x1 ∧ w.cell? ⟨k, l, none⟩ = some x2) (hp : k ≠ p.block) :
    (w.setCell p u).cell? ⟨k, i, none⟩ = some x0 ∧ (w.setCell p u).cell? ⟨k, j, none⟩ = some x1 ∧ (w.setCell p u).cell? ⟨k, l, none⟩ = some x2 := by
  have e : ∀ o, (w.setCell p u).cell? ⟨k, o, none⟩ = w.cell? ⟨k, o, none⟩ := fun o => by
    unfold World.cell?
    rw [show (w.setCell p u).heap[k]? = w.heap[k]? from heap_setCell_other w p k u hp]
  rw [e, e, e]; exact h
/-- the cells of two results, in whatever world behind them -/
theorem res2 {w W : World} {A : Obj} {a b c d : Value} {t t2 : TypeId} (g : Gr (((w.alloc A).alloc (.cells #[a, b] t)).alloc (.cells #[c, d] t2)) W) :
    W.cell? ⟨w.heap.size + 1, 0, none⟩ = some a ∧ W.cell? ⟨w.heap.size + 1, 1, none⟩ = some b ∧ W.cell? ⟨w.heap.size + 1 + 1, 0, none⟩ = some c ∧ W.cell? ⟨w.heap.size + 1 + 1, 1, none⟩ = some d ∧
    W.frozen? ⟨w.heap.size + 1, 0, none⟩ = false ∧ W.frozen? ⟨w.heap.size + 1, 1, none⟩ = false ∧ W.frozen? ⟨w.heap.size + 1 + 1, 0, none⟩ = false ∧ W.frozen? ⟨w.heap.size + 1 + 1, 1, none⟩ = false :=
  ⟨g.keep0 (by simp [go_sem]), g.keep0 (by simp [go_sem]), g.keep0 (by simp [go_sem]), g.keep0 (by simp [go_sem]),
    ((bcell g.below).2 _ _ (by simp)).trans (by simp [go_sem]), ((bcell g.below).2 _ _ (by simp)).trans (by simp [go_sem]), ((bcell g.below).2 _ _ (by simp)).trans (by simp [go_sem]), ((bcell g.below).2 _ _ (by simp)).trans (by simp [go_sem])⟩
def ws (x : Int) : Int := IntKind.i64.wrap x
set_option maxHeartbeats 800000 in
theorem Tryd.blockCorners (x y : Int) (u : Bool) (u1 : Int) (hu : (if u then 1 else 0) = u1) (w : World) :
    Calls Tryd.prog 46 #[.agg #[.int .i64 x, .int .i64 y, .bool u]] w fun e w' => e = .returned (.tuple #[.agg #[.int .i64 x, .int .i64 y], .agg #[.int .i64 (ws (ws (x + 1) - u1)), .int .i64 (ws (y + u1))]]) ∧ Gr w w' := by
  have HU := Lib.hid hu
  clear hu
  have mixed : Tryd.prog.follows .mixedOrders = true := by kernel_rfl
  go_enter Tryd.func46, Tryd.ntmps46
  go_wp2_with fail
  go_region_held3 (fun W' => W'.cell? ⟨w.heap.size, 0, none⟩ = some (.int .i64 x) ∧ W'.cell? ⟨w.heap.size, 1, none⟩ = some (.int .i64 y) ∧ W'.cell? ⟨w.heap.size, 2, none⟩ = some (.bool u))
    (first | assumption | go_keep | (simp [go_sem]; done) | (refine three_s (three_s ?_ ?_) ?_ <;> first | assumption | (simp; done) | (simp; omega)))
    (first | (go_at_call 49; refine (Tryd.ups _ _ _ _ HU.out _).mono ?_; rintro e w2 ⟨rfl, g2⟩; obtain ⟨q0, q1, q2, q3, q4, q5, q6, q7⟩ := res2 (w := w) (A := (.cells #[.int .i64 x, .int .i64 y, .bool u] 71)) (a := .int .i64 0) (b := .int .i64 0) (c := .int .i64 0) (d := .int .i64 0) (t := 47) (t2 := 47) (W := w2) (by repeat (first | exact Gr.refl _ | refine Gr.alloc ?_ _ | refine Gr.trans ?_ (by assumption) | refine Gr.drew ?_ | refine Gr.drewN ?_ _ | refine Gr.grow ?_ _ | refine Gr.setCell ?_ (by (try simp); (try omega)) _)); have gB : Gr (w.alloc (.cells #[.int .i64 x, .int .i64 y, .bool u] 71)) w2 := (by repeat (first | exact Gr.refl _ | refine Gr.alloc ?_ _ | refine Gr.trans ?_ (by assumption) | refine Gr.drew ?_ | refine Gr.drewN ?_ _ | refine Gr.grow ?_ _ | refine Gr.setCell ?_ (by (try simp); (try omega)) _)); have hS : w2.cell? ⟨w.heap.size, 0, none⟩ = some (.int .i64 x) ∧ w2.cell? ⟨w.heap.size, 1, none⟩ = some (.int .i64 y) ∧ w2.cell? ⟨w.heap.size, 2, none⟩ = some (.bool u) := ⟨gB.keep0 (by simp [go_sem]), gB.keep0 (by simp [go_sem]), gB.keep0 (by simp [go_sem])⟩; clear gB))
  all_goals
   go_wp2
   refine bodyPost_ret (v := .tuple #[.agg #[.int .i64 x, .int .i64 y], .agg #[.int .i64 (ws (ws (x + 1) - u1)), .int .i64 (ws (y + u1))]]) ?_ rfl ⟨rfl, ?_⟩
   · simp [results, Tryd.results46, go_sem, q0, q1, q2, q3, ws]
   · exact Gr.setCell (Gr.setCell (Gr.setCell (Gr.setCell (by repeat (first | exact Gr.refl _ | refine Gr.alloc ?_ _ | refine Gr.trans ?_ (by assumption) | refine Gr.drew ?_ | refine Gr.drewN ?_ _ | refine Gr.grow ?_ _ | refine Gr.setCell ?_ (by (try simp); (try omega)) _)) (by simp) _) (by simp) _) (by simp; omega) _) (by simp; omega) _
def hbB (W H : Int) (x y : Int) (u : Bool) : Bool := isB W H (x, y, u)
set_option maxHeartbeats 800000 in
theorem Tryd.hasBlock (W H : Int) (A : Option Addr) (n c : Nat) (x y : Int) (u : Bool) (hW : 1 ≤ W ∧ W ≤ 8) (hH : 1 ≤ H ∧ H ≤ 8) (v : Bool) (hv : isB W H (x, y, u) = v) (w : World) :
    Calls Tryd.prog 35 #[.agg #[.int .i64 W, .int .i64 H, .slice A n c], .agg #[.int .i64 x, .int .i64 y, .bool u]] w fun e w' => e = .returned (.bool v) ∧ Gr w w' := by
  subst hv
  obtain ⟨u1, hu1⟩ : ∃ u1 : Int, (if u then 1 else 0) = u1 := ⟨_, rfl⟩
  have hb : u1 = 0 ∨ u1 = 1 := by subst hu1; cases u <;> simp
  have HU := Lib.hid hu1
  have e : isB W H (x, y, u) = (onB W H x y && onB W H (ws (ws (x + 1) - u1)) (ws (y + u1))) := by
    unfold isB onB
    rw [Bool.eq_iff_iff, Bool.and_eq_true, decide_eq_true_iff, decide_eq_true_iff, decide_eq_true_iff]
    have hup : up (x, y, u) = u1 := hu1
    unfold IsB onC ws
    rw [hup]
    simp only [IntKind.wrap_i64]
    constructor
    · intro h; omega
    · intro h; omega
  rw [e]
  clear e hb hu1
  obtain ⟨x2, hx2⟩ : ∃ z, ws (ws (x + 1) - u1) = z := ⟨_, rfl⟩
  obtain ⟨y2, hy2⟩ : ∃ z, ws (y + u1) = z := ⟨_, rfl⟩
  have HC := Lib.hid (Tryd.blockCorners x y u u1 HU.out)
  rw [hx2, hy2] at HC ⊢
  clear hx2 hy2
  cases h1 : onB W H x y
  · have H1 := Lib.hid h1
    clear h1
    go_enter Tryd.func35, Tryd.ntmps35
    go_wp2_with (first | (go_at_call 46; refine (HC.out _).mono ?_; rintro e w1 ⟨rfl, hbW⟩; have hcW := (bcell hbW.below).1; have hfW := (bcell hbW.below).2; (try have hzW : w.heap.size < w1.heap.size := by have hq := hbW.below.size; (try simp at hq); omega); (try have hyW : w.heap.size + 1 < w1.heap.size := by have hq := hbW.below.size; (try simp at hq); omega); (try have hxW : w.heap.size + 2 < w1.heap.size := by have hq := hbW.below.size; (try simp at hq); omega)) | (go_at_call 30; refine (Tryd.hasCorner W H A n c x y hW hH _ H1.out _).mono ?_; rintro e w1 ⟨rfl, hbW⟩; have hcW := (bcell hbW.below).1; have hfW := (bcell hbW.below).2; (try have hzW : w.heap.size < w1.heap.size := by have hq := hbW.below.size; (try simp at hq); omega); (try have hyW : w.heap.size + 1 < w1.heap.size := by have hq := hbW.below.size; (try simp at hq); omega); (try have hxW : w.heap.size + 2 < w1.heap.size := by have hq := hbW.below.size; (try simp at hq); omega)))
    go_ret
    exact ⟨rfl, by repeat (first | exact Gr.refl _ | refine Gr.alloc ?_ _ | refine Gr.trans ?_ (by assumption) | refine Gr.drew ?_ | refine Gr.drewN ?_ _ | refine Gr.grow ?_ _ | refine Gr.setCell ?_ (by (try simp); (try omega)) _)⟩
  · cases h2 : onB W H x2 y2
    all_goals
      have H1 := Lib.hid h1
      have H2 := Lib.hid h2
      clear h1 h2
      go_enter Tryd.func35, Tryd.ntmps35
      go_wp2_with (first | (go_at_call 46; refine (HC.out _).mono ?_; rintro e w1 ⟨rfl, hbW⟩; have hcW := (bcell hbW.below).1; have hfW := (bcell hbW.below).2; (try have hzW : w.heap.size < w1.heap.size := by have hq := hbW.below.size; (try simp at hq); omega); (try have hyW : w.heap.size + 1 < w1.heap.size := by have hq := hbW.below.size; (try simp at hq); omega); (try have hxW : w.heap.size + 2 < w1.heap.size := by have hq := hbW.below.size; (try simp at hq); omega)))
      refine (Tryd.hasCorner W H A n c x y hW hH _ H1.out _).mono ?_
      rintro e w2 ⟨rfl, hbX⟩
      have gX : Gr (w.alloc (.cells #[.int .i64 W, .int .i64 H, .slice A n c] 58)) w2 := (by repeat (first | exact Gr.refl _ | refine Gr.alloc ?_ _ | refine Gr.trans ?_ (by assumption) | refine Gr.drew ?_ | refine Gr.drewN ?_ _ | refine Gr.grow ?_ _ | refine Gr.setCell ?_ (by (try simp); (try omega)) _))
      have f0 : w2.cell? ⟨w.heap.size, 0, none⟩ = some (.int .i64 W) := gX.keep0 (by simp [go_sem])
      have f1 : w2.cell? ⟨w.heap.size, 1, none⟩ = some (.int .i64 H) := gX.keep0 (by simp [go_sem])
      have f2 : w2.cell? ⟨w.heap.size, 2, none⟩ = some (.slice A n c) := gX.keep0 (by simp [go_sem])
      have f3 := hbX.keep0 (show World.cell? _ ⟨w1.heap.size + 1, 0, none⟩ = some (.int .i64 x2) by simp [go_sem])
      have f4 := hbX.keep0 (show World.cell? _ ⟨w1.heap.size + 1, 1, none⟩ = some (.int .i64 y2) by simp [go_sem])
      go_wp2_with fail
      refine (Tryd.hasCorner W H A n c x2 y2 hW hH _ H2.out _).mono ?_
      rintro e w3 ⟨rfl, hbY⟩
      go_wp2
      go_ret
      exact ⟨rfl, by repeat (first | exact Gr.refl _ | refine Gr.alloc ?_ _ | refine Gr.trans ?_ (by assumption) | refine Gr.drew ?_ | refine Gr.drewN ?_ _ | refine Gr.grow ?_ _ | refine Gr.setCell ?_ (by (try simp); (try omega)) _)⟩
end Go.Proofs
