/-
  Contracts of chapter 1: walks between houses, as the program has them.
-/
import Derived.Test.YthaepfpcnbhndaaNuC
import Derived.Deep.LoopGhost
import Derived.LoopTactic
namespace Go.Proofs
open Go.RowKit
set_option linter.unusedVariables false
set_option linter.unusedSimpArgs false
open Go.Sort in
theorem box3 (w : World) (a b c : Value) (t : TypeId) :
    (∀ n os, (grow ((w.alloc (.cells #[a, b, c] t)).drewN n) os).cell? ⟨w.heap.size, 0, none⟩ = some a) ∧
    (∀ n os, (grow ((w.alloc (.cells #[a, b, c] t)).drewN n) os).cell? ⟨w.heap.size, 1, none⟩ = some b) ∧
    (∀ n os, (grow ((w.alloc (.cells #[a, b, c] t)).drewN n) os).cell? ⟨w.heap.size, 2, none⟩ = some c) :=
  ⟨fun n os => cell_grown (by simp) (by simp [go_sem]) n os, fun n os => cell_grown (by simp) (by simp [go_sem]) n os, fun n os => cell_grown (by simp) (by simp [go_sem]) n os⟩
set_option maxHeartbeats 400000 in
theorem Try.along (k p x a b : Int) (w : World) (h0 : 0 ≤ k) (h1 : k ≤ 2) (h2 : 1 ≤ p) (h3 : p ≤ 1000) (ha4 : 1 ≤ a) (ha5 : a ≤ hs k p) (hb4 : 1 ≤ b) (hb5 : b ≤ hs k p) :
    Calls Try.prog 99 #[.agg #[.int .i64 k, .int .i64 p, .int .i64 x], .int .i64 a, .int .i64 b] w fun e w' => e = .returned (.int .i64 (abv (plo k p a - plo k p b))) ∧ Gr w w' := by
  have mixed : Try.prog.follows .mixedOrders = true := by kernel_rfl
  have hfd0 : ∀ (w : World) (c d : Int), (Instr.field 75 (.agg #[.int .i64 c, .int .i64 d]) 0).run Try.prog w = .ok (.int .i64 c) w := fun _ _ _ => by kernel_rfl
  have hfd1 : ∀ (w : World) (c d : Int), (Instr.field 75 (.agg #[.int .i64 c, .int .i64 d]) 1).run Try.prog w = .ok (.int .i64 d) w := fun _ _ _ => by kernel_rfl
  obtain ⟨b0, b1, b2⟩ := box3 w (.int .i64 k) (.int .i64 p) (.int .i64 x) 84
  obtain ⟨qa0, qa1⟩ := plo_bd k p a h2 ha4 ha5
  obtain ⟨qb0, qb1⟩ := plo_bd k p b h2 hb4 hb5
  go_enter Try.func99, Try.ntmps99
  go_wp2
  (refine wp_region_quiet_grown mixed (by kernel_rfl) ?_; (repeat (first | go_big_quiet_step ((first | (go_at_call_of 95 (Value.int .i64 a); exact Calls.grown_of (Try.placeOf _ _ _ _ h0 h1 h2 h3 ha4 ha5)) | (go_at_call_of 95 (Value.int .i64 b); exact Calls.grown_of (Try.placeOf _ _ _ _ h0 h1 h2 h3 hb4 hb5)))) | quiet_step ((first | (go_at_call_of 95 (Value.int .i64 a); exact Calls.grown_of (Try.placeOf _ _ _ _ h0 h1 h2 h3 ha4 ha5)) | (go_at_call_of 95 (Value.int .i64 b); exact Calls.grown_of (Try.placeOf _ _ _ _ h0 h1 h2 h3 hb4 hb5)))))); refine wpQuiet_nil ?_; intro _ hw'; obtain ⟨⟨nq, osq⟩, hw''⟩ := hw'; subst hw'')
  go_wp2
  all_goals
    go_ret
    refine ⟨ri ?_, by repeat (first | exact Gr.refl _ | refine Gr.alloc ?_ _ | refine Gr.trans ?_ (by assumption) | refine Gr.drew ?_ | refine Gr.drewN ?_ _ | refine Gr.grow ?_ _)⟩
    clear b0 b1 b2
    exact (by (try simp only [beq_iff_eq, beq_eq_false_iff_ne, bne_iff_ne, ne_eq, decide_eq_true_eq, decide_eq_false_iff_not] at *); (try unfold abv); omega)
set_option maxHeartbeats 400000 in
theorem Try.across (k p x a b : Int) (w : World) (h0 : 0 ≤ k) (h1 : k ≤ 2) (h2 : 1 ≤ p) (h3 : p ≤ 1000) (ha4 : 1 ≤ a) (ha5 : a ≤ hs k p) (hb4 : 1 ≤ b) (hb5 : b ≤ hs k p) :
    Calls Try.prog 100 #[.agg #[.int .i64 k, .int .i64 p, .int .i64 x], .int .i64 a, .int .i64 b] w fun e w' => e = .returned (.int .i64 (if sdo k p a = sdo k p b then 0 else x)) ∧ Gr w w' := by
  have mixed : Try.prog.follows .mixedOrders = true := by kernel_rfl
  have hfd0 : ∀ (w : World) (c d : Int), (Instr.field 75 (.agg #[.int .i64 c, .int .i64 d]) 0).run Try.prog w = .ok (.int .i64 c) w := fun _ _ _ => by kernel_rfl
  have hfd1 : ∀ (w : World) (c d : Int), (Instr.field 75 (.agg #[.int .i64 c, .int .i64 d]) 1).run Try.prog w = .ok (.int .i64 d) w := fun _ _ _ => by kernel_rfl
  obtain ⟨b0, b1, b2⟩ := box3 w (.int .i64 k) (.int .i64 p) (.int .i64 x) 84
  by_cases hs : sdo k p a = sdo k p b
  · rw [if_pos hs]
    have hb1 : (sdo k p a == sdo k p b) = true := by simp [hs]
    clear hs
    go_enter Try.func100, Try.ntmps100
    go_wp2
    (refine wp_region_quiet_grown mixed (by kernel_rfl) ?_; (repeat (first | go_big_quiet_step ((first | (go_at_call_of 95 (Value.int .i64 a); exact Calls.grown_of (Try.placeOf _ _ _ _ h0 h1 h2 h3 ha4 ha5)) | (go_at_call_of 95 (Value.int .i64 b); exact Calls.grown_of (Try.placeOf _ _ _ _ h0 h1 h2 h3 hb4 hb5)))) | quiet_step ((first | (go_at_call_of 95 (Value.int .i64 a); exact Calls.grown_of (Try.placeOf _ _ _ _ h0 h1 h2 h3 ha4 ha5)) | (go_at_call_of 95 (Value.int .i64 b); exact Calls.grown_of (Try.placeOf _ _ _ _ h0 h1 h2 h3 hb4 hb5)))))); refine wpQuiet_nil ?_; intro _ hw'; obtain ⟨⟨nq, osq⟩, hw''⟩ := hw'; subst hw'')
    go_wp2
    go_ret
    exact ⟨rfl, by repeat (first | exact Gr.refl _ | refine Gr.alloc ?_ _ | refine Gr.trans ?_ (by assumption) | refine Gr.drew ?_ | refine Gr.drewN ?_ _ | refine Gr.grow ?_ _)⟩
  · rw [if_neg hs]
    have hb1 : (sdo k p a == sdo k p b) = false := by simp [hs]
    clear hs
    go_enter Try.func100, Try.ntmps100
    go_wp2
    (refine wp_region_quiet_grown mixed (by kernel_rfl) ?_; (repeat (first | go_big_quiet_step ((first | (go_at_call_of 95 (Value.int .i64 a); exact Calls.grown_of (Try.placeOf _ _ _ _ h0 h1 h2 h3 ha4 ha5)) | (go_at_call_of 95 (Value.int .i64 b); exact Calls.grown_of (Try.placeOf _ _ _ _ h0 h1 h2 h3 hb4 hb5)))) | quiet_step ((first | (go_at_call_of 95 (Value.int .i64 a); exact Calls.grown_of (Try.placeOf _ _ _ _ h0 h1 h2 h3 ha4 ha5)) | (go_at_call_of 95 (Value.int .i64 b); exact Calls.grown_of (Try.placeOf _ _ _ _ h0 h1 h2 h3 hb4 hb5)))))); refine wpQuiet_nil ?_; intro _ hw'; obtain ⟨⟨nq, osq⟩, hw''⟩ := hw'; subst hw'')
    go_wp2
    go_ret
    exact ⟨rfl, by repeat (first | exact Gr.refl _ | refine Gr.alloc ?_ _ | refine Gr.trans ?_ (by assumption) | refine Gr.drew ?_ | refine Gr.drewN ?_ _ | refine Gr.grow ?_ _)⟩
theorem Gr.keep {w w' : World} {b o : Nat} {v : Value} (g : Gr w w') (h : w.cell? ⟨b, o, none⟩ = some v) : w'.cell? ⟨b, o, none⟩ = some v :=
  ((bcell g.below).1 _ _ (World.block_lt_of_cell? _ _ h)).trans h
def WRel (W0 : World) (d y : Int) (s10 s30 : Value) (wr : World) : Prop :=
  Gr W0 wr ∧ ((s30 = .int .i64 0 ∧ s10 = .int .i64 0) ∨ (s30 = .int .i64 1 ∧ s10 = .int .i64 d) ∨ (s30 = .int .i64 2 ∧ s10 = .int .i64 (d + y)))
set_option maxHeartbeats 800000 in
theorem Try.iWalkBetween (k p a b x : Int) (w : World) :
    Calls Try.prog 56 #[.agg #[.int .i64 k, .int .i64 p], .int .i64 a, .int .i64 b, .int .i64 x] w fun e w' => e = .returned (.tuple #[.int .i64 (wkV k p a b x), .bool (wkB k p a b x)]) ∧ Gr w w' := by
  cases ha : asB k p a
  · have e : wkB k p a b x = false := by simp [wkB, ha]
    rw [show wkV k p a b x = 0 by simp [wkV, e], e]
    have H := Lib.hid ha
    clear ha e
    go_enter Try.func56, Try.ntmps56
    go_wp2_with (go_at_call 94; refine (Try.hasHouse _ _ _ _ H.out _).mono ?_; rintro e w1 ⟨rfl, hbW⟩; have hcW := (bcell hbW.below).1; have hfW := (bcell hbW.below).2; (try have hzW : w.heap.size < w1.heap.size := by have hq := hbW.below.size; (try simp at hq); omega); (try have hyW : w.heap.size + 1 < w1.heap.size := by have hq := hbW.below.size; (try simp at hq); omega))
    go_ret2
    exact ⟨rfl, by repeat (first | exact Gr.refl _ | refine Gr.alloc ?_ _ | refine Gr.trans ?_ (by assumption) | refine Gr.drew ?_ | refine Gr.drewN ?_ _ | refine Gr.grow ?_ _)⟩
  · cases hb : asB k p b
    · have e : wkB k p a b x = false := by simp [wkB, hb]
      rw [show wkV k p a b x = 0 by simp [wkV, e], e]
      have H := Lib.hid ha
      have H2 := Lib.hid hb
      clear ha hb e
      go_enter Try.func56, Try.ntmps56
      go_wp2_with (first | (go_at_call_of 94 (Value.int .i64 a); refine (Try.hasHouse _ _ _ _ H.out _).mono ?_; rintro e w1 ⟨rfl, hbW⟩; have hcW := (bcell hbW.below).1; (try have hzW : w.heap.size < w1.heap.size := by have hq := hbW.below.size; (try simp at hq); omega)) | (go_at_call_of 94 (Value.int .i64 b); refine (Try.hasHouse _ _ _ _ H2.out _).mono ?_; rintro e w1 ⟨rfl, hbW⟩; have hcW := (bcell hbW.below).1; (try have hzW : w.heap.size < w1.heap.size := by have hq := hbW.below.size; (try simp at hq); omega)))
      go_ret2
      exact ⟨rfl, by repeat (first | exact Gr.refl _ | refine Gr.alloc ?_ _ | refine Gr.trans ?_ (by assumption) | refine Gr.drew ?_ | refine Gr.drewN ?_ _ | refine Gr.grow ?_ _)⟩
    · cases hx : inn x 0 1000
      · have e : wkB k p a b x = false := by simp [wkB, hx]
        rw [show wkV k p a b x = 0 by simp [wkV, e], e]
        have H := Lib.hid ha
        have H2 := Lib.hid hb
        have H3 := Lib.hid hx
        clear ha hb hx e
        go_enter Try.func56, Try.ntmps56
        go_wp2_with (first | (go_at_call_of 94 (Value.int .i64 a); refine (Try.hasHouse _ _ _ _ H.out _).mono ?_; rintro e w1 ⟨rfl, hbW⟩; have hcW := (bcell hbW.below).1; (try have hzW : w.heap.size < w1.heap.size := by have hq := hbW.below.size; (try simp at hq); omega)) | (go_at_call_of 94 (Value.int .i64 b); refine (Try.hasHouse _ _ _ _ H2.out _).mono ?_; rintro e w1 ⟨rfl, hbW⟩; have hcW := (bcell hbW.below).1; (try have hzW : w.heap.size < w1.heap.size := by have hq := hbW.below.size; (try simp at hq); omega)) | (go_at_call 64; refine (Try.within_b _ _ _ _ H3.out _).mono ?_; rintro e w1 ⟨rfl, rfl⟩))
        go_ret2
        exact ⟨rfl, by repeat (first | exact Gr.refl _ | refine Gr.alloc ?_ _ | refine Gr.trans ?_ (by assumption) | refine Gr.drew ?_ | refine Gr.drewN ?_ _ | refine Gr.grow ?_ _)⟩
      · have e : wkB k p a b x = true := by simp [wkB, ha, hb, hx]
        obtain ⟨hgd, ha4, ha5⟩ := asB_t ha
        obtain ⟨_, hb4, hb5⟩ := asB_t hb
        obtain ⟨h0, h1, h2, h3⟩ := gd_t hgd
        obtain ⟨hx0, hx1⟩ := inn_e hx
        obtain ⟨qa0, qa1⟩ := plo_bd k p a h2 ha4 ha5
        obtain ⟨qb0, qb1⟩ := plo_bd k p b h2 hb4 hb5
        have hd : wkD k p a b x = abv (plo k p a - plo k p b) + (if sdo k p a = sdo k p b then 0 else x) := by unfold wkD abv; omega
        have hv : 0 ≤ abv (plo k p a - plo k p b) ∧ abv (plo k p a - plo k p b) ≤ 1000 := by unfold abv; omega
        obtain ⟨hv0, hv1⟩ := hv
        have hy : 0 ≤ (if sdo k p a = sdo k p b then 0 else x) ∧ (if sdo k p a = sdo k p b then 0 else x) ≤ 1000 := by split <;> omega
        obtain ⟨y, hy'⟩ : ∃ y, y = (if sdo k p a = sdo k p b then 0 else x) := ⟨_, rfl⟩
        rw [← hy'] at hy hd
        obtain ⟨hy0, hy1⟩ := hy
        have hac := fun (w : World) => Try.across k p x a b w h0 h1 h2 h3 ha4 ha5 hb4 hb5
        rw [← hy'] at hac
        have HAC := Lib.hid hac
        rw [show wkV k p a b x = wkD k p a b x by simp [wkV, e], e, hd]
        have H := Lib.hid ha
        have H2 := Lib.hid hb
        have H3 := Lib.hid hx
        clear ha hb hx e hd hgd hac hy'
        go_enter Try.func56, Try.ntmps56
        go_wp2_with (first | (go_at_call_of 94 (Value.int .i64 a); refine (Try.hasHouse _ _ _ _ H.out _).mono ?_; rintro e w1 ⟨rfl, hbW⟩; have hcW := (bcell hbW.below).1; (try have hzW : w.heap.size < w1.heap.size := by have hq := hbW.below.size; (try simp at hq); omega)) | (go_at_call_of 94 (Value.int .i64 b); refine (Try.hasHouse _ _ _ _ H2.out _).mono ?_; rintro e w1 ⟨rfl, hbW⟩; have hcW := (bcell hbW.below).1; (try have hzW : w.heap.size < w1.heap.size := by have hq := hbW.below.size; (try simp at hq); omega)) | (go_at_call 64; refine (Try.within_b _ _ _ _ H3.out _).mono ?_; rintro e w1 ⟨rfl, rfl⟩))
        have gW0 : Gr w (w1.alloc (Obj.cells #[Value.func (Fn.func 99) #[] #[], Value.func (Fn.func 100) #[] #[]] 82)) := (by repeat (first | exact Gr.refl _ | refine Gr.alloc ?_ _ | refine Gr.trans ?_ (by assumption) | refine Gr.drew ?_ | refine Gr.drewN ?_ _ | refine Gr.grow ?_ _))
        have hk0 : (w1.alloc (Obj.cells #[Value.func (Fn.func 99) #[] #[], Value.func (Fn.func 100) #[] #[]] 82)).cell? ⟨w.heap.size, 0, none⟩ = some (.int .i64 k) := by go_simp
        have hk1 : (w1.alloc (Obj.cells #[Value.func (Fn.func 99) #[] #[], Value.func (Fn.func 100) #[] #[]] 82)).cell? ⟨w.heap.size, 1, none⟩ = some (.int .i64 p) := by go_simp
        have hk2 : (w1.alloc (Obj.cells #[Value.func (Fn.func 99) #[] #[], Value.func (Fn.func 100) #[] #[]] 82)).cell? ⟨w1.heap.size, 0, none⟩ = some (Value.func (Fn.func 99) #[] #[]) := by simp [go_sem]
        have hk3 : (w1.alloc (Obj.cells #[Value.func (Fn.func 99) #[] #[], Value.func (Fn.func 100) #[] #[]] 82)).cell? ⟨w1.heap.size, 1, none⟩ = some (Value.func (Fn.func 100) #[] #[]) := by simp [go_sem]
        generalize (w1.alloc (Obj.cells #[Value.func (Fn.func 99) #[] #[], Value.func (Fn.func 100) #[] #[]] 82)) = W0 at gW0 hk0 hk1 hk2 hk3 ⊢
        clear hcW hzW hbW
        go_loopw [10, 12, 30] (fun s10 _ s30 wr => WRel W0 (abv (plo k p a - plo k p b)) y s10 s30 wr) (fun _ _ s30 _ => 2 - (intOf s30).toNat)
        case atStart => exact ⟨Gr.refl _, Or.inl ⟨rfl, rfl⟩⟩
        case round =>
          obtain ⟨gr, hr⟩ := hrel
          have e0 := gr.keep hk0
          have e1 := gr.keep hk1
          have e2 := gr.keep hk2
          have e3 := gr.keep hk3
          have gr2 := gW0.trans gr
          clear hk0 hk1 hk2 hk3
          rcases hr with ⟨rfl, rfl⟩ | ⟨rfl, rfl⟩ | ⟨rfl, rfl⟩
          · go_wp2_with (go_at_call 99; refine (Try.along _ _ _ _ _ _ h0 h1 h2 h3 ha4 ha5 hb4 hb5).mono ?_; rintro e w2 ⟨rfl, g2⟩)
            go_roundw
            case rel => exact ⟨gr.trans g2, Or.inr (Or.inl ⟨rfl, rfl⟩)⟩
            case measure => simp [intOf]
          · go_wp2_with (go_at_call 100; refine (HAC.out _).mono ?_; rintro e w2 ⟨rfl, g2⟩)
            go_roundw
            case rel => exact ⟨gr.trans g2, Or.inr (Or.inr ⟨rfl, rfl⟩)⟩
            case measure => simp [intOf]
          · go_wp2
            go_ret2
            exact ⟨rfl, gr2⟩
end Go.Proofs
