/-
  Contracts of chapter 2: the room behind a plate; the plate of a list that gets a number.
-/
import Derived.Test.YtbnkhmemicmadabPlK
namespace Go.Proofs
open Go.RowKit Pl
set_option linter.unusedVariables false
set_option linter.unusedSimpArgs false
def rmV (ps : List Pi2) (k : Int) : Int := if askB ps k then (if k.toNat + 1 < ps.length ∧ (ps.getD (k.toNat + 1) (0, 0)).1 = (ps.getD k.toNat (0, 0)).1 then (ps.getD (k.toNat + 1) (0, 0)).2 else 27) - (ps.getD k.toNat (0, 0)).2 - 1 else 0
theorem ok_at {ps : List Pi2} (h : Ok ps) (j : Nat) (hj : j < ps.length) : 1 ≤ (ps.getD j (0, 0)).1 ∧ (ps.getD j (0, 0)).1 ≤ 9999 ∧ 0 ≤ (ps.getD j (0, 0)).2 ∧ (ps.getD j (0, 0)).2 ≤ 26 := by
  have := h.2.2.1 (ps[j]) (List.getElem_mem hj)
  rw [← getD_eq ps j hj] at this
  exact this
set_option maxHeartbeats 1600000 in
theorem Try.sRoomBehind (w : World) (B : Nat) (v : Value) (ps : List Pi2) (k : Int) (hl : ps.length ≤ 1048576) (h : OwnP 34 w B v ps) :
    Calls Try.prog 13 #[v, .int .i64 k] w fun e w' => e = .returned (.tuple #[.int .i64 (rmV ps k), .bool (askB ps k)]) ∧ Gr w w' := by
  have mixed : Try.prog.follows .mixedOrders = true := by kernel_rfl
  cases hq : askB ps k
  · have HA := Lib.hid (Try.isAsked w B v ps k false hq hl h)
    rw [show rmV ps k = 0 by simp [rmV, hq]]
    obtain ⟨A, c, rfl, h⟩ := h.eta
    clear h hq
    go_enter Try.func13, Try.ntmps13
    go_wp2_with (go_at_call 40; refine (HA.out).mono ?_; rintro e w1 ⟨rfl, hbW⟩; have hcW := (bcell hbW.below).1; have hfW := (bcell hbW.below).2; (try have hzW : w.heap.size < w1.heap.size := by have hq := hbW.below.size; (try simp at hq); omega); (try have hyW : w.heap.size + 1 < w1.heap.size := by have hq := hbW.below.size; (try simp at hq); omega); (try have hxW : w.heap.size + 2 < w1.heap.size := by have hq := hbW.below.size; (try simp at hq); omega))
    go_ret2
    exact ⟨rfl, by repeat (first | exact Gr.refl _ | refine Gr.alloc ?_ _ | refine Gr.trans ?_ (by assumption) | refine Gr.drew ?_ | refine Gr.drewN ?_ _ | refine Gr.grow ?_ _ | refine Gr.setCell ?_ (by (try simp); (try omega)) _)⟩
  · have HA := Lib.hid (Try.isAsked w B v ps k true hq hl h)
    obtain ⟨hok, m, rfl, hm⟩ := askB_t hq
    have ev : rmV ps m = (if m + 1 < ps.length ∧ (ps.getD (m + 1) (0, 0)).1 = (ps.getD m (0, 0)).1 then (ps.getD (m + 1) (0, 0)).2 else 27) - (ps.getD m (0, 0)).2 - 1 := by simp [rmV, hq]
    rw [ev]
    obtain ⟨a1, a2, a3, a4⟩ := ok_at hok m hm
    have h60 := hok.2.1
    rcases h.view with ⟨hz, _⟩ | ⟨_, g, c, rfl, _, g2, _, _, hc, _⟩
    · subst hz; simp at hm
    · obtain ⟨f0, f1⟩ := hc m hm
      have z0 : (0 : Int) ≤ (m : Int) := by omega
      have z1 : (m : Int) < (ps.length : Int) := by omega
      by_cases hn : m + 1 < ps.length
      · obtain ⟨c1, c2, c3, c4⟩ := ok_at hok (m + 1) hn
        obtain ⟨f2, f3⟩ := hc (m + 1) hn
        generalize (ps.getD m (0, 0)).1 = x0 at *
        generalize (ps.getD m (0, 0)).2 = x1 at *
        generalize (ps.getD (m + 1) (0, 0)).1 = y0 at *
        generalize (ps.getD (m + 1) (0, 0)).2 = y1 at *
        have w1 : IntKind.i64.wrap ((m : Int) + 1) = ((m + 1 : Nat) : Int) := by rw [show (m : Int) + 1 = ((m + 1 : Nat) : Int) by omega]; exact IntWalk.i64_in _ (by omega)
        have z2 : ((m + 1 : Nat) : Int) < (ps.length : Int) := by omega
        have z3 : (0 : Int) ≤ ((m + 1 : Nat) : Int) := by omega
        have w4 : (m : Int) + 1 = ((m + 1 : Nat) : Int) := by omega
        have zn : decide (m + 1 < ps.length) = true := by simpa using hn
        generalize m + 1 = m1 at *
        clear h hq hc hok ev
        by_cases he : y0 = x0
        · subst he
          rw [if_pos ⟨hn, rfl⟩]
          clear hn
          go_enter Try.func13, Try.ntmps13
          go_wp2_with (go_at_call 40; refine (HA.out).mono ?_; rintro e w1 ⟨rfl, hbW⟩; have hcW := (bcell hbW.below).1; have hfW := (bcell hbW.below).2; (try have hzW : w.heap.size < w1.heap.size := by have hq := hbW.below.size; (try simp at hq); omega); (try have hyW : w.heap.size + 1 < w1.heap.size := by have hq := hbW.below.size; (try simp at hq); omega); (try have hxW : w.heap.size + 2 < w1.heap.size := by have hq := hbW.below.size; (try simp at hq); omega))
          have F0 := gr_all hbW f0
          have F1 := gr_all hbW f1
          have F2 := gr_all hbW f2
          have F3 := gr_all hbW f3
          clear f0 f1 f2 f3
          (refine wp_region_quiet_grown mixed (by kernel_rfl) ?_; (repeat (first | go_big_quiet_step ((fail)) | quiet_step ((fail)))); refine wpQuiet_nil ?_; intro _ hw'; obtain ⟨⟨nq, osq⟩, hw''⟩ := hw'; subst hw'')
          go_wp2
          go_ret2
          exact ⟨rfl, by repeat (first | exact Gr.refl _ | refine Gr.alloc ?_ _ | refine Gr.trans ?_ (by assumption) | refine Gr.drew ?_ | refine Gr.drewN ?_ _ | refine Gr.grow ?_ _ | refine Gr.setCell ?_ (by (try simp); (try omega)) _)⟩
        · rw [if_neg (fun q => he q.2)]
          have hd : (y0 == x0) = false := by simpa using he
          clear hn he
          go_enter Try.func13, Try.ntmps13
          go_wp2_with (go_at_call 40; refine (HA.out).mono ?_; rintro e w1 ⟨rfl, hbW⟩; have hcW := (bcell hbW.below).1; have hfW := (bcell hbW.below).2; (try have hzW : w.heap.size < w1.heap.size := by have hq := hbW.below.size; (try simp at hq); omega); (try have hyW : w.heap.size + 1 < w1.heap.size := by have hq := hbW.below.size; (try simp at hq); omega); (try have hxW : w.heap.size + 2 < w1.heap.size := by have hq := hbW.below.size; (try simp at hq); omega))
          have F0 := gr_all hbW f0
          have F1 := gr_all hbW f1
          have F2 := gr_all hbW f2
          have F3 := gr_all hbW f3
          clear f0 f1 f2 f3
          (refine wp_region_quiet_grown mixed (by kernel_rfl) ?_; (repeat (first | go_big_quiet_step ((fail)) | quiet_step ((fail)))); refine wpQuiet_nil ?_; intro _ hw'; obtain ⟨⟨nq, osq⟩, hw''⟩ := hw'; subst hw'')
          go_wp2
          go_ret2
          exact ⟨rfl, by repeat (first | exact Gr.refl _ | refine Gr.alloc ?_ _ | refine Gr.trans ?_ (by assumption) | refine Gr.drew ?_ | refine Gr.drewN ?_ _ | refine Gr.grow ?_ _ | refine Gr.setCell ?_ (by (try simp); (try omega)) _)⟩
      · rw [if_neg (fun q => hn q.1)]
        generalize (ps.getD m (0, 0)).1 = x0 at *
        generalize (ps.getD m (0, 0)).2 = x1 at *
        have w1 : IntKind.i64.wrap ((m : Int) + 1) = (m : Int) + 1 := IntWalk.i64_in _ (by omega)
        have zn : decide ((m : Int) + 1 < (ps.length : Int)) = false := by simp; omega
        clear h hq hc hok ev hn
        go_enter Try.func13, Try.ntmps13
        go_wp2_with (go_at_call 40; refine (HA.out).mono ?_; rintro e w1 ⟨rfl, hbW⟩; have hcW := (bcell hbW.below).1; have hfW := (bcell hbW.below).2; (try have hzW : w.heap.size < w1.heap.size := by have hq := hbW.below.size; (try simp at hq); omega); (try have hyW : w.heap.size + 1 < w1.heap.size := by have hq := hbW.below.size; (try simp at hq); omega); (try have hxW : w.heap.size + 2 < w1.heap.size := by have hq := hbW.below.size; (try simp at hq); omega))
        have F0 := gr_all hbW f0
        have F1 := gr_all hbW f1
        clear f0 f1
        (refine wp_region_quiet_grown mixed (by kernel_rfl) ?_; (repeat (first | go_big_quiet_step ((fail)) | quiet_step ((fail)))); refine wpQuiet_nil ?_; intro _ hw'; obtain ⟨⟨nq, osq⟩, hw''⟩ := hw'; subst hw'')
        go_wp2
        go_ret2
        exact ⟨rfl, by repeat (first | exact Gr.refl _ | refine Gr.alloc ?_ _ | refine Gr.trans ?_ (by assumption) | refine Gr.drew ?_ | refine Gr.drewN ?_ _ | refine Gr.grow ?_ _ | refine Gr.setCell ?_ (by (try simp); (try omega)) _)⟩
set_option maxHeartbeats 1600000 in
theorem Try.iRoomBehind (w : World) (B : Nat) (v : Value) (ps : List Pi2) (k : Int) (hl : ps.length ≤ 1048576) (h : OwnP 34 w B v ps) :
    Calls Try.prog 15 #[v, .int .i64 k] w fun e w' => e = .returned (.tuple #[.int .i64 (rmV ps k), .bool (askB ps k)]) ∧ Gr w w' := by
  have mixed : Try.prog.follows .mixedOrders = true := by kernel_rfl
  cases hq : askB ps k
  · have HA := Lib.hid (Try.haveIndex w B v ps k false hq hl h)
    rw [show rmV ps k = 0 by simp [rmV, hq]]
    obtain ⟨A, c, rfl, h⟩ := h.eta
    clear h hq
    go_enter Try.func15, Try.ntmps15
    go_wp2_with (go_at_call 41; refine (HA.out).mono ?_; rintro e w1 ⟨rfl, hbW⟩; have hcW := (bcell hbW.below).1; have hfW := (bcell hbW.below).2; (try have hzW : w.heap.size < w1.heap.size := by have hq := hbW.below.size; (try simp at hq); omega); (try have hyW : w.heap.size + 1 < w1.heap.size := by have hq := hbW.below.size; (try simp at hq); omega); (try have hxW : w.heap.size + 2 < w1.heap.size := by have hq := hbW.below.size; (try simp at hq); omega))
    go_ret2
    exact ⟨rfl, by repeat (first | exact Gr.refl _ | refine Gr.alloc ?_ _ | refine Gr.trans ?_ (by assumption) | refine Gr.drew ?_ | refine Gr.drewN ?_ _ | refine Gr.grow ?_ _ | refine Gr.setCell ?_ (by (try simp); (try omega)) _)⟩
  · have HA := Lib.hid (Try.haveIndex w B v ps k true hq hl h)
    obtain ⟨hok, m, rfl, hm⟩ := askB_t hq
    have ev : rmV ps m = (if m + 1 < ps.length ∧ (ps.getD (m + 1) (0, 0)).1 = (ps.getD m (0, 0)).1 then (ps.getD (m + 1) (0, 0)).2 else 27) - (ps.getD m (0, 0)).2 - 1 := by simp [rmV, hq]
    rw [ev]
    obtain ⟨a1, a2, a3, a4⟩ := ok_at hok m hm
    have h60 := hok.2.1
    rcases h.view with ⟨hz, _⟩ | ⟨_, g, c, rfl, _, g2, _, _, hc, _⟩
    · subst hz; simp at hm
    · obtain ⟨f0, f1⟩ := hc m hm
      have z0 : (0 : Int) ≤ (m : Int) := by omega
      have z1 : (m : Int) < (ps.length : Int) := by omega
      by_cases hn : m + 1 < ps.length
      · obtain ⟨c1, c2, c3, c4⟩ := ok_at hok (m + 1) hn
        obtain ⟨f2, f3⟩ := hc (m + 1) hn
        generalize (ps.getD m (0, 0)).1 = x0 at *
        generalize (ps.getD m (0, 0)).2 = x1 at *
        generalize (ps.getD (m + 1) (0, 0)).1 = y0 at *
        generalize (ps.getD (m + 1) (0, 0)).2 = y1 at *
        have w1 : IntKind.i64.wrap ((m : Int) + 1) = ((m + 1 : Nat) : Int) := by rw [show (m : Int) + 1 = ((m + 1 : Nat) : Int) by omega]; exact IntWalk.i64_in _ (by omega)
        have z2 : ((m + 1 : Nat) : Int) < (ps.length : Int) := by omega
        have z3 : (0 : Int) ≤ ((m + 1 : Nat) : Int) := by omega
        have w4 : (m : Int) + 1 = ((m + 1 : Nat) : Int) := by omega
        have zn : decide (m + 1 < ps.length) = true := by simpa using hn
        generalize m + 1 = m1 at *
        clear h hq hc hok ev
        by_cases he : y0 = x0
        · subst he
          rw [if_pos ⟨hn, rfl⟩]
          clear hn
          go_enter Try.func15, Try.ntmps15
          go_wp2_with (go_at_call 41; refine (HA.out).mono ?_; rintro e w1 ⟨rfl, hbW⟩; have hcW := (bcell hbW.below).1; have hfW := (bcell hbW.below).2; (try have hzW : w.heap.size < w1.heap.size := by have hq := hbW.below.size; (try simp at hq); omega); (try have hyW : w.heap.size + 1 < w1.heap.size := by have hq := hbW.below.size; (try simp at hq); omega); (try have hxW : w.heap.size + 2 < w1.heap.size := by have hq := hbW.below.size; (try simp at hq); omega))
          have F0 := gr_all hbW f0
          have F1 := gr_all hbW f1
          have F2 := gr_all hbW f2
          have F3 := gr_all hbW f3
          clear f0 f1 f2 f3
          (refine wp_region_quiet_grown mixed (by kernel_rfl) ?_; (repeat (first | go_big_quiet_step ((fail)) | quiet_step ((fail)))); refine wpQuiet_nil ?_; intro _ hw'; obtain ⟨⟨nq, osq⟩, hw''⟩ := hw'; subst hw'')
          go_wp2
          go_ret2
          exact ⟨rfl, by repeat (first | exact Gr.refl _ | refine Gr.alloc ?_ _ | refine Gr.trans ?_ (by assumption) | refine Gr.drew ?_ | refine Gr.drewN ?_ _ | refine Gr.grow ?_ _ | refine Gr.setCell ?_ (by (try simp); (try omega)) _)⟩
        · rw [if_neg (fun q => he q.2)]
          have hd : (y0 == x0) = false := by simpa using he
          clear hn he
          go_enter Try.func15, Try.ntmps15
          go_wp2_with (go_at_call 41; refine (HA.out).mono ?_; rintro e w1 ⟨rfl, hbW⟩; have hcW := (bcell hbW.below).1; have hfW := (bcell hbW.below).2; (try have hzW : w.heap.size < w1.heap.size := by have hq := hbW.below.size; (try simp at hq); omega); (try have hyW : w.heap.size + 1 < w1.heap.size := by have hq := hbW.below.size; (try simp at hq); omega); (try have hxW : w.heap.size + 2 < w1.heap.size := by have hq := hbW.below.size; (try simp at hq); omega))
          have F0 := gr_all hbW f0
          have F1 := gr_all hbW f1
          have F2 := gr_all hbW f2
          have F3 := gr_all hbW f3
          clear f0 f1 f2 f3
          (refine wp_region_quiet_grown mixed (by kernel_rfl) ?_; (repeat (first | go_big_quiet_step ((fail)) | quiet_step ((fail)))); refine wpQuiet_nil ?_; intro _ hw'; obtain ⟨⟨nq, osq⟩, hw''⟩ := hw'; subst hw'')
          go_wp2
          go_ret2
          exact ⟨rfl, by repeat (first | exact Gr.refl _ | refine Gr.alloc ?_ _ | refine Gr.trans ?_ (by assumption) | refine Gr.drew ?_ | refine Gr.drewN ?_ _ | refine Gr.grow ?_ _ | refine Gr.setCell ?_ (by (try simp); (try omega)) _)⟩
      · rw [if_neg (fun q => hn q.1)]
        generalize (ps.getD m (0, 0)).1 = x0 at *
        generalize (ps.getD m (0, 0)).2 = x1 at *
        have w1 : IntKind.i64.wrap ((m : Int) + 1) = (m : Int) + 1 := IntWalk.i64_in _ (by omega)
        have zn : decide ((m : Int) + 1 < (ps.length : Int)) = false := by simp; omega
        clear h hq hc hok ev hn
        go_enter Try.func15, Try.ntmps15
        go_wp2_with (go_at_call 41; refine (HA.out).mono ?_; rintro e w1 ⟨rfl, hbW⟩; have hcW := (bcell hbW.below).1; have hfW := (bcell hbW.below).2; (try have hzW : w.heap.size < w1.heap.size := by have hq := hbW.below.size; (try simp at hq); omega); (try have hyW : w.heap.size + 1 < w1.heap.size := by have hq := hbW.below.size; (try simp at hq); omega); (try have hxW : w.heap.size + 2 < w1.heap.size := by have hq := hbW.below.size; (try simp at hq); omega))
        have F0 := gr_all hbW f0
        have F1 := gr_all hbW f1
        clear f0 f1
        (refine wp_region_quiet_grown mixed (by kernel_rfl) ?_; (repeat (first | go_big_quiet_step ((fail)) | quiet_step ((fail)))); refine wpQuiet_nil ?_; intro _ hw'; obtain ⟨⟨nq, osq⟩, hw''⟩ := hw'; subst hw'')
        go_wp2
        go_ret2
        exact ⟨rfl, by repeat (first | exact Gr.refl _ | refine Gr.alloc ?_ _ | refine Gr.trans ?_ (by assumption) | refine Gr.drew ?_ | refine Gr.drewN ?_ _ | refine Gr.grow ?_ _ | refine Gr.setCell ?_ (by (try simp); (try omega)) _)⟩
end Go.Proofs
