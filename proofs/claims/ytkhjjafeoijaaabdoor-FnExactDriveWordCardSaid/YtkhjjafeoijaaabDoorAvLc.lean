/-
  Contracts of chapter 4: a corner that a list tells, both sides.
-/
import Derived.Test.YtkhjjafeoijaaabDoorBrH
import Derived.Test.YtkhjjafeoijaaabDoorInts2
import Derived.Deep.RegionHeld3
namespace Go.Proofs
open Go.RowKit Av
set_option linter.unusedVariables false
set_option linter.unusedSimpArgs false
/-- do these two numbers tell a corner? -/
def isC (W H : Int) (xs : List Int) : Bool := decide (xs.length = 2) && onB W H (xs.getD 0 0) (xs.getD 1 0)
theorem isC_len {W H : Int} {xs : List Int} (h : xs.length ≠ 2) : isC W H xs = false := by unfold isC; rw [decide_eq_false h]; rfl
theorem len_two {xs : List Int} (h : xs.length = 2) : ∃ x y, xs = [x, y] := by
  match xs, h with
  | [x, y], _ => exact ⟨x, y, rfl⟩
theorem isC_two (W H x y : Int) : isC W H [x, y] = onB W H x y := rfl
/-- the corner that a list tells, or none -/
def coX (b : Bool) (xs : List Int) : Int := if b then xs.getD 0 0 else 0
def coY (b : Bool) (xs : List Int) : Int := if b then xs.getD 1 0 else 0
def coV (b : Bool) (xs : List Int) : Value := .agg #[.int .i64 (coX b xs), .int .i64 (coY b xs)]
theorem Tryd.arrAt (g c : Nat) (W : World) : (Instr.arrayAt 48 (.slice (some ⟨g, 0, none⟩) 2 c)).run Tryd.prog W = .ok (.pointer (some ⟨g, 0, none⟩)) W := by kernel_rfl
/-- the cells of a result of two, in whatever world behind it -/
theorem resA {w W : World} {A : Obj} {a b : Value} {t : TypeId} (g : Gr ((w.alloc A).alloc (.cells #[a, b] t)) W) :
    (∀ n os, (Go.Sort.grow (W.drewN n) os).cell? ⟨w.heap.size + 1, 0, none⟩ = some a) ∧ (∀ n os, (Go.Sort.grow (W.drewN n) os).cell? ⟨w.heap.size + 1, 1, none⟩ = some b) ∧
    (∀ n os, (Go.Sort.grow (W.drewN n) os).frozen? ⟨w.heap.size + 1, 0, none⟩ = false) ∧ (∀ n os, (Go.Sort.grow (W.drewN n) os).frozen? ⟨w.heap.size + 1, 1, none⟩ = false) :=
  ⟨gr_all g (by simp [go_sem]), gr_all g (by simp [go_sem]), gr_all_f g (by simp) (by simp [go_sem]), gr_all_f g (by simp) (by simp [go_sem])⟩
set_option maxRecDepth 100000 in
set_option maxHeartbeats 1600000 in
theorem Tryd.cornerOf (w : World) (W H : Int) (B : Nat) (a : Value) (ps : List Blk) (Ba : Nat) (la : Value) (xs : List Int) (b1 b2 : Bool) (h1 : okB W H ps = b1) (h2 : isC W H xs = b2) (hl : ps.length ≤ 1048576) (h : OwnB w B a ps) (hla : OwnI w Ba la xs) :
    Calls Tryd.prog 45 #[.agg #[.int .i64 W, .int .i64 H, a], la] w fun e w' => e = .returned (.tuple #[coV (b1 && b2) xs, .bool (b1 && b2)]) ∧ Gr w w' := by
  have mixed : Tryd.prog.follows .mixedOrders = true := by kernel_rfl
  obtain ⟨A, c, rfl, h⟩ := OwnE.eta h
  have HA := Lib.hid (fun (X : World) (g : Gr w X) => Tryd.iIsCity X W H B _ ps b1 h1 hl (h.gr g))
  have HR := Lib.hid h1
  obtain ⟨q0, q1, q2⟩ := boxG3 (w := w) (W := (w.alloc (.cells #[.int .i64 W, .int .i64 H, .slice A ps.length c] 71)).alloc (.cells #[.int .i64 0, .int .i64 0] 48)) (Gr.alloc (Gr.refl _) _)
  obtain ⟨q3, q4, q5, q6⟩ := resA (w := w) (A := .cells #[.int .i64 W, .int .i64 H, .slice A ps.length c] 71) (a := .int .i64 0) (b := .int .i64 0) (t := 48) (Gr.refl _)
  have har := Tryd.arrAt
  by_cases hl2 : xs.length = 2
  · obtain ⟨x, y, rfl⟩ := len_two hl2
    rcases hla.view with ⟨hx, _⟩ | ⟨_, gl, cl, rfl, _, gl2, _, _, _⟩
    · cases hx
    obtain ⟨l0, _⟩ := hla.at rfl 0 (by simp)
    obtain ⟨l1, _⟩ := hla.at rfl 1 (by simp)
    simp only [List.getD_cons_zero, List.getD_cons_succ, List.length_cons, List.length_nil, Nat.zero_add, Nat.reduceAdd] at l0 l1 ⊢
    have r0 := gr_all (Gr.alloc (Gr.alloc (Gr.refl _) (.cells #[.int .i64 W, .int .i64 H, .slice A ps.length c] 71)) (.cells #[.int .i64 0, .int .i64 0] 48)) l0
    have r1 := gr_all (Gr.alloc (Gr.alloc (Gr.refl _) (.cells #[.int .i64 W, .int .i64 H, .slice A ps.length c] 71)) (.cells #[.int .i64 0, .int .i64 0] 48)) l1
    rw [isC_two] at h2
    have HO := Lib.hid h2
    clear h hla l0 l1 hl2 h1 h2
    cases b1
    · go_enter Tryd.func45, Tryd.ntmps45
      go_wp2
      (refine wp_region_quiet_grown mixed (by kernel_rfl) ?_; (repeat (first | go_big_quiet_step ((first | (go_at_call 57; exact Calls.grown_of (HA.out _ (by repeat (first | exact Gr.refl _ | refine Gr.alloc ?_ _ | refine Gr.trans ?_ (by assumption) | refine Gr.drew ?_ | refine Gr.drewN ?_ _ | refine Gr.grow ?_ _ | refine Gr.setCell ?_ (by (try simp); (try omega)) _)))))) | quiet_step ((first | (go_at_call 57; exact Calls.grown_of (HA.out _ (by repeat (first | exact Gr.refl _ | refine Gr.alloc ?_ _ | refine Gr.trans ?_ (by assumption) | refine Gr.drew ?_ | refine Gr.drewN ?_ _ | refine Gr.grow ?_ _ | refine Gr.setCell ?_ (by (try simp); (try omega)) _)))))))); refine wpQuiet_nil ?_; intro _ hw'; obtain ⟨⟨nq, osq⟩, hw''⟩ := hw'; subst hw'')
      go_wp2
      refine bodyPost_ret (v := .tuple #[coV false [x, y], .bool false]) ?_ rfl ⟨rfl, ?_⟩
      · simp [results, Tryd.results45, go_sem, q3, q4, coV, coX, coY]
      · exact Gr.setCell (Gr.setCell (by repeat (first | exact Gr.refl _ | refine Gr.alloc ?_ _ | refine Gr.trans ?_ (by assumption) | refine Gr.drew ?_ | refine Gr.drewN ?_ _ | refine Gr.grow ?_ _ | refine Gr.setCell ?_ (by (try simp); (try omega)) _)) (by simp) _) (by simp) _
    · obtain ⟨o1, o2, o3, o4, _⟩ := of_decide_eq_true HR.out
      have HC := Lib.hid (fun (X : World) => Tryd.hasCorner W H A ps.length c x y ⟨o1, o2⟩ ⟨o3, o4⟩ b2 HO.out X)
      cases b2
      all_goals
        go_enter Tryd.func45, Tryd.ntmps45
        go_wp2
        (refine wp_region_quiet_grown mixed (by kernel_rfl) ?_; (repeat (first | go_big_quiet_step ((first | (go_at_call 57; exact Calls.grown_of (HA.out _ (by repeat (first | exact Gr.refl _ | refine Gr.alloc ?_ _ | refine Gr.trans ?_ (by assumption) | refine Gr.drew ?_ | refine Gr.drewN ?_ _ | refine Gr.grow ?_ _ | refine Gr.setCell ?_ (by (try simp); (try omega)) _)))) | (go_at_call 58; exact Calls.grown_of (HC.out _)))) | quiet_step ((first | (go_at_call 57; exact Calls.grown_of (HA.out _ (by repeat (first | exact Gr.refl _ | refine Gr.alloc ?_ _ | refine Gr.trans ?_ (by assumption) | refine Gr.drew ?_ | refine Gr.drewN ?_ _ | refine Gr.grow ?_ _ | refine Gr.setCell ?_ (by (try simp); (try omega)) _)))) | (go_at_call 58; exact Calls.grown_of (HC.out _)))))); refine wpQuiet_nil ?_; intro _ hw'; obtain ⟨⟨nq, osq⟩, hw''⟩ := hw'; subst hw'')
        go_wp2
        refine bodyPost_ret (v := .tuple #[coV _ [x, y], .bool _]) ?_ rfl ⟨rfl, ?_⟩
        · simp [results, Tryd.results45, go_sem, q3, q4, coV, coX, coY]
        · exact Gr.setCell (Gr.setCell (by repeat (first | exact Gr.refl _ | refine Gr.alloc ?_ _ | refine Gr.trans ?_ (by assumption) | refine Gr.drew ?_ | refine Gr.drewN ?_ _ | refine Gr.grow ?_ _ | refine Gr.setCell ?_ (by (try simp); (try omega)) _)) (by simp) _) (by simp) _
  · obtain ⟨A1, c1, rfl⟩ := hla.form
    rw [isC_len hl2] at h2
    subst h2
    have z : ¬ (xs.length : Int) = 2 := by omega
    clear hla h h1
    cases b1
    all_goals
      go_enter Tryd.func45, Tryd.ntmps45
      go_wp2
      (refine wp_region_quiet_grown mixed (by kernel_rfl) ?_; (repeat (first | go_big_quiet_step ((first | (go_at_call 57; exact Calls.grown_of (HA.out _ (by repeat (first | exact Gr.refl _ | refine Gr.alloc ?_ _ | refine Gr.trans ?_ (by assumption) | refine Gr.drew ?_ | refine Gr.drewN ?_ _ | refine Gr.grow ?_ _ | refine Gr.setCell ?_ (by (try simp); (try omega)) _)))))) | quiet_step ((first | (go_at_call 57; exact Calls.grown_of (HA.out _ (by repeat (first | exact Gr.refl _ | refine Gr.alloc ?_ _ | refine Gr.trans ?_ (by assumption) | refine Gr.drew ?_ | refine Gr.drewN ?_ _ | refine Gr.grow ?_ _ | refine Gr.setCell ?_ (by (try simp); (try omega)) _)))))))); refine wpQuiet_nil ?_; intro _ hw'; obtain ⟨⟨nq, osq⟩, hw''⟩ := hw'; subst hw'')
      go_wp2
      refine bodyPost_ret (v := .tuple #[coV false xs, .bool false]) ?_ rfl ⟨rfl, ?_⟩
      · simp [results, Tryd.results45, go_sem, q3, q4, coV, coX, coY]
      · exact Gr.setCell (Gr.setCell (by repeat (first | exact Gr.refl _ | refine Gr.alloc ?_ _ | refine Gr.trans ?_ (by assumption) | refine Gr.drew ?_ | refine Gr.drewN ?_ _ | refine Gr.grow ?_ _ | refine Gr.setCell ?_ (by (try simp); (try omega)) _)) (by simp) _) (by simp) _
end Go.Proofs
