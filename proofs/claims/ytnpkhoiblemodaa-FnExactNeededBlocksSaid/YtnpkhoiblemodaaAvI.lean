/-
  Contracts of chapter 4: the corner that a list tells, two of them, and what there is to tell of the shortest ways between them (the program).
-/
import Derived.Test.YtnpkhoiblemodaaAvL
namespace Go.Proofs
open Go.RowKit Av Gm Go.Maps
set_option linter.unusedVariables false
set_option linter.unusedSimpArgs false
/-- the corner that a list tells, or none -/
def coX (b : Bool) (xs : List Int) : Int := if b then xs.getD 0 0 else 0
def coY (b : Bool) (xs : List Int) : Int := if b then xs.getD 1 0 else 0
def coV (b : Bool) (xs : List Int) : Value := .agg #[.int .i64 (coX b xs), .int .i64 (coY b xs)]
theorem Try.arrAt (g c : Nat) (W : World) : (Instr.arrayAt 66 (.slice (some ⟨g, 0, none⟩) 2 c)).run Try.prog W = .ok (.pointer (some ⟨g, 0, none⟩)) W := by kernel_rfl
/-- the cells of a result of two, in whatever world behind it -/
theorem resA {w W : World} {A : Obj} {a b : Value} {t : TypeId} (g : Gr ((w.alloc A).alloc (.cells #[a, b] t)) W) :
    (∀ n os, (Go.Sort.grow (W.drewN n) os).cell? ⟨w.heap.size + 1, 0, none⟩ = some a) ∧ (∀ n os, (Go.Sort.grow (W.drewN n) os).cell? ⟨w.heap.size + 1, 1, none⟩ = some b) ∧
    (∀ n os, (Go.Sort.grow (W.drewN n) os).frozen? ⟨w.heap.size + 1, 0, none⟩ = false) ∧ (∀ n os, (Go.Sort.grow (W.drewN n) os).frozen? ⟨w.heap.size + 1, 1, none⟩ = false) :=
  ⟨gr_all g (by simp [go_sem]), gr_all g (by simp [go_sem]), gr_all_f g (by simp) (by simp [go_sem]), gr_all_f g (by simp) (by simp [go_sem])⟩
set_option maxRecDepth 100000 in
set_option maxHeartbeats 1600000 in
theorem Try.cornerOf (w : World) (W H : Int) (B : Nat) (a : Value) (ps : List Blk) (Ba : Nat) (la : Value) (xs : List Int) (b1 b2 : Bool) (h1 : okB W H ps = b1) (h2 : isC W H xs = b2) (hl : ps.length ≤ 1048576) (h : OwnB w B a ps) (hla : OwnI w Ba la xs) :
    Calls Try.prog 72 #[.agg #[.int .i64 W, .int .i64 H, a], la] w fun e w' => e = .returned (.tuple #[coV (b1 && b2) xs, .bool (b1 && b2)]) ∧ Gr w w' := by
  have mixed : Try.prog.follows .mixedOrders = true := by kernel_rfl
  obtain ⟨A, c, rfl, h⟩ := OwnE.eta h
  have HA := Lib.hid (fun (X : World) (g : Gr w X) => Try.iIsCity X W H B _ ps b1 h1 hl (h.gr g))
  have HR := Lib.hid h1
  obtain ⟨q0, q1, q2⟩ := boxG3 (w := w) (W := (w.alloc (.cells #[.int .i64 W, .int .i64 H, .slice A ps.length c] 30)).alloc (.cells #[.int .i64 0, .int .i64 0] 66)) (Gr.alloc (Gr.refl _) _)
  obtain ⟨q3, q4, q5, q6⟩ := resA (w := w) (A := .cells #[.int .i64 W, .int .i64 H, .slice A ps.length c] 30) (a := .int .i64 0) (b := .int .i64 0) (t := 66) (Gr.refl _)
  have har := Try.arrAt
  by_cases hl2 : xs.length = 2
  · obtain ⟨x, y, rfl⟩ := len_two hl2
    rcases hla.view with ⟨hx, _⟩ | ⟨_, gl, cl, rfl, _, gl2, _, _, _⟩
    · cases hx
    obtain ⟨l0, _⟩ := hla.at rfl 0 (by simp)
    obtain ⟨l1, _⟩ := hla.at rfl 1 (by simp)
    simp only [List.getD_cons_zero, List.getD_cons_succ, List.length_cons, List.length_nil, Nat.zero_add, Nat.reduceAdd] at l0 l1 ⊢
    have r0 := gr_all (Gr.alloc (Gr.alloc (Gr.refl _) (.cells #[.int .i64 W, .int .i64 H, .slice A ps.length c] 30)) (.cells #[.int .i64 0, .int .i64 0] 66)) l0
    have r1 := gr_all (Gr.alloc (Gr.alloc (Gr.refl _) (.cells #[.int .i64 W, .int .i64 H, .slice A ps.length c] 30)) (.cells #[.int .i64 0, .int .i64 0] 66)) l1
    rw [isC_two] at h2
    have HO := Lib.hid h2
    clear h hla l0 l1 hl2 h1 h2
    cases b1
    · go_enter Try.func72, Try.ntmps72
      go_wp2
      (refine wp_region_quiet_grown mixed (by kernel_rfl) ?_; (repeat (first | go_big_quiet_step ((first | (go_at_call 33; exact Calls.grown_of (HA.out _ (by repeat (first | exact Gr.refl _ | refine Gr.alloc ?_ _ | refine Gr.trans ?_ (by assumption) | refine Gr.drew ?_ | refine Gr.drewN ?_ _ | refine Gr.grow ?_ _ | refine Gr.setCell ?_ (by (try simp); (try omega)) _)))))) | quiet_step ((first | (go_at_call 33; exact Calls.grown_of (HA.out _ (by repeat (first | exact Gr.refl _ | refine Gr.alloc ?_ _ | refine Gr.trans ?_ (by assumption) | refine Gr.drew ?_ | refine Gr.drewN ?_ _ | refine Gr.grow ?_ _ | refine Gr.setCell ?_ (by (try simp); (try omega)) _)))))))); refine wpQuiet_nil ?_; intro _ hw'; obtain ⟨⟨nq, osq⟩, hw''⟩ := hw'; subst hw'')
      go_wp2
      refine bodyPost_ret (v := .tuple #[coV false [x, y], .bool false]) ?_ rfl ⟨rfl, ?_⟩
      · simp [results, Try.results72, go_sem, q3, q4, coV, coX, coY]
      · exact Gr.setCell (Gr.setCell (by repeat (first | exact Gr.refl _ | refine Gr.alloc ?_ _ | refine Gr.trans ?_ (by assumption) | refine Gr.drew ?_ | refine Gr.drewN ?_ _ | refine Gr.grow ?_ _ | refine Gr.setCell ?_ (by (try simp); (try omega)) _)) (by simp) _) (by simp) _
    · obtain ⟨o1, o2, o3, o4, _⟩ := of_decide_eq_true HR.out
      have HC := Lib.hid (fun (X : World) => Try.hasCorner W H A ps.length c x y ⟨o1, o2⟩ ⟨o3, o4⟩ b2 HO.out X)
      cases b2
      all_goals
        go_enter Try.func72, Try.ntmps72
        go_wp2
        (refine wp_region_quiet_grown mixed (by kernel_rfl) ?_; (repeat (first | go_big_quiet_step ((first | (go_at_call 33; exact Calls.grown_of (HA.out _ (by repeat (first | exact Gr.refl _ | refine Gr.alloc ?_ _ | refine Gr.trans ?_ (by assumption) | refine Gr.drew ?_ | refine Gr.drewN ?_ _ | refine Gr.grow ?_ _ | refine Gr.setCell ?_ (by (try simp); (try omega)) _)))) | (go_at_call 53; exact Calls.grown_of (HC.out _)))) | quiet_step ((first | (go_at_call 33; exact Calls.grown_of (HA.out _ (by repeat (first | exact Gr.refl _ | refine Gr.alloc ?_ _ | refine Gr.trans ?_ (by assumption) | refine Gr.drew ?_ | refine Gr.drewN ?_ _ | refine Gr.grow ?_ _ | refine Gr.setCell ?_ (by (try simp); (try omega)) _)))) | (go_at_call 53; exact Calls.grown_of (HC.out _)))))); refine wpQuiet_nil ?_; intro _ hw'; obtain ⟨⟨nq, osq⟩, hw''⟩ := hw'; subst hw'')
        go_wp2
        refine bodyPost_ret (v := .tuple #[coV _ [x, y], .bool _]) ?_ rfl ⟨rfl, ?_⟩
        · simp [results, Try.results72, go_sem, q3, q4, coV, coX, coY]
        · exact Gr.setCell (Gr.setCell (by repeat (first | exact Gr.refl _ | refine Gr.alloc ?_ _ | refine Gr.trans ?_ (by assumption) | refine Gr.drew ?_ | refine Gr.drewN ?_ _ | refine Gr.grow ?_ _ | refine Gr.setCell ?_ (by (try simp); (try omega)) _)) (by simp) _) (by simp) _
  · obtain ⟨A1, c1, rfl⟩ := hla.form
    rw [isC_len hl2] at h2
    subst h2
    have z : ¬ (xs.length : Int) = 2 := by omega
    clear hla h h1
    cases b1
    all_goals
      go_enter Try.func72, Try.ntmps72
      go_wp2
      (refine wp_region_quiet_grown mixed (by kernel_rfl) ?_; (repeat (first | go_big_quiet_step ((first | (go_at_call 33; exact Calls.grown_of (HA.out _ (by repeat (first | exact Gr.refl _ | refine Gr.alloc ?_ _ | refine Gr.trans ?_ (by assumption) | refine Gr.drew ?_ | refine Gr.drewN ?_ _ | refine Gr.grow ?_ _ | refine Gr.setCell ?_ (by (try simp); (try omega)) _)))))) | quiet_step ((first | (go_at_call 33; exact Calls.grown_of (HA.out _ (by repeat (first | exact Gr.refl _ | refine Gr.alloc ?_ _ | refine Gr.trans ?_ (by assumption) | refine Gr.drew ?_ | refine Gr.drewN ?_ _ | refine Gr.grow ?_ _ | refine Gr.setCell ?_ (by (try simp); (try omega)) _)))))))); refine wpQuiet_nil ?_; intro _ hw'; obtain ⟨⟨nq, osq⟩, hw''⟩ := hw'; subst hw'')
      go_wp2
      refine bodyPost_ret (v := .tuple #[coV false xs, .bool false]) ?_ rfl ⟨rfl, ?_⟩
      · simp [results, Try.results72, go_sem, q3, q4, coV, coX, coY]
      · exact Gr.setCell (Gr.setCell (by repeat (first | exact Gr.refl _ | refine Gr.alloc ?_ _ | refine Gr.trans ?_ (by assumption) | refine Gr.drew ?_ | refine Gr.drewN ?_ _ | refine Gr.grow ?_ _ | refine Gr.setCell ?_ (by (try simp); (try omega)) _)) (by simp) _) (by simp) _
end Go.Proofs
