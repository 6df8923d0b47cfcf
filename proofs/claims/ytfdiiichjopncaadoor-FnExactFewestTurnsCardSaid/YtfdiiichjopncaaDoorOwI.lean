/-
  Chapter 6: a step, in the model.
-/
import Derived.Test.YtfdiiichjopncaaDoorOwE
import Derived.Test.YtfdiiichjopncaaDoorBrH
namespace Go.Proofs
open Go.RowKit Av
set_option linter.unusedVariables false
set_option linter.unusedSimpArgs false
def sgc : Nat → UInt8 | 0 => 101 | 1 => 110 | 2 => 115 | _ => 119
/-- the sign is one of the corner's two -/
def mayB (s a : ByteArray) (x y j : Nat) : Bool := sgc j == gb s y || sgc j == gb a x
def drv (s a : ByteArray) (x y j : Nat) : Bool := mayB s a x y j && onB a.size s.size ((x : Int) + dx j) ((y : Int) + dy j)
/-- what the model's step comes to -/
def owV (s a : ByteArray) (x y j : Nat) : Value :=
  if mayB s a x y j then .tuple #[.int .i64 ((x : Int) + dx j), .int .i64 ((y : Int) + dy j), .bool (onB a.size s.size ((x : Int) + dx j) ((y : Int) + dy j))] else .tuple #[.int .i64 0, .int .i64 0, .bool false]
set_option maxRecDepth 100000 in
set_option maxHeartbeats 4000000 in
theorem Tryd.owStep (w : World) (s a : ByteArray) (h1 : okT 101 119 s = true) (h2 : okT 110 115 a = true) (x y : Nat) (hx : x < a.size) (hy : y < s.size) (j : Nat) (hj : j < 4) :
    Calls Tryd.prog 17 #[.agg #[.string s, .string a], .int .i64 (x : Nat), .int .i64 (y : Nat), .int .u8 (sgn j)] w fun e w' => e = .returned (owV s a x y j) ∧ Gr w w' := by
  obtain ⟨s1, s2⟩ := okT_len h1
  obtain ⟨a1, a2⟩ := okT_len h2
  have hp := okT_at h1 y hy
  have hq := okT_at h2 x hx
  have ep := gb_eq s y hy
  have eq := gb_eq a x hx
  have zx0 : (0 : Int) ≤ (x : Int) := by omega
  have zy0 : (0 : Int) ≤ (y : Int) := by omega
  have zx1 : (x : Int) < (a.size : Int) := by omega
  have zy1 : (y : Int) < (s.size : Int) := by omega
  have HN := Lib.hid (fun (n b : Int) (W : World) => Tryd.l1In n 0 b (inn n 0 b) rfl W)
  unfold owV mayB
  rw [← ep, ← eq, onB_inn]
  clear ep eq h1 h2
  have e1 : (x : Int) + -1 = x - 1 := by omega
  have e2 : (y : Int) + -1 = y - 1 := by omega
  have HE := Lib.hid (And.intro e1 e2)
  clear e1 e2
  have hjj : j = 0 ∨ j = 1 ∨ j = 2 ∨ j = 3 := by omega
  rcases hjj with rfl | rfl | rfl | rfl <;> rcases hp with hp | hp <;> rcases hq with hq | hq
  all_goals
    rw [hp, hq]
    simp only [sgc, sgn, dx, dy, Int.add_zero, Int.sub_zero, HE.out.1, HE.out.2]
    go_enter Tryd.func17, Tryd.ntmps17
    go_wp2_with (first | (go_at_call 21; refine (HN.out _ _ _).mono ?_; rintro e w1 ⟨rfl, rfl⟩))
  all_goals
    go_ret3
    exact ⟨rfl, by repeat (first | exact Gr.refl _ | refine Gr.alloc ?_ _ | refine Gr.trans ?_ (by assumption) | refine Gr.drew ?_ | refine Gr.drewN ?_ _ | refine Gr.grow ?_ _ | refine Gr.setCell ?_ (by (try simp); (try omega)) _)⟩
end Go.Proofs
