/-
  Chapter 6: the ways of signs in the order in which one goes around (spec.owSign, owWay; strings.IndexRune of a sign).
-/
import Derived.Test.YtkhjjafeoijaaabDoorRuB
import Derived.Lib.SlBytesConst
namespace Go.Proofs
open Go.RowKit
set_option linter.unusedVariables false
set_option linter.unusedSimpArgs false
def srI : Nat → Int | 0 => 101 | 1 => 110 | 2 => 119 | _ => 115
def wy (c : UInt8) : Nat := if c = 101 then 0 else if c = 110 then 1 else if c = 119 then 2 else 3
theorem wy_lt (c : UInt8) : wy c < 4 := by unfold wy; (repeat' split) <;> omega
theorem wy_sr {c : UInt8} (h : isSg c) : (c.toNat : Int) = srI (wy c) := by
  rcases h with e | e | e | e <;> subst e <;> rfl
theorem srI_inj {p q : Nat} (hp : p < 4) (hq : q < 4) (h : p ≠ q) : srI p ≠ srI q := by
  rcases (show p = 0 ∨ p = 1 ∨ p = 2 ∨ p = 3 by omega) with rfl | rfl | rfl | rfl <;> rcases (show q = 0 ∨ q = 1 ∨ q = 2 ∨ q = 3 by omega) with rfl | rfl | rfl | rfl <;> first | (exact absurd rfl h) | decide
set_option maxHeartbeats 800000 in
theorem Tryd.owSign (w : World) (c : UInt8) (b : Bool) (hb : b = true ↔ isSg c) :
    Calls Tryd.prog 23 #[.int .u8 (c.toNat : Int)] w fun e w' => e = .returned (.bool b) ∧ w = w' := by
  have e1 : ((c.toNat : Int) == 101) = decide (c = 101) := u8_eq c 101
  have e2 : ((c.toNat : Int) == 119) = decide (c = 119) := u8_eq c 119
  have e3 : ((c.toNat : Int) == 110) = decide (c = 110) := u8_eq c 110
  have e4 : ((c.toNat : Int) == 115) = decide (c = 115) := u8_eq c 115
  have HB := Lib.hid hb
  by_cases h1 : c = 101
  · rw [decide_eq_true h1] at e1
    have HF := Lib.hid (show b = true from hb.2 (.inl h1))
    clear e2 e3 e4 hb h1
    go_enter Tryd.func23, Tryd.ntmps23
    go_wp2
    go_ret
    exact ⟨by rw [HF.out]; rfl, rfl⟩
  rw [decide_eq_false h1] at e1
  by_cases h3 : c = 110
  · rw [decide_eq_true h3] at e3
    have HF := Lib.hid (show b = true from hb.2 (.inr (.inr (.inl h3))))
    clear e2 e4 hb h1 h3
    go_enter Tryd.func23, Tryd.ntmps23
    go_wp2
    go_ret
    exact ⟨by rw [HF.out]; rfl, rfl⟩
  rw [decide_eq_false h3] at e3
  by_cases h2 : c = 119
  · rw [decide_eq_true h2] at e2
    have HF := Lib.hid (show b = true from hb.2 (.inr (.inl h2)))
    clear e4 hb h1 h2 h3
    go_enter Tryd.func23, Tryd.ntmps23
    go_wp2
    go_ret
    exact ⟨by rw [HF.out]; rfl, rfl⟩
  rw [decide_eq_false h2] at e2
  by_cases h4 : c = 115
  · rw [decide_eq_true h4] at e4
    have HF := Lib.hid (show b = true from hb.2 (.inr (.inr (.inr h4))))
    clear hb h1 h2 h3 h4
    go_enter Tryd.func23, Tryd.ntmps23
    go_wp2
    go_ret
    exact ⟨by rw [HF.out]; rfl, rfl⟩
  rw [decide_eq_false h4] at e4
  have HF := Lib.hid (show b = false from not_trueU hb (fun q => by rcases q with q | q | q | q; exact h1 q; exact h2 q; exact h3 q; exact h4 q))
  clear hb h1 h2 h3 h4
  go_enter Tryd.func23, Tryd.ntmps23
  go_wp2
  go_ret
  exact ⟨by rw [HF.out]; rfl, rfl⟩
end Go.Proofs
