/-
  Contracts of chapter 5, the program: LeastBoxesSum, FirstBoxes.
-/
import Derived.Test.YtciiombkhndnjaaBxG
namespace Go.Proofs
open Go.RowKit
set_option linter.unusedVariables false
set_option linter.unusedSimpArgs false
theorem fbLen {xs : List Int} {n : Int} {b : Bool} (hb : b = true ↔ ManyB xs n) : (if b = true then fbL xs n else []).length ≤ 1000000000 := by
  cases q : b
  · simp
  · have := (hb.1 q).2
    rw [if_pos rfl, fbL, wayB_len]
    omega
set_option maxHeartbeats 800000 in
theorem Try.iLeastBoxesSum (w : World) (B : Nat) (v : Value) (xs : List Int) (n : Int) (b : Bool) (hb : b = true ↔ ManyB xs n) (hl : xs.length ≤ 1048576) (h : OwnI w B v xs) :
    Calls Try.prog 25 #[v, .int .i64 n] w fun e w' => e = .returned (.tuple #[.int .i64 (lbV xs n b), .bool b]) ∧ Below w.heap.size w w' := by
  have HC := Lib.hid (Try.bestChoice w B v xs n b hb hl h)
  obtain ⟨A, c, rfl, _⟩ := h.eta
  generalize lbV xs n b = T at *
  generalize (if b = true then fbL xs n else []) = R at *
  clear h hb
  go_enter Try.func25, Try.ntmps25
  go_wp2_with (first | (go_at_call 51; refine HC.out.mono ?_; rintro e w1 ⟨u, rfl, ho, hb1⟩; obtain ⟨A1, c1, rfl, ho⟩ := ho.eta))
  go_ret2
  exact ⟨rfl, hb1.alloc hb1.size _⟩
set_option maxHeartbeats 800000 in
theorem Try.iFirstBoxes (w : World) (B : Nat) (v : Value) (xs : List Int) (n : Int) (b : Bool) (hb : b = true ↔ ManyB xs n) (hl : xs.length ≤ 1048576) (h : OwnI w B v xs) :
    Calls Try.prog 27 #[v, .int .i64 n] w fun e w' => ∃ v', e = .returned (.tuple #[v', .bool b]) ∧ OwnI w' w.heap.size v' (if b then fbL xs n else []) ∧ Below w.heap.size w w' := by
  have HC := Lib.hid (Try.bestChoice w B v xs n b hb hl h)
  obtain ⟨A, c, rfl, _⟩ := h.eta
  generalize lbV xs n b = T at *
  generalize (if b = true then fbL xs n else []) = R at *
  clear h hb
  go_enter Try.func27, Try.ntmps27
  go_wp2_with (first | (go_at_call 51; refine HC.out.mono ?_; rintro e w1 ⟨u, rfl, ho, hb1⟩; obtain ⟨A1, c1, rfl, ho⟩ := ho.eta))
  go_ret2
  exact ⟨_, rfl, ho.gr (Gr.alloc (Gr.refl _) _), hb1.alloc hb1.size _⟩
end Go.Proofs
