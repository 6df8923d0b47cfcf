/-
  Chapter 7: BestLoot, FirstLoot, CountLoots (the program).
-/
import Derived.Test.YtjhpebihflcanaaRsN
namespace Go.Proofs
open Go.RowKit Go.Maps Rl
set_option linter.unusedVariables false
set_option linter.unusedSimpArgs false
theorem bestE_le {xs : List Int} {ring : Bool} (hU : UpP xs 20 1000) {l : Le} (e : bestE xs ring = some l) : LeB l := by
  have hne : xs ≠ [] := fun e => by have := hU.1.1; rw [e] at this; simp at this
  rw [← leastE_lo xs ring hne] at e
  exact LE_le (fits := loF) (r := loO xs 0) (by rw [loO_len]; have := hU.1; omega) (fun q hq => (loO_ok xs 0 (allIn_mem hU.2) q hq).len) (fun q hq => (loO_ok xs 0 (allIn_mem hU.2) q hq).ob) _ _ l e
def blV (xs : List Int) (ring b : Bool) : Int := if b = true then (match bestE xs ring with | some l => -l.cost | none => 0) else 0
def flV (xs : List Int) (ring b : Bool) : List Int := if b = true then (match bestE xs ring with | some l => l.first | none => []) else []
def clV (xs : List Int) (ring : Bool) : Nat := match bestE xs ring with | some l => l.count | none => 0
/-- what the three look at -/
theorem Try.lootV {w : World} {B : Nat} {u : Value} {xs : List Int} {ring b : Bool} (hb : b = true ↔ UpP xs 20 1000) (h : LeV w B u (if b = true then bestE xs ring else none)) :
    ∃ (c : Int) (n : Nat) (s : Value), u = .agg #[.int .i64 c, .int .i64 n, s] ∧ -c = blV xs ring b ∧ OwnI w B s (flV xs ring b) ∧ -1000000 ≤ c ∧ c ≤ 1000000 ∧ (b = true → n = clV xs ring) := by
  cases b with
  | false =>
    rw [if_neg (by decide)] at h
    exact ⟨0, 0, .slice none 0 0, h, rfl, OwnI.nil2 _ _, by decide, by decide, fun e => by cases e⟩
  | true =>
    rw [if_pos rfl] at h
    cases e : bestE xs ring with
    | none => have := bestE_some xs ring; rw [e] at this; cases this
    | some l =>
      rw [e] at h
      obtain ⟨s, rfl, ho⟩ := h
      have hl := bestE_le (hb.1 rfl) e
      exact ⟨l.cost, l.count, s, rfl, by unfold blV; rw [if_pos rfl, e], by unfold flV; rw [if_pos rfl, e]; exact ho, hl.c0, hl.c1, fun _ => by unfold clV; rw [e]⟩
set_option maxHeartbeats 1600000 in
theorem Try.iBestLoot (w : World) (B : Nat) (v : Value) (xs : List Int) (ring b : Bool) (hb : b = true ↔ UpP xs 20 1000) (hl : xs.length ≤ 1048576) (h : OwnI w B v xs) :
    Calls Try.prog 27 #[v, .bool ring] w fun e w' => e = .returned (.tuple #[.int .i64 (blV xs ring b), .bool b]) ∧ Below w.heap.size w w' := by
  have HS := Lib.hid (Try.bestLoots w B v xs ring b hb hl h)
  have HL := Lib.hid (fun (X : World) (C : Nat) (u : Value) (q : LeV X C u (if b = true then bestE xs ring else none)) => Try.lootV hb q)
  obtain ⟨A, c, rfl, _⟩ := h.eta
  clear h hb
  go_enter Try.func27, Try.ntmps27
  go_wp2_with (go_at_call 43; refine HS.out.mono ?_; rintro e w1 ⟨u, rfl, hL, hb1⟩; obtain ⟨c1, n1, s1, rfl, h1, h2, h3, h4, h5⟩ := HL.out _ _ _ hL; obtain ⟨A1, k1, rfl⟩ := h2.form)
  go_ret2
  exact ⟨rfl, Below.alloc hb1 hb1.size _⟩
set_option maxHeartbeats 1600000 in
theorem Try.iFirstLoot (w : World) (B : Nat) (v : Value) (xs : List Int) (ring b : Bool) (hb : b = true ↔ UpP xs 20 1000) (hl : xs.length ≤ 1048576) (h : OwnI w B v xs) :
    Calls Try.prog 29 #[v, .bool ring] w fun e w' => ∃ s, e = .returned (.tuple #[s, .bool b]) ∧ OwnI w' w.heap.size s (flV xs ring b) ∧ Below w.heap.size w w' := by
  have HS := Lib.hid (Try.bestLoots w B v xs ring b hb hl h)
  have HL := Lib.hid (fun (X : World) (C : Nat) (u : Value) (q : LeV X C u (if b = true then bestE xs ring else none)) => Try.lootV hb q)
  obtain ⟨A, c, rfl, _⟩ := h.eta
  clear h hb
  go_enter Try.func29, Try.ntmps29
  go_wp2_with (go_at_call 43; refine HS.out.mono ?_; rintro e w1 ⟨u, rfl, hL, hb1⟩; obtain ⟨c1, n1, s1, rfl, h1, h2, h3, h4, h5⟩ := HL.out _ _ _ hL; obtain ⟨A1, k1, rfl⟩ := h2.form)
  go_ret2
  exact ⟨_, rfl, h2.gr (Gr.alloc (Gr.refl _) _), Below.alloc hb1 hb1.size _⟩
end Go.Proofs
