/-
  Chapter 7: LeastPaint, FirstPaint, CountPaint (the program).
-/
import Derived.Test.YtjhpebihflcanaaRsU
import Derived.Test.YtjhpebihflcanaaRlX
namespace Go.Proofs
open Go.RowKit Go.Maps Rl
set_option linter.unusedVariables false
set_option linter.unusedSimpArgs false
theorem paintE_le {zss : List (List Int)} {ring : Bool} (hU : CostsP zss) {l : Le} (e : paintE zss ring = some l) : LeB l := by
  unfold paintE leastE at e
  exact LE_le (fits := paF) (r := paO zss) (by rw [paO_len]; exact hU.1.2) (fun q hq => (paO_ok hU q hq).len) (fun q hq => (paO_ok hU q hq).ob) _ _ l e
def lpV (zss : List (List Int)) (ring b : Bool) : Int := if b = true then (match paintE zss ring with | some l => l.cost | none => 0) else 0
def fpV (zss : List (List Int)) (ring b : Bool) : List Int := if b = true then (match paintE zss ring with | some l => l.first | none => []) else []
def cpV (zss : List (List Int)) (ring b : Bool) : Nat := if b = true then (match paintE zss ring with | some l => l.count | none => 0) else 0
theorem Try.paintV {w : World} {B : Nat} {u : Value} {zss : List (List Int)} {ring b : Bool} (h : LeV w B u (if b = true then paintE zss ring else none)) :
    ∃ s, u = .agg #[.int .i64 (lpV zss ring b), .int .i64 (cpV zss ring b : Nat), s] ∧ OwnI w B s (fpV zss ring b) := by
  cases b with
  | false =>
    rw [if_neg (by decide)] at h
    exact ⟨.slice none 0 0, h, OwnI.nil2 _ _⟩
  | true =>
    rw [if_pos rfl] at h
    unfold lpV fpV cpV
    simp only [if_true]
    cases e : paintE zss ring with
    | none => rw [e] at h; exact ⟨.slice none 0 0, h, OwnI.nil2 _ _⟩
    | some l =>
      rw [e] at h
      obtain ⟨s, rfl, ho⟩ := h
      exact ⟨s, rfl, ho⟩
section
variable (w : World) (B : Nat) (v : Value) (zss : List (List Int)) (ring b : Bool) (hb : b = true ↔ CostsP zss) (hl : SmallZ zss) (h : OwnZ w B v zss)
include hb hl h
set_option maxHeartbeats 1600000 in
theorem Try.iLeastPaint :
    Calls Try.prog 13 #[v, .bool ring] w fun e w' => e = .returned (.tuple #[.int .i64 (lpV zss ring b), .bool (b && (paintE zss ring).isSome)]) ∧ Below w.heap.size w w' := by
  have HS := Lib.hid (Try.leastPaints w B v zss ring b hb hl h)
  have HL := Lib.hid (fun (X : World) (C : Nat) (u : Value) (q : LeV X C u (if b = true then paintE zss ring else none)) => Try.paintV q)
  obtain ⟨A, c, rfl, _⟩ := OwnLL.slice h
  clear h hb hl
  generalize (b && (paintE zss ring).isSome) = ok at *
  generalize lpV zss ring b = x at *
  generalize cpV zss ring b = y at *
  generalize fpV zss ring b = z at *
  go_enter Try.func13, Try.ntmps13
  go_wp2_with (go_at_call 35; refine HS.out.mono ?_; rintro e w1 ⟨u, rfl, hL, hb1⟩; obtain ⟨s1, rfl, h2⟩ := HL.out _ _ _ hL; obtain ⟨A1, k1, rfl⟩ := h2.form)
  go_ret2
  exact ⟨rfl, Below.alloc hb1 hb1.size _⟩
set_option maxHeartbeats 1600000 in
theorem Try.iCountPaint :
    Calls Try.prog 22 #[v, .bool ring] w fun e w' => e = .returned (.tuple #[.int .i64 (cpV zss ring b : Nat), .bool (b && (paintE zss ring).isSome)]) ∧ Below w.heap.size w w' := by
  have HS := Lib.hid (Try.leastPaints w B v zss ring b hb hl h)
  have HL := Lib.hid (fun (X : World) (C : Nat) (u : Value) (q : LeV X C u (if b = true then paintE zss ring else none)) => Try.paintV q)
  obtain ⟨A, c, rfl, _⟩ := OwnLL.slice h
  clear h hb hl
  generalize (b && (paintE zss ring).isSome) = ok at *
  generalize lpV zss ring b = x at *
  generalize cpV zss ring b = y at *
  generalize fpV zss ring b = z at *
  go_enter Try.func22, Try.ntmps22
  go_wp2_with (go_at_call 35; refine HS.out.mono ?_; rintro e w1 ⟨u, rfl, hL, hb1⟩; obtain ⟨s1, rfl, h2⟩ := HL.out _ _ _ hL; obtain ⟨A1, k1, rfl⟩ := h2.form)
  go_ret2
  exact ⟨rfl, Below.alloc hb1 hb1.size _⟩
set_option maxHeartbeats 1600000 in
theorem Try.iFirstPaint :
    Calls Try.prog 16 #[v, .bool ring] w fun e w' => ∃ s, e = .returned (.tuple #[s, .bool (b && (paintE zss ring).isSome)]) ∧ OwnI w' w.heap.size s (fpV zss ring b) ∧ Below w.heap.size w w' := by
  have HS := Lib.hid (Try.leastPaints w B v zss ring b hb hl h)
  have HL := Lib.hid (fun (X : World) (C : Nat) (u : Value) (q : LeV X C u (if b = true then paintE zss ring else none)) => Try.paintV q)
  obtain ⟨A, c, rfl, _⟩ := OwnLL.slice h
  clear h hb hl
  generalize (b && (paintE zss ring).isSome) = ok at *
  generalize lpV zss ring b = x at *
  generalize cpV zss ring b = y at *
  generalize fpV zss ring b = z at *
  go_enter Try.func16, Try.ntmps16
  go_wp2_with (go_at_call 35; refine HS.out.mono ?_; rintro e w1 ⟨u, rfl, hL, hb1⟩; obtain ⟨s1, rfl, h2⟩ := HL.out _ _ _ hL; obtain ⟨A1, k1, rfl⟩ := h2.form)
  go_ret2
  exact ⟨_, rfl, h2.gr (Gr.alloc (Gr.refl _) _), Below.alloc hb1 hb1.size _⟩
end
end Go.Proofs
