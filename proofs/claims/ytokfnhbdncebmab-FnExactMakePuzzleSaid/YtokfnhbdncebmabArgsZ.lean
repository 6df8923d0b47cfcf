/-
  Arguments that are puzzles: what the library reads of such an argument.
-/
import Derived.Test.YtokfnhbdncebmabPzA
import Derived.Deep.Slices
import Derived.Deep.Strs
import Derived.Lib.SmallJoins
import Derived.Deep.SlicePairs
namespace Go.Proofs
open Go.RowKit
set_option linter.unusedVariables false
set_option linter.unusedSimpArgs false
section
open Go.ChangeShapes Go.WideShapes
variable {H : Type} {enc : TypeId × Value → H} {P : Program} {w : World} {base : Nat} {spare : Nat → Bool} {held : Bool}
theorem ArgE.of_trod {α : Type} {ec : α → List Value} {k : Nat} {t e : TypeId} {fuel : Nat} {A : Option Addr} {len cap : Nat} {x : DataW H × List MemPlace} (d : α) (h0 : 0 < k) (hk : ∀ x, (ec x).length = k) (ht : P.underlying t = some (.slice e)) (ce : P.cellsOf e = k)
    (hd : ∀ n cs x, DataW.trod enc P w base spare held n e cs = some x → ∃ a, cs = ec a) (h : DataW.trod enc P w base spare held fuel t [.slice A len cap] = some x) : ∃ zs, ArgE k ec w A len cap zs := by
  rcases Go.Deep.open_slice ht h with ⟨hcs, _⟩ | ⟨a, l, c, m, n, D, Pl, hcs, hb, hl, hm, hmm, hx, hi⟩
  · simp at hcs
    obtain ⟨rfl, rfl, rfl⟩ := hcs
    exact ⟨[], rfl, Nat.le_refl _, Nat.zero_le _, .inl rfl⟩
  · simp at hcs
    obtain ⟨rfl, rfl, rfl⟩ := hcs
    have hlm : len ≤ m := by rw [hmm]; split <;> omega
    have each : ∀ i, i < len → ∃ y : α, ∀ j, j < k → w.cell? ((a.add (i * k)).add j) = (ec y)[j]? := by
      intro i hil
      obtain ⟨cs', h1, h2⟩ := hi i (by omega)
      rw [ce] at h1
      obtain ⟨_, hlen, hcell⟩ := World.cells?_some h1
      obtain ⟨y, rfl⟩ := hd _ _ _ h2
      exact ⟨y, fun j hj => by have := hcell j (by omega); exact this⟩
    haveI : Inhabited α := ⟨d⟩
    obtain ⟨f, hf⟩ := Go.Deep.choose_lt each
    refine ⟨(List.range len).map f, by simp, hl, hm, .inr ⟨a, rfl, fun j u hu => ?_⟩⟩
    have hjl : j < len * k := by
      have := (List.getElem?_eq_some_iff.1 hu).1
      rw [ecs_len hk] at this
      simpa using this
    have d1 : j / k < len := (Nat.div_lt_iff_lt_mul h0).2 hjl
    have d2 : j % k < k := Nat.mod_lt _ h0
    have e1 : j / k * k + j % k = j := by rw [Nat.mul_comm]; exact Nat.div_add_mod j k
    have g := ecs_get hk (f 0) ((List.range len).map f) (j / k) (j % k) (by simpa using d1) d2
    rw [e1, hu] at g
    have hc := hf (j / k) d1 (j % k) d2
    rw [Go.Deep.add_add, e1] at hc
    rw [hc, g]
    simp [List.getD, d1]
/-- a clue is read -/
theorem clue_of_trod {e : TypeId} {f0 f1 f2 : Field} (he : P.underlying e = some (.struct #[f0, f1, f2])) (ce : P.cellsOf e = 3) (o0 : f0.offset = 0) (o1 : f1.offset = 1) (o2 : f2.offset = 2)
    (c0 : P.cellsOf f0.type = 1) (c1 : P.cellsOf f1.type = 1) (c2 : P.cellsOf f2.type = 1) (t0 : P.underlying f0.type = some (.int .i64)) (t1 : P.underlying f1.type = some (.int .i64)) (t2 : P.underlying f2.type = some (.int .i64))
    (n : Nat) (cs : List Value) (x : DataW H × List MemPlace) (h : DataW.trod enc P w base spare held n e cs = some x) : ∃ b : Clu, cs = ccs b := by
  obtain ⟨y0, y1, y2, m, _, hl, g0, g1, g2⟩ := Go.Deep.trod_struct3 he h
  rw [ce] at hl
  match cs, hl with
  | [v0, v1, v2], _ =>
    rw [o0, c0] at g0
    rw [o1, c1] at g1
    rw [o2, c2] at g2
    obtain ⟨a, e0, _⟩ := DataW.trod_int t0 g0
    obtain ⟨b, e1, _⟩ := DataW.trod_int t1 g1
    obtain ⟨c, e2, _⟩ := DataW.trod_int t2 g2
    simp at e0 e1 e2
    exact ⟨(a, b, c), by simp [ccs, e0, e1, e2]⟩
theorem puzzle_of_trod {t : TypeId} {f0 f1 g0 g1 : Field} {r : Reach} {b0 : Nat} {v : Value} {d : DataW H} {p : List MemPlace} {e : TypeId}
    (ht : P.underlying t = some (.struct #[f0, f1])) (ct : P.cellsOf t = 3) (o0 : f0.offset = 0) (o1 : f1.offset = 2) (c0 : P.cellsOf f0.type = 2) (c1 : P.cellsOf f1.type = 1)
    (hs : P.underlying f0.type = some (.struct #[g0, g1])) (q0 : g0.offset = 0) (q1 : g1.offset = 1) (d0 : P.cellsOf g0.type = 1) (d1 : P.cellsOf g1.type = 1) (t0 : P.underlying g0.type = some (.int .i64)) (t1 : P.underlying g1.type = some (.int .i64))
    (hsl : P.underlying f1.type = some (.slice e)) (ce : P.cellsOf e = 3) (hd : ∀ n cs x, DataW.trod enc P w base spare held n e cs = some x → ∃ a, cs = ccs a)
    (hv : Value.okWide P w r b0 t v) (h : DataW.Trod enc P w base spare held t v d p) :
    ∃ (a b : Int) (A : Option Addr) (len cap : Nat) (zs : List Clu), v = .agg #[.int .i64 a, .int .i64 b, .slice A len cap] ∧ ArgC w A len cap zs := by
  obtain ⟨cs, rfl, hsz⟩ := okWide_struct ht hv
  obtain ⟨c0', c1', c2', rfl⟩ := Go.Joins.array3 (hsz.trans ct)
  obtain ⟨fuel, hf⟩ := h
  obtain ⟨y0, y1, n, _, _, k0, k1⟩ := trod_struct2 ht hf
  rw [o0, c0] at k0
  rw [o1, c1] at k1
  simp [Value.cells] at k0 k1
  obtain ⟨x0, x1, m, _, _, l0, l1⟩ := trod_struct2 hs k0
  rw [q0, d0] at l0
  rw [q1, d1] at l1
  obtain ⟨a, e0, _⟩ := DataW.trod_int t0 l0
  obtain ⟨b, e1, _⟩ := DataW.trod_int t1 l1
  simp at e0 e1
  obtain ⟨A, len, cap, e2⟩ := Go.Joins.slice_form hsl k1
  simp at e2
  subst e0 e1 e2
  obtain ⟨zs, hz⟩ := ArgE.of_trod cl0 (by decide) ccs_len hsl ce hd k1
  exact ⟨a, b, A, len, cap, zs, rfl, hz⟩
end
end Go.Proofs
