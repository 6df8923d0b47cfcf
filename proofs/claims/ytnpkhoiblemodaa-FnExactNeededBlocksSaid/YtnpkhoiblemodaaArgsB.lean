/-
  Arguments that are cities: what the library reads of such an argument.
-/
import Derived.Test.YtnpkhoiblemodaaBrA
import Derived.Deep.Slices
import Derived.Deep.Strs
import Derived.Lib.SmallJoins
import Derived.Deep.SlicePairs
namespace Go.Proofs
open Go.RowKit Av
set_option linter.unusedVariables false
set_option linter.unusedSimpArgs false
section
open Go.ChangeShapes Go.WideShapes
variable {H : Type} {enc : TypeId × Value → H} {P : Program} {w : World} {base : Nat} {spare : Nat → Bool} {held : Bool}
theorem ArgE.of_trod {α : Type} {ec : α → List Value} {k : Nat} {t e : TypeId} {fuel : Nat} {A : Option Addr} {len cap : Nat} {x : DataW H × List MemPlace} (d : α) (h0 : 0 < k) (hk : ∀ x, (ec x).length = k) (ht : P.underlying t = some (.slice e)) (ce : P.cellsOf e = k)
    (hd : ∀ n cs x, DataW.trod enc P w base spare held n e cs = some x → ∃ a, cs = ec a) (h : DataW.trod enc P w base spare held fuel t [.slice A len cap] = some x) : ∃ zs, ArgE k ec w A len cap zs := by
  rcases Go.Deep.open_slice ht h with ⟨hcs, _⟩ | ⟨a, l, c, m, n, D, Pl, hcs, hb, hl, hm, hmm, hx, hi⟩
  · simp at hcs
    obtain ⟨rfl, rfl, rfl⟩ := hcs
    exact ⟨[], rfl, Nat.le_refl _, Nat.zero_le _, .inl rfl⟩
  · simp at hcs
    obtain ⟨rfl, rfl, rfl⟩ := hcs
    have hlm : len ≤ m := by rw [hmm]; split <;> omega
    have each : ∀ i, i < len → ∃ y : α, ∀ j, j < k → w.cell? ((a.add (i * k)).add j) = (ec y)[j]? := by
      intro i hil
      obtain ⟨cs', h1, h2⟩ := hi i (by omega)
      rw [ce] at h1
      obtain ⟨_, hlen, hcell⟩ := World.cells?_some h1
      obtain ⟨y, rfl⟩ := hd _ _ _ h2
      exact ⟨y, fun j hj => by have := hcell j (by omega); exact this⟩
    haveI : Inhabited α := ⟨d⟩
    obtain ⟨f, hf⟩ := Go.Deep.choose_lt each
    refine ⟨(List.range len).map f, by simp, hl, hm, .inr ⟨a, rfl, fun j u hu => ?_⟩⟩
    have hjl : j < len * k := by
      have := (List.getElem?_eq_some_iff.1 hu).1
      rw [ecs_len hk] at this
      simpa using this
    have d1 : j / k < len := (Nat.div_lt_iff_lt_mul h0).2 hjl
    have d2 : j % k < k := Nat.mod_lt _ h0
    have e1 : j / k * k + j % k = j := by rw [Nat.mul_comm]; exact Nat.div_add_mod j k
    have g := ecs_get hk (f 0) ((List.range len).map f) (j / k) (j % k) (by simpa using d1) d2
    rw [e1, hu] at g
    have hc := hf (j / k) d1 (j % k) d2
    rw [Go.Deep.add_add, e1] at hc
    rw [hc, g]
    simp [List.getD, d1]
/-- a block is read -/
theorem block_of_trod {e : TypeId} {f0 f1 f2 : Field} (he : P.underlying e = some (.struct #[f0, f1, f2])) (ce : P.cellsOf e = 3) (o0 : f0.offset = 0) (o1 : f1.offset = 1) (o2 : f2.offset = 2)
    (c0 : P.cellsOf f0.type = 1) (c1 : P.cellsOf f1.type = 1) (c2 : P.cellsOf f2.type = 1) (t0 : P.underlying f0.type = some (.int .i64)) (t1 : P.underlying f1.type = some (.int .i64)) (t2 : P.underlying f2.type = some .bool)
    (n : Nat) (cs : List Value) (x : DataW H × List MemPlace) (h : DataW.trod enc P w base spare held n e cs = some x) : ∃ b : Blk, cs = bcs b := by
  obtain ⟨y0, y1, y2, m, _, hl, g0, g1, g2⟩ := Go.Deep.trod_struct3 he h
  rw [ce] at hl
  match cs, hl with
  | [v0, v1, v2], _ =>
    rw [o0, c0] at g0
    rw [o1, c1] at g1
    rw [o2, c2] at g2
    obtain ⟨a, e0, _⟩ := DataW.trod_int t0 g0
    obtain ⟨b, e1, _⟩ := DataW.trod_int t1 g1
    obtain ⟨c, e2, _⟩ := DataW.trod_bool t2 g2
    simp at e0 e1 e2
    exact ⟨(a, b, c), by simp [bcs, e0, e1, e2]⟩
end
end Go.Proofs
