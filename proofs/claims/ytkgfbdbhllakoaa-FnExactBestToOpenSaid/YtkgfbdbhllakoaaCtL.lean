/-
  More cells kept by what lies below: nine, twelve. No program's text here.
-/
import Derived.Test.YtkgfbdbhllakoaaCtK
namespace Go.Proofs
open Go.RowKit
set_option linter.unusedVariables false
theorem keep9 {w w' : World} {a0 a1 a2 a3 a4 a5 a6 a7 a8 : Addr} {x0 x1 x2 x3 x4 x5 x6 x7 x8 : Value} (g : Below w.heap.size w w') (h : w.cell? a0 = some x0 ∧ w.cell? a1 = some x1 ∧ w.cell? a2 = some x2 ∧ w.cell? a3 = some x3 ∧ w.cell? a4 = some x4 ∧ w.cell? a5 = some x5 ∧ w.cell? a6 = some x6 ∧ w.cell? a7 = some x7 ∧ w.cell? a8 = some x8) : w'.cell? a0 = some x0 ∧ w'.cell? a1 = some x1 ∧ w'.cell? a2 = some x2 ∧ w'.cell? a3 = some x3 ∧ w'.cell? a4 = some x4 ∧ w'.cell? a5 = some x5 ∧ w'.cell? a6 = some x6 ∧ w'.cell? a7 = some x7 ∧ w'.cell? a8 = some x8 :=
  ⟨cell_k2 g h.1, cell_k2 g h.2.1, cell_k2 g h.2.2.1, cell_k2 g h.2.2.2.1, cell_k2 g h.2.2.2.2.1, cell_k2 g h.2.2.2.2.2.1, cell_k2 g h.2.2.2.2.2.2.1, cell_k2 g h.2.2.2.2.2.2.2.1, cell_k2 g h.2.2.2.2.2.2.2.2⟩
theorem keep12 {w w' : World} {a0 a1 a2 a3 a4 a5 a6 a7 a8 a9 a10 a11 : Addr} {x0 x1 x2 x3 x4 x5 x6 x7 x8 x9 x10 x11 : Value} (g : Below w.heap.size w w') (h : w.cell? a0 = some x0 ∧ w.cell? a1 = some x1 ∧ w.cell? a2 = some x2 ∧ w.cell? a3 = some x3 ∧ w.cell? a4 = some x4 ∧ w.cell? a5 = some x5 ∧ w.cell? a6 = some x6 ∧ w.cell? a7 = some x7 ∧ w.cell? a8 = some x8 ∧ w.cell? a9 = some x9 ∧ w.cell? a10 = some x10 ∧ w.cell? a11 = some x11) : w'.cell? a0 = some x0 ∧ w'.cell? a1 = some x1 ∧ w'.cell? a2 = some x2 ∧ w'.cell? a3 = some x3 ∧ w'.cell? a4 = some x4 ∧ w'.cell? a5 = some x5 ∧ w'.cell? a6 = some x6 ∧ w'.cell? a7 = some x7 ∧ w'.cell? a8 = some x8 ∧ w'.cell? a9 = some x9 ∧ w'.cell? a10 = some x10 ∧ w'.cell? a11 = some x11 :=
  ⟨cell_k2 g h.1, cell_k2 g h.2.1, cell_k2 g h.2.2.1, cell_k2 g h.2.2.2.1, cell_k2 g h.2.2.2.2.1, cell_k2 g h.2.2.2.2.2.1, cell_k2 g h.2.2.2.2.2.2.1, cell_k2 g h.2.2.2.2.2.2.2.1, cell_k2 g h.2.2.2.2.2.2.2.2.1, cell_k2 g h.2.2.2.2.2.2.2.2.2.1, cell_k2 g h.2.2.2.2.2.2.2.2.2.2.1, cell_k2 g h.2.2.2.2.2.2.2.2.2.2.2⟩
end Go.Proofs
