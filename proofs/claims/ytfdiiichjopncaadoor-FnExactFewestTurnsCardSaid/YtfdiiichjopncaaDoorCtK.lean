/-
  Cells that stay behind a call: so many at once. No program's text here.
-/
import Derived.Test.YtfdiiichjopncaaDoorPrs
import Derived.Deep.DeepCutAuto
import Derived.Deep.RegionHeld3
namespace Go.Proofs
open Go.RowKit
theorem keep3 {w w' : World} {a b c : Addr} {x y z : Value} (g : Below w.heap.size w w') (h : w.cell? a = some x ∧ w.cell? b = some y ∧ w.cell? c = some z) : w'.cell? a = some x ∧ w'.cell? b = some y ∧ w'.cell? c = some z :=
  ⟨cell_k2 g h.1, cell_k2 g h.2.1, cell_k2 g h.2.2⟩
theorem keep6 {w w' : World} {a b c d e f : Addr} {x y z p q r : Value} (g : Below w.heap.size w w') (h : w.cell? a = some x ∧ w.cell? b = some y ∧ w.cell? c = some z ∧ w.cell? d = some p ∧ w.cell? e = some q ∧ w.cell? f = some r) :
    w'.cell? a = some x ∧ w'.cell? b = some y ∧ w'.cell? c = some z ∧ w'.cell? d = some p ∧ w'.cell? e = some q ∧ w'.cell? f = some r :=
  ⟨cell_k2 g h.1, cell_k2 g h.2.1, cell_k2 g h.2.2.1, cell_k2 g h.2.2.2.1, cell_k2 g h.2.2.2.2.1, cell_k2 g h.2.2.2.2.2⟩
end Go.Proofs
