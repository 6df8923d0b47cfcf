/-
  Contracts of chapter 4: what there is to tell of the shortest ways between two corners (the program).
-/
import Derived.Test.YtnpkhoiblemodaaAvJ
namespace Go.Proofs
open Go.RowKit Av Gm Go.Maps
set_option linter.unusedVariables false
set_option linter.unusedSimpArgs false
theorem seven_k {w w' : World} {a b c d e f h : Addr} {x0 x1 x2 x3 x4 x5 x6 : Value} (g : Below w.heap.size w w') (hh : w.cell? a = some x0 ∧ w.cell? b = some x1 ∧ w.cell? c = some x2 ∧ w.cell? d = some x3 ∧ w.cell? e = some x4 ∧ w.cell? f = some x5 ∧ w.cell? h = some x6) :
    w'.cell? a = some x0 ∧ w'.cell? b = some x1 ∧ w'.cell? c = some x2 ∧ w'.cell? d = some x3 ∧ w'.cell? e = some x4 ∧ w'.cell? f = some x5 ∧ w'.cell? h = some x6 :=
  ⟨cell_k2 g hh.1, cell_k2 g hh.2.1, cell_k2 g hh.2.2.1, cell_k2 g hh.2.2.2.1, cell_k2 g hh.2.2.2.2.1, cell_k2 g hh.2.2.2.2.2.1, cell_k2 g hh.2.2.2.2.2.2⟩
/-- how many shortest ways lead from one vertex to another one -/
def wys (Wn Hn : Nat) (ps : List Blk) (s0 t0 : Nat) : Int := g (fin (nbC Wn Hn ps) (Wn * Hn) s0) t0
def cwI (W H : Int) (ps : List Blk) (xs ys : List Int) : Int := wys W.toNat H.toNat ps (xs.getD 0 0 * H + xs.getD 1 0).toNat (ys.getD 0 0 * H + ys.getD 1 0).toNat
def cwV (W H : Int) (ps : List Blk) (xs ys : List Int) : Int := if cdB W H ps xs ys then cwI W H ps xs ys else 0
end Go.Proofs
