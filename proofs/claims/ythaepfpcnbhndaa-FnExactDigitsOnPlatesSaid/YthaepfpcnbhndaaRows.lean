/-
  No cell of these rows narrows 'for every input' (looked for: loops, veiled, ifaces, maps, wideKeys, modest, calm, conditions, laid).
  DERIVED. THE GIVEN ROWS OF THIS SEAT. 11 by the template 'for every input the law returns true; each argument reads behind the call as it read before'; 0 by the template 'total and deterministic' (their statements: YthaepfpcnbhndaaTotals.lean).
  GIVEN WITH THE SEED: the statements are not yours to turn. If you find one false, say at which input.
  Laid BY PROGRAM, IN A SANDBOX (cutbox-rows.mjs): the forced cells as the released guide's own fill.sh prints them over the translation bd259c8482f2b1bb… (all of the seat's roots in one cut). By AI agents, Wed Nov 11 2026. No macro, syntax, notation, axiom, sorry.
-/
import Derived.Test.YthaepfpcnbhndaaChecked
import GoSem.Claim
import GoSem.ClaimJoined
import GoSem.ClaimMapViews
import Derived.JoinedTies
import Derived.KernelRfl
namespace Go.Proofs.Ythaepfpcnbhndaa
/- THE CELL 'sum', in the pinned program and in every row, IS THE sha256 OF THE DUMP (.gsa) THAT YthaepfpcnbhndaaProg.lean LOADS. Nothing in Lean hashes anything: it is a label: what it is worth is what the hold of that sum in a sandbox is worth. -/
noncomputable def Try.pinned : Pinned := { name := "ythaepfpcnbhndaa", sum := "bd259c8482f2b1bb5ba900015a7d331f2b3420a0de406bed7895f2a06da020f1", checked := Try.checked }
namespace Rows
def none {H : Type} : Left H := { results := [], args := [] }

/-- 'laws.FnPlatesMade': WHATEVER THE INPUT: true; the input reads as it did. -/
def fnPlatesMadeSpec : ChangeSpec := { name := "fnPlatesMade", fn := fun _ => fun
  | [d1, d2] => { results := [.lit (.bool true)], args := [d1, d2] }
  | _ => none }
def fnPlatesMadeRow : OpenClaim := { program := "ythaepfpcnbhndaa", sum := "bd259c8482f2b1bb5ba900015a7d331f2b3420a0de406bed7895f2a06da020f1", func := "loop.example/g01336/laws.FnPlatesMade", spec := "fnPlatesMade", unfollowed := true, recurses := true, apart := false }
def FnPlatesMadeSaid : Prop := fnPlatesMadeRow.holds Try.pinned (OpenSpec.ofChange fnPlatesMadeSpec)

/-- ITS FALSE NEIGHBOUR: 'it returns false'. Refute it at one input. -/
def fnPlatesMadeWrong : ChangeSpec := { name := "fnPlatesMade", fn := fun _ => fun
  | [d1, d2] => { results := [.lit (.bool false)], args := [d1, d2] }
  | _ => none }
def FnPlatesMadeWrongFalsely : Prop := fnPlatesMadeRow.holds Try.pinned (OpenSpec.ofChange fnPlatesMadeWrong)

/-- 'laws.FnExactIsStreet': WHATEVER THE INPUT: true; the input reads as it did. -/
def fnExactIsStreetSpec : ChangeSpec := { name := "fnExactIsStreet", fn := fun _ => fun
  | [d] => { results := [.lit (.bool true)], args := [d] }
  | _ => none }
def fnExactIsStreetRow : OpenClaim := { program := "ythaepfpcnbhndaa", sum := "bd259c8482f2b1bb5ba900015a7d331f2b3420a0de406bed7895f2a06da020f1", func := "loop.example/g01336/laws.FnExactIsStreet", spec := "fnExactIsStreet", apart := false }
def FnExactIsStreetSaid : Prop := fnExactIsStreetRow.holds Try.pinned (OpenSpec.ofChange fnExactIsStreetSpec)

/-- ITS FALSE NEIGHBOUR: 'it returns false'. Refute it at one input. -/
def fnExactIsStreetWrong : ChangeSpec := { name := "fnExactIsStreet", fn := fun _ => fun
  | [d] => { results := [.lit (.bool false)], args := [d] }
  | _ => none }
def FnExactIsStreetWrongFalsely : Prop := fnExactIsStreetRow.holds Try.pinned (OpenSpec.ofChange fnExactIsStreetWrong)

/-- 'laws.FnExactHousesOf': WHATEVER THE INPUT: true; the input reads as it did. -/
def fnExactHousesOfSpec : ChangeSpec := { name := "fnExactHousesOf", fn := fun _ => fun
  | [d] => { results := [.lit (.bool true)], args := [d] }
  | _ => none }
def fnExactHousesOfRow : OpenClaim := { program := "ythaepfpcnbhndaa", sum := "bd259c8482f2b1bb5ba900015a7d331f2b3420a0de406bed7895f2a06da020f1", func := "loop.example/g01336/laws.FnExactHousesOf", spec := "fnExactHousesOf", apart := false }
def FnExactHousesOfSaid : Prop := fnExactHousesOfRow.holds Try.pinned (OpenSpec.ofChange fnExactHousesOfSpec)

/-- ITS FALSE NEIGHBOUR: 'it returns false'. Refute it at one input. -/
def fnExactHousesOfWrong : ChangeSpec := { name := "fnExactHousesOf", fn := fun _ => fun
  | [d] => { results := [.lit (.bool false)], args := [d] }
  | _ => none }
def FnExactHousesOfWrongFalsely : Prop := fnExactHousesOfRow.holds Try.pinned (OpenSpec.ofChange fnExactHousesOfWrong)

/-- 'laws.FnExactNumberAt': WHATEVER THE INPUT: true; the input reads as it did. -/
def fnExactNumberAtSpec : ChangeSpec := { name := "fnExactNumberAt", fn := fun _ => fun
  | [d1, d2, d3] => { results := [.lit (.bool true)], args := [d1, d2, d3] }
  | _ => none }
def fnExactNumberAtRow : OpenClaim := { program := "ythaepfpcnbhndaa", sum := "bd259c8482f2b1bb5ba900015a7d331f2b3420a0de406bed7895f2a06da020f1", func := "loop.example/g01336/laws.FnExactNumberAt", spec := "fnExactNumberAt", apart := false }
def FnExactNumberAtSaid : Prop := fnExactNumberAtRow.holds Try.pinned (OpenSpec.ofChange fnExactNumberAtSpec)

/-- ITS FALSE NEIGHBOUR: 'it returns false'. Refute it at one input. -/
def fnExactNumberAtWrong : ChangeSpec := { name := "fnExactNumberAt", fn := fun _ => fun
  | [d1, d2, d3] => { results := [.lit (.bool false)], args := [d1, d2, d3] }
  | _ => none }
def FnExactNumberAtWrongFalsely : Prop := fnExactNumberAtRow.holds Try.pinned (OpenSpec.ofChange fnExactNumberAtWrong)

/-- 'laws.FnExactPlotOf': WHATEVER THE INPUT: true; the input reads as it did. -/
def fnExactPlotOfSpec : ChangeSpec := { name := "fnExactPlotOf", fn := fun _ => fun
  | [d1, d2] => { results := [.lit (.bool true)], args := [d1, d2] }
  | _ => none }
def fnExactPlotOfRow : OpenClaim := { program := "ythaepfpcnbhndaa", sum := "bd259c8482f2b1bb5ba900015a7d331f2b3420a0de406bed7895f2a06da020f1", func := "loop.example/g01336/laws.FnExactPlotOf", spec := "fnExactPlotOf", apart := false }
def FnExactPlotOfSaid : Prop := fnExactPlotOfRow.holds Try.pinned (OpenSpec.ofChange fnExactPlotOfSpec)

/-- ITS FALSE NEIGHBOUR: 'it returns false'. Refute it at one input. -/
def fnExactPlotOfWrong : ChangeSpec := { name := "fnExactPlotOf", fn := fun _ => fun
  | [d1, d2] => { results := [.lit (.bool false)], args := [d1, d2] }
  | _ => none }
def FnExactPlotOfWrongFalsely : Prop := fnExactPlotOfRow.holds Try.pinned (OpenSpec.ofChange fnExactPlotOfWrong)

/-- 'laws.FnExactOppositeOf': WHATEVER THE INPUT: true; the input reads as it did. -/
def fnExactOppositeOfSpec : ChangeSpec := { name := "fnExactOppositeOf", fn := fun _ => fun
  | [d1, d2] => { results := [.lit (.bool true)], args := [d1, d2] }
  | _ => none }
def fnExactOppositeOfRow : OpenClaim := { program := "ythaepfpcnbhndaa", sum := "bd259c8482f2b1bb5ba900015a7d331f2b3420a0de406bed7895f2a06da020f1", func := "loop.example/g01336/laws.FnExactOppositeOf", spec := "fnExactOppositeOf", apart := false }
def FnExactOppositeOfSaid : Prop := fnExactOppositeOfRow.holds Try.pinned (OpenSpec.ofChange fnExactOppositeOfSpec)

/-- ITS FALSE NEIGHBOUR: 'it returns false'. Refute it at one input. -/
def fnExactOppositeOfWrong : ChangeSpec := { name := "fnExactOppositeOf", fn := fun _ => fun
  | [d1, d2] => { results := [.lit (.bool false)], args := [d1, d2] }
  | _ => none }
def FnExactOppositeOfWrongFalsely : Prop := fnExactOppositeOfRow.holds Try.pinned (OpenSpec.ofChange fnExactOppositeOfWrong)

/-- 'laws.FnExactNextHouses': WHATEVER THE INPUT: true; the input reads as it did. -/
def fnExactNextHousesSpec : ChangeSpec := { name := "fnExactNextHouses", fn := fun _ => fun
  | [d1, d2] => { results := [.lit (.bool true)], args := [d1, d2] }
  | _ => none }
def fnExactNextHousesRow : OpenClaim := { program := "ythaepfpcnbhndaa", sum := "bd259c8482f2b1bb5ba900015a7d331f2b3420a0de406bed7895f2a06da020f1", func := "loop.example/g01336/laws.FnExactNextHouses", spec := "fnExactNextHouses", recurses := true, apart := false }
def FnExactNextHousesSaid : Prop := fnExactNextHousesRow.holds Try.pinned (OpenSpec.ofChange fnExactNextHousesSpec)

/-- ITS FALSE NEIGHBOUR: 'it returns false'. Refute it at one input. -/
def fnExactNextHousesWrong : ChangeSpec := { name := "fnExactNextHouses", fn := fun _ => fun
  | [d1, d2] => { results := [.lit (.bool false)], args := [d1, d2] }
  | _ => none }
def FnExactNextHousesWrongFalsely : Prop := fnExactNextHousesRow.holds Try.pinned (OpenSpec.ofChange fnExactNextHousesWrong)

/-- 'laws.FnExactWalkBetween': WHATEVER THE INPUT: true; the input reads as it did. -/
def fnExactWalkBetweenSpec : ChangeSpec := { name := "fnExactWalkBetween", fn := fun _ => fun
  | [d1, d2, d3, d4] => { results := [.lit (.bool true)], args := [d1, d2, d3, d4] }
  | _ => none }
def fnExactWalkBetweenRow : OpenClaim := { program := "ythaepfpcnbhndaa", sum := "bd259c8482f2b1bb5ba900015a7d331f2b3420a0de406bed7895f2a06da020f1", func := "loop.example/g01336/laws.FnExactWalkBetween", spec := "fnExactWalkBetween", unfollowed := true, recurses := true, apart := false }
def FnExactWalkBetweenSaid : Prop := fnExactWalkBetweenRow.holds Try.pinned (OpenSpec.ofChange fnExactWalkBetweenSpec)

/-- ITS FALSE NEIGHBOUR: 'it returns false'. Refute it at one input. -/
def fnExactWalkBetweenWrong : ChangeSpec := { name := "fnExactWalkBetween", fn := fun _ => fun
  | [d1, d2, d3, d4] => { results := [.lit (.bool false)], args := [d1, d2, d3, d4] }
  | _ => none }
def FnExactWalkBetweenWrongFalsely : Prop := fnExactWalkBetweenRow.holds Try.pinned (OpenSpec.ofChange fnExactWalkBetweenWrong)

/-- 'laws.FnExactSideNumbers': WHATEVER THE INPUT: true; the input reads as it did. -/
def fnExactSideNumbersSpec : ChangeSpec := { name := "fnExactSideNumbers", fn := fun _ => fun
  | [d1, d2] => { results := [.lit (.bool true)], args := [d1, d2] }
  | _ => none }
def fnExactSideNumbersRow : OpenClaim := { program := "ythaepfpcnbhndaa", sum := "bd259c8482f2b1bb5ba900015a7d331f2b3420a0de406bed7895f2a06da020f1", func := "loop.example/g01336/laws.FnExactSideNumbers", spec := "fnExactSideNumbers", apart := false }
def FnExactSideNumbersSaid : Prop := fnExactSideNumbersRow.holds Try.pinned (OpenSpec.ofChange fnExactSideNumbersSpec)

/-- ITS FALSE NEIGHBOUR: 'it returns false'. Refute it at one input. -/
def fnExactSideNumbersWrong : ChangeSpec := { name := "fnExactSideNumbers", fn := fun _ => fun
  | [d1, d2] => { results := [.lit (.bool false)], args := [d1, d2] }
  | _ => none }
def FnExactSideNumbersWrongFalsely : Prop := fnExactSideNumbersRow.holds Try.pinned (OpenSpec.ofChange fnExactSideNumbersWrong)

/-- 'laws.FnExactSideSum': WHATEVER THE INPUT: true; the input reads as it did. -/
def fnExactSideSumSpec : ChangeSpec := { name := "fnExactSideSum", fn := fun _ => fun
  | [d1, d2] => { results := [.lit (.bool true)], args := [d1, d2] }
  | _ => none }
def fnExactSideSumRow : OpenClaim := { program := "ythaepfpcnbhndaa", sum := "bd259c8482f2b1bb5ba900015a7d331f2b3420a0de406bed7895f2a06da020f1", func := "loop.example/g01336/laws.FnExactSideSum", spec := "fnExactSideSum", apart := false }
def FnExactSideSumSaid : Prop := fnExactSideSumRow.holds Try.pinned (OpenSpec.ofChange fnExactSideSumSpec)

/-- ITS FALSE NEIGHBOUR: 'it returns false'. Refute it at one input. -/
def fnExactSideSumWrong : ChangeSpec := { name := "fnExactSideSum", fn := fun _ => fun
  | [d1, d2] => { results := [.lit (.bool false)], args := [d1, d2] }
  | _ => none }
def FnExactSideSumWrongFalsely : Prop := fnExactSideSumRow.holds Try.pinned (OpenSpec.ofChange fnExactSideSumWrong)

/-- 'laws.FnExactDigitsOnPlates': WHATEVER THE INPUT: true; the input reads as it did. -/
def fnExactDigitsOnPlatesSpec : ChangeSpec := { name := "fnExactDigitsOnPlates", fn := fun _ => fun
  | [d] => { results := [.lit (.bool true)], args := [d] }
  | _ => none }
def fnExactDigitsOnPlatesRow : OpenClaim := { program := "ythaepfpcnbhndaa", sum := "bd259c8482f2b1bb5ba900015a7d331f2b3420a0de406bed7895f2a06da020f1", func := "loop.example/g01336/laws.FnExactDigitsOnPlates", spec := "fnExactDigitsOnPlates", recurses := true, apart := false }
def FnExactDigitsOnPlatesSaid : Prop := fnExactDigitsOnPlatesRow.holds Try.pinned (OpenSpec.ofChange fnExactDigitsOnPlatesSpec)

/-- ITS FALSE NEIGHBOUR: 'it returns false'. Refute it at one input. -/
def fnExactDigitsOnPlatesWrong : ChangeSpec := { name := "fnExactDigitsOnPlates", fn := fun _ => fun
  | [d] => { results := [.lit (.bool false)], args := [d] }
  | _ => none }
def FnExactDigitsOnPlatesWrongFalsely : Prop := fnExactDigitsOnPlatesRow.holds Try.pinned (OpenSpec.ofChange fnExactDigitsOnPlatesWrong)

/- THE SECOND FORM. 'bulk': how many values and letters a reading holds, each counted each time it is reached (what is shared counts as often as it is met; a slice's spare places count too). A statement '..UptoSaid' is the law's where the arguments, and the package variables that the reading takes, are together of bulk at most 1048576: NARROWER than '..Said'. Prove '..Said' where nothing that the law and all that it calls make is longer than what came in: it says more and counts as full. Else prove '..UptoSaid'. A law counts once. -/
mutual
def uptoBulk {H : Type} : DataW H → Nat
  | .lit (.string bytes) => bytes.length + 1
  | .lit _ => 1
  | .nil => 1
  | .ptr d => uptoBulk d + 1
  | .slice elems spare => uptoBulkAll elems + uptoBulkAll spare + 1
  | .agg parts => uptoBulkAll parts + 1
  | .iface _ d => uptoBulk d + 1
  | .map entries => uptoBulkEntries entries + 1
  | .held _ => 1
def uptoBulkAll {H : Type} : List (DataW H) → Nat
  | [] => 0
  | d :: r => uptoBulk d + uptoBulkAll r
def uptoBulkEntries {H : Type} : List (Lit × DataW H) → Nat
  | [] => 0
  | x :: r => uptoBulkEntry x + uptoBulkEntries r
def uptoBulkEntry {H : Type} : Lit × DataW H → Nat
  | (.string bytes, d) => bytes.length + uptoBulk d + 1
  | (_, d) => uptoBulk d + 1
 end
def uptoSmall : (H : Type) → List (DataW H) → Bool := fun _ ds => decide (uptoBulkAll ds ≤ 1048576)
def OpenSpec.upto (s : _root_.Go.ChangeSpec) : _root_.Go.OpenSpec := { _root_.Go.OpenSpec.ofChange s with cond := some uptoSmall }

/-- 'laws.FnPlatesMade', WHERE WHAT IT READS IS OF BULK AT MOST 1048576: true; the input reads as it did. -/
def fnPlatesMadeUptoRow : OpenClaim := { program := "ythaepfpcnbhndaa", sum := "bd259c8482f2b1bb5ba900015a7d331f2b3420a0de406bed7895f2a06da020f1", func := "loop.example/g01336/laws.FnPlatesMade", spec := "fnPlatesMade", unfollowed := true, recurses := true, apart := false, narrowed := true }
def FnPlatesMadeUptoSaid : Prop := fnPlatesMadeUptoRow.holds Try.pinned (OpenSpec.upto fnPlatesMadeSpec)

/-- 'laws.FnExactIsStreet', WHERE WHAT IT READS IS OF BULK AT MOST 1048576: true; the input reads as it did. -/
def fnExactIsStreetUptoRow : OpenClaim := { program := "ythaepfpcnbhndaa", sum := "bd259c8482f2b1bb5ba900015a7d331f2b3420a0de406bed7895f2a06da020f1", func := "loop.example/g01336/laws.FnExactIsStreet", spec := "fnExactIsStreet", apart := false, narrowed := true }
def FnExactIsStreetUptoSaid : Prop := fnExactIsStreetUptoRow.holds Try.pinned (OpenSpec.upto fnExactIsStreetSpec)

/-- 'laws.FnExactHousesOf', WHERE WHAT IT READS IS OF BULK AT MOST 1048576: true; the input reads as it did. -/
def fnExactHousesOfUptoRow : OpenClaim := { program := "ythaepfpcnbhndaa", sum := "bd259c8482f2b1bb5ba900015a7d331f2b3420a0de406bed7895f2a06da020f1", func := "loop.example/g01336/laws.FnExactHousesOf", spec := "fnExactHousesOf", apart := false, narrowed := true }
def FnExactHousesOfUptoSaid : Prop := fnExactHousesOfUptoRow.holds Try.pinned (OpenSpec.upto fnExactHousesOfSpec)

/-- 'laws.FnExactNumberAt', WHERE WHAT IT READS IS OF BULK AT MOST 1048576: true; the input reads as it did. -/
def fnExactNumberAtUptoRow : OpenClaim := { program := "ythaepfpcnbhndaa", sum := "bd259c8482f2b1bb5ba900015a7d331f2b3420a0de406bed7895f2a06da020f1", func := "loop.example/g01336/laws.FnExactNumberAt", spec := "fnExactNumberAt", apart := false, narrowed := true }
def FnExactNumberAtUptoSaid : Prop := fnExactNumberAtUptoRow.holds Try.pinned (OpenSpec.upto fnExactNumberAtSpec)

/-- 'laws.FnExactPlotOf', WHERE WHAT IT READS IS OF BULK AT MOST 1048576: true; the input reads as it did. -/
def fnExactPlotOfUptoRow : OpenClaim := { program := "ythaepfpcnbhndaa", sum := "bd259c8482f2b1bb5ba900015a7d331f2b3420a0de406bed7895f2a06da020f1", func := "loop.example/g01336/laws.FnExactPlotOf", spec := "fnExactPlotOf", apart := false, narrowed := true }
def FnExactPlotOfUptoSaid : Prop := fnExactPlotOfUptoRow.holds Try.pinned (OpenSpec.upto fnExactPlotOfSpec)

/-- 'laws.FnExactOppositeOf', WHERE WHAT IT READS IS OF BULK AT MOST 1048576: true; the input reads as it did. -/
def fnExactOppositeOfUptoRow : OpenClaim := { program := "ythaepfpcnbhndaa", sum := "bd259c8482f2b1bb5ba900015a7d331f2b3420a0de406bed7895f2a06da020f1", func := "loop.example/g01336/laws.FnExactOppositeOf", spec := "fnExactOppositeOf", apart := false, narrowed := true }
def FnExactOppositeOfUptoSaid : Prop := fnExactOppositeOfUptoRow.holds Try.pinned (OpenSpec.upto fnExactOppositeOfSpec)

/-- 'laws.FnExactNextHouses', WHERE WHAT IT READS IS OF BULK AT MOST 1048576: true; the input reads as it did. -/
def fnExactNextHousesUptoRow : OpenClaim := { program := "ythaepfpcnbhndaa", sum := "bd259c8482f2b1bb5ba900015a7d331f2b3420a0de406bed7895f2a06da020f1", func := "loop.example/g01336/laws.FnExactNextHouses", spec := "fnExactNextHouses", recurses := true, apart := false, narrowed := true }
def FnExactNextHousesUptoSaid : Prop := fnExactNextHousesUptoRow.holds Try.pinned (OpenSpec.upto fnExactNextHousesSpec)

/-- 'laws.FnExactWalkBetween', WHERE WHAT IT READS IS OF BULK AT MOST 1048576: true; the input reads as it did. -/
def fnExactWalkBetweenUptoRow : OpenClaim := { program := "ythaepfpcnbhndaa", sum := "bd259c8482f2b1bb5ba900015a7d331f2b3420a0de406bed7895f2a06da020f1", func := "loop.example/g01336/laws.FnExactWalkBetween", spec := "fnExactWalkBetween", unfollowed := true, recurses := true, apart := false, narrowed := true }
def FnExactWalkBetweenUptoSaid : Prop := fnExactWalkBetweenUptoRow.holds Try.pinned (OpenSpec.upto fnExactWalkBetweenSpec)

/-- 'laws.FnExactSideNumbers', WHERE WHAT IT READS IS OF BULK AT MOST 1048576: true; the input reads as it did. -/
def fnExactSideNumbersUptoRow : OpenClaim := { program := "ythaepfpcnbhndaa", sum := "bd259c8482f2b1bb5ba900015a7d331f2b3420a0de406bed7895f2a06da020f1", func := "loop.example/g01336/laws.FnExactSideNumbers", spec := "fnExactSideNumbers", apart := false, narrowed := true }
def FnExactSideNumbersUptoSaid : Prop := fnExactSideNumbersUptoRow.holds Try.pinned (OpenSpec.upto fnExactSideNumbersSpec)

/-- 'laws.FnExactSideSum', WHERE WHAT IT READS IS OF BULK AT MOST 1048576: true; the input reads as it did. -/
def fnExactSideSumUptoRow : OpenClaim := { program := "ythaepfpcnbhndaa", sum := "bd259c8482f2b1bb5ba900015a7d331f2b3420a0de406bed7895f2a06da020f1", func := "loop.example/g01336/laws.FnExactSideSum", spec := "fnExactSideSum", apart := false, narrowed := true }
def FnExactSideSumUptoSaid : Prop := fnExactSideSumUptoRow.holds Try.pinned (OpenSpec.upto fnExactSideSumSpec)

/-- 'laws.FnExactDigitsOnPlates', WHERE WHAT IT READS IS OF BULK AT MOST 1048576: true; the input reads as it did. -/
def fnExactDigitsOnPlatesUptoRow : OpenClaim := { program := "ythaepfpcnbhndaa", sum := "bd259c8482f2b1bb5ba900015a7d331f2b3420a0de406bed7895f2a06da020f1", func := "loop.example/g01336/laws.FnExactDigitsOnPlates", spec := "fnExactDigitsOnPlates", recurses := true, apart := false, narrowed := true }
def FnExactDigitsOnPlatesUptoSaid : Prop := fnExactDigitsOnPlatesUptoRow.holds Try.pinned (OpenSpec.upto fnExactDigitsOnPlatesSpec)

end Rows
end Go.Proofs.Ythaepfpcnbhndaa
