/-
  No cell of these rows narrows 'for every input' (looked for: loops, veiled, ifaces, maps, wideKeys, modest, calm, conditions, laid).
  DERIVED. THE GIVEN ROWS OF THIS SEAT. 14 by the template 'for every input the law returns true; each argument reads behind the call as it read before'; 0 by the template 'total and deterministic' (their statements: YtkiblppanlbpaaaTotals.lean).
  GIVEN WITH THE SEED: the statements are not yours to turn. If you find one false, say at which input.
  Laid BY PROGRAM, IN A SANDBOX (cutbox-rows.mjs): the forced cells as the released guide's own fill.sh prints them over the translation 28272889cb62352a… (all of the seat's roots in one cut). By AI agents, Wed Nov 11 2026. No macro, syntax, notation, axiom, sorry.
-/
import Derived.Test.YtkiblppanlbpaaaChecked
import GoSem.Claim
import GoSem.ClaimJoined
import GoSem.ClaimMapViews
import Derived.JoinedTies
import Derived.KernelRfl
namespace Go.Proofs.Ytkiblppanlbpaaa
/- THE CELL 'sum', in the pinned program and in every row, IS THE sha256 OF THE DUMP (.gsa) THAT YtkiblppanlbpaaaProg.lean LOADS. Nothing in Lean hashes anything: it is a label: what it is worth is what the hold of that sum in a sandbox is worth. -/
noncomputable def Try.pinned : Pinned := { name := "ytkiblppanlbpaaa", sum := "28272889cb62352a4f833010ff3c426903753668a0228773af22244af85c26dc", checked := Try.checked }
namespace Rows
def none {H : Type} : Left H := { results := [], args := [] }

/-- 'laws.FnExactArePeople': WHATEVER THE INPUT: true; the input reads as it did. -/
def fnExactArePeopleSpec : ChangeSpec := { name := "fnExactArePeople", fn := fun _ => fun
  | [d] => { results := [.lit (.bool true)], args := [d] }
  | _ => none }
def fnExactArePeopleRow : OpenClaim := { program := "ytkiblppanlbpaaa", sum := "28272889cb62352a4f833010ff3c426903753668a0228773af22244af85c26dc", func := "loop.example/g01336/laws.FnExactArePeople", spec := "fnExactArePeople", apart := false }
def FnExactArePeopleSaid : Prop := fnExactArePeopleRow.holds Try.pinned (OpenSpec.ofChange fnExactArePeopleSpec)

/-- ITS FALSE NEIGHBOUR: 'it returns false'. Refute it at one input. -/
def fnExactArePeopleWrong : ChangeSpec := { name := "fnExactArePeople", fn := fun _ => fun
  | [d] => { results := [.lit (.bool false)], args := [d] }
  | _ => none }
def FnExactArePeopleWrongFalsely : Prop := fnExactArePeopleRow.holds Try.pinned (OpenSpec.ofChange fnExactArePeopleWrong)

/-- 'laws.FnExactWalksTo': WHATEVER THE INPUT: true; the input reads as it did. -/
def fnExactWalksToSpec : ChangeSpec := { name := "fnExactWalksTo", fn := fun _ => fun
  | [d1, d2] => { results := [.lit (.bool true)], args := [d1, d2] }
  | _ => none }
def fnExactWalksToRow : OpenClaim := { program := "ytkiblppanlbpaaa", sum := "28272889cb62352a4f833010ff3c426903753668a0228773af22244af85c26dc", func := "loop.example/g01336/laws.FnExactWalksTo", spec := "fnExactWalksTo", unfollowed := true, recurses := true, apart := false }
def FnExactWalksToSaid : Prop := fnExactWalksToRow.holds Try.pinned (OpenSpec.ofChange fnExactWalksToSpec)

/-- ITS FALSE NEIGHBOUR: 'it returns false'. Refute it at one input. -/
def fnExactWalksToWrong : ChangeSpec := { name := "fnExactWalksTo", fn := fun _ => fun
  | [d1, d2] => { results := [.lit (.bool false)], args := [d1, d2] }
  | _ => none }
def FnExactWalksToWrongFalsely : Prop := fnExactWalksToRow.holds Try.pinned (OpenSpec.ofChange fnExactWalksToWrong)

/-- 'laws.FnExactBestHouses': WHATEVER THE INPUT: true; the input reads as it did. -/
def fnExactBestHousesSpec : ChangeSpec := { name := "fnExactBestHouses", fn := fun _ => fun
  | [d] => { results := [.lit (.bool true)], args := [d] }
  | _ => none }
def fnExactBestHousesRow : OpenClaim := { program := "ytkiblppanlbpaaa", sum := "28272889cb62352a4f833010ff3c426903753668a0228773af22244af85c26dc", func := "loop.example/g01336/laws.FnExactBestHouses", spec := "fnExactBestHouses", unfollowed := true, recurses := true, apart := false }
def FnExactBestHousesSaid : Prop := fnExactBestHousesRow.holds Try.pinned (OpenSpec.ofChange fnExactBestHousesSpec)

/-- ITS FALSE NEIGHBOUR: 'it returns false'. Refute it at one input. -/
def fnExactBestHousesWrong : ChangeSpec := { name := "fnExactBestHouses", fn := fun _ => fun
  | [d] => { results := [.lit (.bool false)], args := [d] }
  | _ => none }
def FnExactBestHousesWrongFalsely : Prop := fnExactBestHousesRow.holds Try.pinned (OpenSpec.ofChange fnExactBestHousesWrong)

/-- 'laws.FnExactFarthestTo': WHATEVER THE INPUT: true; the input reads as it did. -/
def fnExactFarthestToSpec : ChangeSpec := { name := "fnExactFarthestTo", fn := fun _ => fun
  | [d1, d2] => { results := [.lit (.bool true)], args := [d1, d2] }
  | _ => none }
def fnExactFarthestToRow : OpenClaim := { program := "ytkiblppanlbpaaa", sum := "28272889cb62352a4f833010ff3c426903753668a0228773af22244af85c26dc", func := "loop.example/g01336/laws.FnExactFarthestTo", spec := "fnExactFarthestTo", unfollowed := true, recurses := true, apart := false }
def FnExactFarthestToSaid : Prop := fnExactFarthestToRow.holds Try.pinned (OpenSpec.ofChange fnExactFarthestToSpec)

/-- ITS FALSE NEIGHBOUR: 'it returns false'. Refute it at one input. -/
def fnExactFarthestToWrong : ChangeSpec := { name := "fnExactFarthestTo", fn := fun _ => fun
  | [d1, d2] => { results := [.lit (.bool false)], args := [d1, d2] }
  | _ => none }
def FnExactFarthestToWrongFalsely : Prop := fnExactFarthestToRow.holds Try.pinned (OpenSpec.ofChange fnExactFarthestToWrong)

/-- 'laws.FnExactCenterHouses': WHATEVER THE INPUT: true; the input reads as it did. -/
def fnExactCenterHousesSpec : ChangeSpec := { name := "fnExactCenterHouses", fn := fun _ => fun
  | [d] => { results := [.lit (.bool true)], args := [d] }
  | _ => none }
def fnExactCenterHousesRow : OpenClaim := { program := "ytkiblppanlbpaaa", sum := "28272889cb62352a4f833010ff3c426903753668a0228773af22244af85c26dc", func := "loop.example/g01336/laws.FnExactCenterHouses", spec := "fnExactCenterHouses", unfollowed := true, recurses := true, apart := false }
def FnExactCenterHousesSaid : Prop := fnExactCenterHousesRow.holds Try.pinned (OpenSpec.ofChange fnExactCenterHousesSpec)

/-- ITS FALSE NEIGHBOUR: 'it returns false'. Refute it at one input. -/
def fnExactCenterHousesWrong : ChangeSpec := { name := "fnExactCenterHouses", fn := fun _ => fun
  | [d] => { results := [.lit (.bool false)], args := [d] }
  | _ => none }
def FnExactCenterHousesWrongFalsely : Prop := fnExactCenterHousesRow.holds Try.pinned (OpenSpec.ofChange fnExactCenterHousesWrong)

/-- 'laws.FnExactBoxesSum': WHATEVER THE INPUT: true; the input reads as it did. -/
def fnExactBoxesSumSpec : ChangeSpec := { name := "fnExactBoxesSum", fn := fun _ => fun
  | [d1, d2] => { results := [.lit (.bool true)], args := [d1, d2] }
  | _ => none }
def fnExactBoxesSumRow : OpenClaim := { program := "ytkiblppanlbpaaa", sum := "28272889cb62352a4f833010ff3c426903753668a0228773af22244af85c26dc", func := "loop.example/g01336/laws.FnExactBoxesSum", spec := "fnExactBoxesSum", unfollowed := true, recurses := true, apart := false }
def FnExactBoxesSumSaid : Prop := fnExactBoxesSumRow.holds Try.pinned (OpenSpec.ofChange fnExactBoxesSumSpec)

/-- ITS FALSE NEIGHBOUR: 'it returns false'. Refute it at one input. -/
def fnExactBoxesSumWrong : ChangeSpec := { name := "fnExactBoxesSum", fn := fun _ => fun
  | [d1, d2] => { results := [.lit (.bool false)], args := [d1, d2] }
  | _ => none }
def FnExactBoxesSumWrongFalsely : Prop := fnExactBoxesSumRow.holds Try.pinned (OpenSpec.ofChange fnExactBoxesSumWrong)

/-- 'laws.FnExactBoxOfEach': WHATEVER THE INPUT: true; the input reads as it did. -/
def fnExactBoxOfEachSpec : ChangeSpec := { name := "fnExactBoxOfEach", fn := fun _ => fun
  | [d1, d2] => { results := [.lit (.bool true)], args := [d1, d2] }
  | _ => none }
def fnExactBoxOfEachRow : OpenClaim := { program := "ytkiblppanlbpaaa", sum := "28272889cb62352a4f833010ff3c426903753668a0228773af22244af85c26dc", func := "loop.example/g01336/laws.FnExactBoxOfEach", spec := "fnExactBoxOfEach", unfollowed := true, recurses := true, apart := false }
def FnExactBoxOfEachSaid : Prop := fnExactBoxOfEachRow.holds Try.pinned (OpenSpec.ofChange fnExactBoxOfEachSpec)

/-- ITS FALSE NEIGHBOUR: 'it returns false'. Refute it at one input. -/
def fnExactBoxOfEachWrong : ChangeSpec := { name := "fnExactBoxOfEach", fn := fun _ => fun
  | [d1, d2] => { results := [.lit (.bool false)], args := [d1, d2] }
  | _ => none }
def FnExactBoxOfEachWrongFalsely : Prop := fnExactBoxOfEachRow.holds Try.pinned (OpenSpec.ofChange fnExactBoxOfEachWrong)

/-- 'laws.FnExactFarthestBoxes': WHATEVER THE INPUT: true; the input reads as it did. -/
def fnExactFarthestBoxesSpec : ChangeSpec := { name := "fnExactFarthestBoxes", fn := fun _ => fun
  | [d1, d2] => { results := [.lit (.bool true)], args := [d1, d2] }
  | _ => none }
def fnExactFarthestBoxesRow : OpenClaim := { program := "ytkiblppanlbpaaa", sum := "28272889cb62352a4f833010ff3c426903753668a0228773af22244af85c26dc", func := "loop.example/g01336/laws.FnExactFarthestBoxes", spec := "fnExactFarthestBoxes", unfollowed := true, recurses := true, apart := false }
def FnExactFarthestBoxesSaid : Prop := fnExactFarthestBoxesRow.holds Try.pinned (OpenSpec.ofChange fnExactFarthestBoxesSpec)

/-- ITS FALSE NEIGHBOUR: 'it returns false'. Refute it at one input. -/
def fnExactFarthestBoxesWrong : ChangeSpec := { name := "fnExactFarthestBoxes", fn := fun _ => fun
  | [d1, d2] => { results := [.lit (.bool false)], args := [d1, d2] }
  | _ => none }
def FnExactFarthestBoxesWrongFalsely : Prop := fnExactFarthestBoxesRow.holds Try.pinned (OpenSpec.ofChange fnExactFarthestBoxesWrong)

/-- 'laws.FnExactFewestBoxes': WHATEVER THE INPUT: true; the input reads as it did. -/
def fnExactFewestBoxesSpec : ChangeSpec := { name := "fnExactFewestBoxes", fn := fun _ => fun
  | [d1, d2] => { results := [.lit (.bool true)], args := [d1, d2] }
  | _ => none }
def fnExactFewestBoxesRow : OpenClaim := { program := "ytkiblppanlbpaaa", sum := "28272889cb62352a4f833010ff3c426903753668a0228773af22244af85c26dc", func := "loop.example/g01336/laws.FnExactFewestBoxes", spec := "fnExactFewestBoxes", apart := false }
def FnExactFewestBoxesSaid : Prop := fnExactFewestBoxesRow.holds Try.pinned (OpenSpec.ofChange fnExactFewestBoxesSpec)

/-- ITS FALSE NEIGHBOUR: 'it returns false'. Refute it at one input. -/
def fnExactFewestBoxesWrong : ChangeSpec := { name := "fnExactFewestBoxes", fn := fun _ => fun
  | [d1, d2] => { results := [.lit (.bool false)], args := [d1, d2] }
  | _ => none }
def FnExactFewestBoxesWrongFalsely : Prop := fnExactFewestBoxesRow.holds Try.pinned (OpenSpec.ofChange fnExactFewestBoxesWrong)

/-- 'laws.FnExactPeopleWithin': WHATEVER THE INPUT: true; the input reads as it did. -/
def fnExactPeopleWithinSpec : ChangeSpec := { name := "fnExactPeopleWithin", fn := fun _ => fun
  | [d1, d2, d3] => { results := [.lit (.bool true)], args := [d1, d2, d3] }
  | _ => none }
def fnExactPeopleWithinRow : OpenClaim := { program := "ytkiblppanlbpaaa", sum := "28272889cb62352a4f833010ff3c426903753668a0228773af22244af85c26dc", func := "loop.example/g01336/laws.FnExactPeopleWithin", spec := "fnExactPeopleWithin", unfollowed := true, recurses := true, apart := false }
def FnExactPeopleWithinSaid : Prop := fnExactPeopleWithinRow.holds Try.pinned (OpenSpec.ofChange fnExactPeopleWithinSpec)

/-- ITS FALSE NEIGHBOUR: 'it returns false'. Refute it at one input. -/
def fnExactPeopleWithinWrong : ChangeSpec := { name := "fnExactPeopleWithin", fn := fun _ => fun
  | [d1, d2, d3] => { results := [.lit (.bool false)], args := [d1, d2, d3] }
  | _ => none }
def FnExactPeopleWithinWrongFalsely : Prop := fnExactPeopleWithinRow.holds Try.pinned (OpenSpec.ofChange fnExactPeopleWithinWrong)

/-- 'laws.FnExactMeanHouse': WHATEVER THE INPUT: true; the input reads as it did. -/
def fnExactMeanHouseSpec : ChangeSpec := { name := "fnExactMeanHouse", fn := fun _ => fun
  | [d] => { results := [.lit (.bool true)], args := [d] }
  | _ => none }
def fnExactMeanHouseRow : OpenClaim := { program := "ytkiblppanlbpaaa", sum := "28272889cb62352a4f833010ff3c426903753668a0228773af22244af85c26dc", func := "loop.example/g01336/laws.FnExactMeanHouse", spec := "fnExactMeanHouse", unfollowed := true, recurses := true, apart := false }
def FnExactMeanHouseSaid : Prop := fnExactMeanHouseRow.holds Try.pinned (OpenSpec.ofChange fnExactMeanHouseSpec)

/-- ITS FALSE NEIGHBOUR: 'it returns false'. Refute it at one input. -/
def fnExactMeanHouseWrong : ChangeSpec := { name := "fnExactMeanHouse", fn := fun _ => fun
  | [d] => { results := [.lit (.bool false)], args := [d] }
  | _ => none }
def FnExactMeanHouseWrongFalsely : Prop := fnExactMeanHouseRow.holds Try.pinned (OpenSpec.ofChange fnExactMeanHouseWrong)

/-- 'laws.FnExactSumTable': WHATEVER THE INPUT: true; the input reads as it did. -/
def fnExactSumTableSpec : ChangeSpec := { name := "fnExactSumTable", fn := fun _ => fun
  | [d] => { results := [.lit (.bool true)], args := [d] }
  | _ => none }
def fnExactSumTableRow : OpenClaim := { program := "ytkiblppanlbpaaa", sum := "28272889cb62352a4f833010ff3c426903753668a0228773af22244af85c26dc", func := "loop.example/g01336/laws.FnExactSumTable", spec := "fnExactSumTable", unfollowed := true, recurses := true, apart := false }
def FnExactSumTableSaid : Prop := fnExactSumTableRow.holds Try.pinned (OpenSpec.ofChange fnExactSumTableSpec)

/-- ITS FALSE NEIGHBOUR: 'it returns false'. Refute it at one input. -/
def fnExactSumTableWrong : ChangeSpec := { name := "fnExactSumTable", fn := fun _ => fun
  | [d] => { results := [.lit (.bool false)], args := [d] }
  | _ => none }
def FnExactSumTableWrongFalsely : Prop := fnExactSumTableRow.holds Try.pinned (OpenSpec.ofChange fnExactSumTableWrong)

/-- 'laws.FnExactMovedPeople': WHATEVER THE INPUT: true; the input reads as it did. -/
def fnExactMovedPeopleSpec : ChangeSpec := { name := "fnExactMovedPeople", fn := fun _ => fun
  | [d1, d2, d3, d4] => { results := [.lit (.bool true)], args := [d1, d2, d3, d4] }
  | _ => none }
def fnExactMovedPeopleRow : OpenClaim := { program := "ytkiblppanlbpaaa", sum := "28272889cb62352a4f833010ff3c426903753668a0228773af22244af85c26dc", func := "loop.example/g01336/laws.FnExactMovedPeople", spec := "fnExactMovedPeople", apart := false }
def FnExactMovedPeopleSaid : Prop := fnExactMovedPeopleRow.holds Try.pinned (OpenSpec.ofChange fnExactMovedPeopleSpec)

/-- ITS FALSE NEIGHBOUR: 'it returns false'. Refute it at one input. -/
def fnExactMovedPeopleWrong : ChangeSpec := { name := "fnExactMovedPeople", fn := fun _ => fun
  | [d1, d2, d3, d4] => { results := [.lit (.bool false)], args := [d1, d2, d3, d4] }
  | _ => none }
def FnExactMovedPeopleWrongFalsely : Prop := fnExactMovedPeopleRow.holds Try.pinned (OpenSpec.ofChange fnExactMovedPeopleWrong)

/-- 'laws.FnExactMirrorPeople': WHATEVER THE INPUT: true; the input reads as it did. -/
def fnExactMirrorPeopleSpec : ChangeSpec := { name := "fnExactMirrorPeople", fn := fun _ => fun
  | [d] => { results := [.lit (.bool true)], args := [d] }
  | _ => none }
def fnExactMirrorPeopleRow : OpenClaim := { program := "ytkiblppanlbpaaa", sum := "28272889cb62352a4f833010ff3c426903753668a0228773af22244af85c26dc", func := "loop.example/g01336/laws.FnExactMirrorPeople", spec := "fnExactMirrorPeople", apart := false }
def FnExactMirrorPeopleSaid : Prop := fnExactMirrorPeopleRow.holds Try.pinned (OpenSpec.ofChange fnExactMirrorPeopleSpec)

/-- ITS FALSE NEIGHBOUR: 'it returns false'. Refute it at one input. -/
def fnExactMirrorPeopleWrong : ChangeSpec := { name := "fnExactMirrorPeople", fn := fun _ => fun
  | [d] => { results := [.lit (.bool false)], args := [d] }
  | _ => none }
def FnExactMirrorPeopleWrongFalsely : Prop := fnExactMirrorPeopleRow.holds Try.pinned (OpenSpec.ofChange fnExactMirrorPeopleWrong)

/- THE SECOND FORM. 'bulk': how many values and letters a reading holds, each counted each time it is reached (what is shared counts as often as it is met; a slice's spare places count too). A statement '..UptoSaid' is the law's where the arguments, and the package variables that the reading takes, are together of bulk at most 1048576: NARROWER than '..Said'. Prove '..Said' where nothing that the law and all that it calls make is longer than what came in: it says more and counts as full. Else prove '..UptoSaid'. A law counts once. -/
mutual
def uptoBulk {H : Type} : DataW H → Nat
  | .lit (.string bytes) => bytes.length + 1
  | .lit _ => 1
  | .nil => 1
  | .ptr d => uptoBulk d + 1
  | .slice elems spare => uptoBulkAll elems + uptoBulkAll spare + 1
  | .agg parts => uptoBulkAll parts + 1
  | .iface _ d => uptoBulk d + 1
  | .map entries => uptoBulkEntries entries + 1
  | .held _ => 1
def uptoBulkAll {H : Type} : List (DataW H) → Nat
  | [] => 0
  | d :: r => uptoBulk d + uptoBulkAll r
def uptoBulkEntries {H : Type} : List (Lit × DataW H) → Nat
  | [] => 0
  | x :: r => uptoBulkEntry x + uptoBulkEntries r
def uptoBulkEntry {H : Type} : Lit × DataW H → Nat
  | (.string bytes, d) => bytes.length + uptoBulk d + 1
  | (_, d) => uptoBulk d + 1
 end
def uptoSmall : (H : Type) → List (DataW H) → Bool := fun _ ds => decide (uptoBulkAll ds ≤ 1048576)
def OpenSpec.upto (s : _root_.Go.ChangeSpec) : _root_.Go.OpenSpec := { _root_.Go.OpenSpec.ofChange s with cond := some uptoSmall }

/-- 'laws.FnExactArePeople', WHERE WHAT IT READS IS OF BULK AT MOST 1048576: true; the input reads as it did. -/
def fnExactArePeopleUptoRow : OpenClaim := { program := "ytkiblppanlbpaaa", sum := "28272889cb62352a4f833010ff3c426903753668a0228773af22244af85c26dc", func := "loop.example/g01336/laws.FnExactArePeople", spec := "fnExactArePeople", apart := false, narrowed := true }
def FnExactArePeopleUptoSaid : Prop := fnExactArePeopleUptoRow.holds Try.pinned (OpenSpec.upto fnExactArePeopleSpec)

/-- 'laws.FnExactWalksTo', WHERE WHAT IT READS IS OF BULK AT MOST 1048576: true; the input reads as it did. -/
def fnExactWalksToUptoRow : OpenClaim := { program := "ytkiblppanlbpaaa", sum := "28272889cb62352a4f833010ff3c426903753668a0228773af22244af85c26dc", func := "loop.example/g01336/laws.FnExactWalksTo", spec := "fnExactWalksTo", unfollowed := true, recurses := true, apart := false, narrowed := true }
def FnExactWalksToUptoSaid : Prop := fnExactWalksToUptoRow.holds Try.pinned (OpenSpec.upto fnExactWalksToSpec)

/-- 'laws.FnExactBestHouses', WHERE WHAT IT READS IS OF BULK AT MOST 1048576: true; the input reads as it did. -/
def fnExactBestHousesUptoRow : OpenClaim := { program := "ytkiblppanlbpaaa", sum := "28272889cb62352a4f833010ff3c426903753668a0228773af22244af85c26dc", func := "loop.example/g01336/laws.FnExactBestHouses", spec := "fnExactBestHouses", unfollowed := true, recurses := true, apart := false, narrowed := true }
def FnExactBestHousesUptoSaid : Prop := fnExactBestHousesUptoRow.holds Try.pinned (OpenSpec.upto fnExactBestHousesSpec)

/-- 'laws.FnExactFarthestTo', WHERE WHAT IT READS IS OF BULK AT MOST 1048576: true; the input reads as it did. -/
def fnExactFarthestToUptoRow : OpenClaim := { program := "ytkiblppanlbpaaa", sum := "28272889cb62352a4f833010ff3c426903753668a0228773af22244af85c26dc", func := "loop.example/g01336/laws.FnExactFarthestTo", spec := "fnExactFarthestTo", unfollowed := true, recurses := true, apart := false, narrowed := true }
def FnExactFarthestToUptoSaid : Prop := fnExactFarthestToUptoRow.holds Try.pinned (OpenSpec.upto fnExactFarthestToSpec)

/-- 'laws.FnExactCenterHouses', WHERE WHAT IT READS IS OF BULK AT MOST 1048576: true; the input reads as it did. -/
def fnExactCenterHousesUptoRow : OpenClaim := { program := "ytkiblppanlbpaaa", sum := "28272889cb62352a4f833010ff3c426903753668a0228773af22244af85c26dc", func := "loop.example/g01336/laws.FnExactCenterHouses", spec := "fnExactCenterHouses", unfollowed := true, recurses := true, apart := false, narrowed := true }
def FnExactCenterHousesUptoSaid : Prop := fnExactCenterHousesUptoRow.holds Try.pinned (OpenSpec.upto fnExactCenterHousesSpec)

/-- 'laws.FnExactBoxesSum', WHERE WHAT IT READS IS OF BULK AT MOST 1048576: true; the input reads as it did. -/
def fnExactBoxesSumUptoRow : OpenClaim := { program := "ytkiblppanlbpaaa", sum := "28272889cb62352a4f833010ff3c426903753668a0228773af22244af85c26dc", func := "loop.example/g01336/laws.FnExactBoxesSum", spec := "fnExactBoxesSum", unfollowed := true, recurses := true, apart := false, narrowed := true }
def FnExactBoxesSumUptoSaid : Prop := fnExactBoxesSumUptoRow.holds Try.pinned (OpenSpec.upto fnExactBoxesSumSpec)

/-- 'laws.FnExactBoxOfEach', WHERE WHAT IT READS IS OF BULK AT MOST 1048576: true; the input reads as it did. -/
def fnExactBoxOfEachUptoRow : OpenClaim := { program := "ytkiblppanlbpaaa", sum := "28272889cb62352a4f833010ff3c426903753668a0228773af22244af85c26dc", func := "loop.example/g01336/laws.FnExactBoxOfEach", spec := "fnExactBoxOfEach", unfollowed := true, recurses := true, apart := false, narrowed := true }
def FnExactBoxOfEachUptoSaid : Prop := fnExactBoxOfEachUptoRow.holds Try.pinned (OpenSpec.upto fnExactBoxOfEachSpec)

/-- 'laws.FnExactFarthestBoxes', WHERE WHAT IT READS IS OF BULK AT MOST 1048576: true; the input reads as it did. -/
def fnExactFarthestBoxesUptoRow : OpenClaim := { program := "ytkiblppanlbpaaa", sum := "28272889cb62352a4f833010ff3c426903753668a0228773af22244af85c26dc", func := "loop.example/g01336/laws.FnExactFarthestBoxes", spec := "fnExactFarthestBoxes", unfollowed := true, recurses := true, apart := false, narrowed := true }
def FnExactFarthestBoxesUptoSaid : Prop := fnExactFarthestBoxesUptoRow.holds Try.pinned (OpenSpec.upto fnExactFarthestBoxesSpec)

/-- 'laws.FnExactFewestBoxes', WHERE WHAT IT READS IS OF BULK AT MOST 1048576: true; the input reads as it did. -/
def fnExactFewestBoxesUptoRow : OpenClaim := { program := "ytkiblppanlbpaaa", sum := "28272889cb62352a4f833010ff3c426903753668a0228773af22244af85c26dc", func := "loop.example/g01336/laws.FnExactFewestBoxes", spec := "fnExactFewestBoxes", apart := false, narrowed := true }
def FnExactFewestBoxesUptoSaid : Prop := fnExactFewestBoxesUptoRow.holds Try.pinned (OpenSpec.upto fnExactFewestBoxesSpec)

/-- 'laws.FnExactPeopleWithin', WHERE WHAT IT READS IS OF BULK AT MOST 1048576: true; the input reads as it did. -/
def fnExactPeopleWithinUptoRow : OpenClaim := { program := "ytkiblppanlbpaaa", sum := "28272889cb62352a4f833010ff3c426903753668a0228773af22244af85c26dc", func := "loop.example/g01336/laws.FnExactPeopleWithin", spec := "fnExactPeopleWithin", unfollowed := true, recurses := true, apart := false, narrowed := true }
def FnExactPeopleWithinUptoSaid : Prop := fnExactPeopleWithinUptoRow.holds Try.pinned (OpenSpec.upto fnExactPeopleWithinSpec)

/-- 'laws.FnExactMeanHouse', WHERE WHAT IT READS IS OF BULK AT MOST 1048576: true; the input reads as it did. -/
def fnExactMeanHouseUptoRow : OpenClaim := { program := "ytkiblppanlbpaaa", sum := "28272889cb62352a4f833010ff3c426903753668a0228773af22244af85c26dc", func := "loop.example/g01336/laws.FnExactMeanHouse", spec := "fnExactMeanHouse", unfollowed := true, recurses := true, apart := false, narrowed := true }
def FnExactMeanHouseUptoSaid : Prop := fnExactMeanHouseUptoRow.holds Try.pinned (OpenSpec.upto fnExactMeanHouseSpec)

/-- 'laws.FnExactSumTable', WHERE WHAT IT READS IS OF BULK AT MOST 1048576: true; the input reads as it did. -/
def fnExactSumTableUptoRow : OpenClaim := { program := "ytkiblppanlbpaaa", sum := "28272889cb62352a4f833010ff3c426903753668a0228773af22244af85c26dc", func := "loop.example/g01336/laws.FnExactSumTable", spec := "fnExactSumTable", unfollowed := true, recurses := true, apart := false, narrowed := true }
def FnExactSumTableUptoSaid : Prop := fnExactSumTableUptoRow.holds Try.pinned (OpenSpec.upto fnExactSumTableSpec)

/-- 'laws.FnExactMovedPeople', WHERE WHAT IT READS IS OF BULK AT MOST 1048576: true; the input reads as it did. -/
def fnExactMovedPeopleUptoRow : OpenClaim := { program := "ytkiblppanlbpaaa", sum := "28272889cb62352a4f833010ff3c426903753668a0228773af22244af85c26dc", func := "loop.example/g01336/laws.FnExactMovedPeople", spec := "fnExactMovedPeople", apart := false, narrowed := true }
def FnExactMovedPeopleUptoSaid : Prop := fnExactMovedPeopleUptoRow.holds Try.pinned (OpenSpec.upto fnExactMovedPeopleSpec)

/-- 'laws.FnExactMirrorPeople', WHERE WHAT IT READS IS OF BULK AT MOST 1048576: true; the input reads as it did. -/
def fnExactMirrorPeopleUptoRow : OpenClaim := { program := "ytkiblppanlbpaaa", sum := "28272889cb62352a4f833010ff3c426903753668a0228773af22244af85c26dc", func := "loop.example/g01336/laws.FnExactMirrorPeople", spec := "fnExactMirrorPeople", apart := false, narrowed := true }
def FnExactMirrorPeopleUptoSaid : Prop := fnExactMirrorPeopleUptoRow.holds Try.pinned (OpenSpec.upto fnExactMirrorPeopleSpec)

end Rows
end Go.Proofs.Ytkiblppanlbpaaa
