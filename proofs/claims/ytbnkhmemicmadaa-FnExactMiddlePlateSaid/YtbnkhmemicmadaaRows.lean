/-
  No cell of these rows narrows 'for every input' (looked for: loops, veiled, ifaces, maps, wideKeys, modest, calm, conditions, laid).
  DERIVED. THE GIVEN ROWS OF THIS SEAT. 12 by the template 'for every input the law returns true; each argument reads behind the call as it read before'; 0 by the template 'total and deterministic' (their statements: YtbnkhmemicmadaaTotals.lean).
  GIVEN WITH THE SEED: the statements are not yours to turn. If you find one false, say at which input.
  Laid BY PROGRAM, IN A SANDBOX (cutbox-rows.mjs): the forced cells as the released guide's own fill.sh prints them over the translation d6e929d8f620bd36… (all of the seat's roots in one cut). By AI agents, Wed Nov 11 2026. No macro, syntax, notation, axiom, sorry.
-/
import Derived.Test.YtbnkhmemicmadaaChecked
import GoSem.Claim
import GoSem.ClaimJoined
import GoSem.ClaimMapViews
import Derived.JoinedTies
import Derived.KernelRfl
namespace Go.Proofs.Ytbnkhmemicmadaa
/- THE CELL 'sum', in the pinned program and in every row, IS THE sha256 OF THE DUMP (.gsa) THAT YtbnkhmemicmadaaProg.lean LOADS. Nothing in Lean hashes anything: it is a label: what it is worth is what the hold of that sum in a sandbox is worth. -/
noncomputable def Try.pinned : Pinned := { name := "ytbnkhmemicmadaa", sum := "d6e929d8f620bd36381048551f807ebbee8bdfa4f2ed37b18103191805124724", checked := Try.checked }
namespace Rows
def none {H : Type} : Left H := { results := [], args := [] }

/-- 'laws.FnExactNextHouses': WHATEVER THE INPUT: true; the input reads as it did. -/
def fnExactNextHousesSpec : ChangeSpec := { name := "fnExactNextHouses", fn := fun _ => fun
  | [d1, d2] => { results := [.lit (.bool true)], args := [d1, d2] }
  | _ => none }
def fnExactNextHousesRow : OpenClaim := { program := "ytbnkhmemicmadaa", sum := "d6e929d8f620bd36381048551f807ebbee8bdfa4f2ed37b18103191805124724", func := "loop.example/g01336/laws.FnExactNextHouses", spec := "fnExactNextHouses", recurses := true, plainKeys := false, apart := false }
def FnExactNextHousesSaid : Prop := fnExactNextHousesRow.holds Try.pinned (OpenSpec.ofChange fnExactNextHousesSpec)

/-- ITS FALSE NEIGHBOUR: 'it returns false'. Refute it at one input. -/
def fnExactNextHousesWrong : ChangeSpec := { name := "fnExactNextHouses", fn := fun _ => fun
  | [d1, d2] => { results := [.lit (.bool false)], args := [d1, d2] }
  | _ => none }
def FnExactNextHousesWrongFalsely : Prop := fnExactNextHousesRow.holds Try.pinned (OpenSpec.ofChange fnExactNextHousesWrong)

/-- 'laws.FnExactPlatesFrom': WHATEVER THE INPUT: true; the input reads as it did. -/
def fnExactPlatesFromSpec : ChangeSpec := { name := "fnExactPlatesFrom", fn := fun _ => fun
  | [d] => { results := [.lit (.bool true)], args := [d] }
  | _ => none }
def fnExactPlatesFromRow : OpenClaim := { program := "ytbnkhmemicmadaa", sum := "d6e929d8f620bd36381048551f807ebbee8bdfa4f2ed37b18103191805124724", func := "loop.example/g01336/laws.FnExactPlatesFrom", spec := "fnExactPlatesFrom", unfollowed := true, recurses := true, plainKeys := false, apart := false }
def FnExactPlatesFromSaid : Prop := fnExactPlatesFromRow.holds Try.pinned (OpenSpec.ofChange fnExactPlatesFromSpec)

/-- ITS FALSE NEIGHBOUR: 'it returns false'. Refute it at one input. -/
def fnExactPlatesFromWrong : ChangeSpec := { name := "fnExactPlatesFrom", fn := fun _ => fun
  | [d] => { results := [.lit (.bool false)], args := [d] }
  | _ => none }
def FnExactPlatesFromWrongFalsely : Prop := fnExactPlatesFromRow.holds Try.pinned (OpenSpec.ofChange fnExactPlatesFromWrong)

/-- 'laws.FnExactBalancedStreets': WHATEVER THE INPUT: true; the input reads as it did. -/
def fnExactBalancedStreetsSpec : ChangeSpec := { name := "fnExactBalancedStreets", fn := fun _ => fun
  | [d] => { results := [.lit (.bool true)], args := [d] }
  | _ => none }
def fnExactBalancedStreetsRow : OpenClaim := { program := "ytbnkhmemicmadaa", sum := "d6e929d8f620bd36381048551f807ebbee8bdfa4f2ed37b18103191805124724", func := "loop.example/g01336/laws.FnExactBalancedStreets", spec := "fnExactBalancedStreets", plainKeys := false, apart := false }
def FnExactBalancedStreetsSaid : Prop := fnExactBalancedStreetsRow.holds Try.pinned (OpenSpec.ofChange fnExactBalancedStreetsSpec)

/-- ITS FALSE NEIGHBOUR: 'it returns false'. Refute it at one input. -/
def fnExactBalancedStreetsWrong : ChangeSpec := { name := "fnExactBalancedStreets", fn := fun _ => fun
  | [d] => { results := [.lit (.bool false)], args := [d] }
  | _ => none }
def FnExactBalancedStreetsWrongFalsely : Prop := fnExactBalancedStreetsRow.holds Try.pinned (OpenSpec.ofChange fnExactBalancedStreetsWrong)

/-- 'laws.FnExactRangesWithSum': WHATEVER THE INPUT: true; the input reads as it did. -/
def fnExactRangesWithSumSpec : ChangeSpec := { name := "fnExactRangesWithSum", fn := fun _ => fun
  | [d] => { results := [.lit (.bool true)], args := [d] }
  | _ => none }
def fnExactRangesWithSumRow : OpenClaim := { program := "ytbnkhmemicmadaa", sum := "d6e929d8f620bd36381048551f807ebbee8bdfa4f2ed37b18103191805124724", func := "loop.example/g01336/laws.FnExactRangesWithSum", spec := "fnExactRangesWithSum", plainKeys := false, apart := false }
def FnExactRangesWithSumSaid : Prop := fnExactRangesWithSumRow.holds Try.pinned (OpenSpec.ofChange fnExactRangesWithSumSpec)

/-- ITS FALSE NEIGHBOUR: 'it returns false'. Refute it at one input. -/
def fnExactRangesWithSumWrong : ChangeSpec := { name := "fnExactRangesWithSum", fn := fun _ => fun
  | [d] => { results := [.lit (.bool false)], args := [d] }
  | _ => none }
def FnExactRangesWithSumWrongFalsely : Prop := fnExactRangesWithSumRow.holds Try.pinned (OpenSpec.ofChange fnExactRangesWithSumWrong)

/-- 'laws.FnExactIsPlate': WHATEVER THE INPUT: true; the input reads as it did. -/
def fnExactIsPlateSpec : ChangeSpec := { name := "fnExactIsPlate", fn := fun _ => fun
  | [d] => { results := [.lit (.bool true)], args := [d] }
  | _ => none }
def fnExactIsPlateRow : OpenClaim := { program := "ytbnkhmemicmadaa", sum := "d6e929d8f620bd36381048551f807ebbee8bdfa4f2ed37b18103191805124724", func := "loop.example/g01336/laws.FnExactIsPlate", spec := "fnExactIsPlate", plainKeys := false, apart := false }
def FnExactIsPlateSaid : Prop := fnExactIsPlateRow.holds Try.pinned (OpenSpec.ofChange fnExactIsPlateSpec)

/-- ITS FALSE NEIGHBOUR: 'it returns false'. Refute it at one input. -/
def fnExactIsPlateWrong : ChangeSpec := { name := "fnExactIsPlate", fn := fun _ => fun
  | [d] => { results := [.lit (.bool false)], args := [d] }
  | _ => none }
def FnExactIsPlateWrongFalsely : Prop := fnExactIsPlateRow.holds Try.pinned (OpenSpec.ofChange fnExactIsPlateWrong)

/-- 'laws.FnExactComparePlates': WHATEVER THE INPUT: true; the input reads as it did. -/
def fnExactComparePlatesSpec : ChangeSpec := { name := "fnExactComparePlates", fn := fun _ => fun
  | [d1, d2] => { results := [.lit (.bool true)], args := [d1, d2] }
  | _ => none }
def fnExactComparePlatesRow : OpenClaim := { program := "ytbnkhmemicmadaa", sum := "d6e929d8f620bd36381048551f807ebbee8bdfa4f2ed37b18103191805124724", func := "loop.example/g01336/laws.FnExactComparePlates", spec := "fnExactComparePlates", plainKeys := false, apart := false }
def FnExactComparePlatesSaid : Prop := fnExactComparePlatesRow.holds Try.pinned (OpenSpec.ofChange fnExactComparePlatesSpec)

/-- ITS FALSE NEIGHBOUR: 'it returns false'. Refute it at one input. -/
def fnExactComparePlatesWrong : ChangeSpec := { name := "fnExactComparePlates", fn := fun _ => fun
  | [d1, d2] => { results := [.lit (.bool false)], args := [d1, d2] }
  | _ => none }
def FnExactComparePlatesWrongFalsely : Prop := fnExactComparePlatesRow.holds Try.pinned (OpenSpec.ofChange fnExactComparePlatesWrong)

/-- 'laws.FnExactNextPlate': WHATEVER THE INPUT: true; the input reads as it did. -/
def fnExactNextPlateSpec : ChangeSpec := { name := "fnExactNextPlate", fn := fun _ => fun
  | [d] => { results := [.lit (.bool true)], args := [d] }
  | _ => none }
def fnExactNextPlateRow : OpenClaim := { program := "ytbnkhmemicmadaa", sum := "d6e929d8f620bd36381048551f807ebbee8bdfa4f2ed37b18103191805124724", func := "loop.example/g01336/laws.FnExactNextPlate", spec := "fnExactNextPlate", plainKeys := false, apart := false }
def FnExactNextPlateSaid : Prop := fnExactNextPlateRow.holds Try.pinned (OpenSpec.ofChange fnExactNextPlateSpec)

/-- ITS FALSE NEIGHBOUR: 'it returns false'. Refute it at one input. -/
def fnExactNextPlateWrong : ChangeSpec := { name := "fnExactNextPlate", fn := fun _ => fun
  | [d] => { results := [.lit (.bool false)], args := [d] }
  | _ => none }
def FnExactNextPlateWrongFalsely : Prop := fnExactNextPlateRow.holds Try.pinned (OpenSpec.ofChange fnExactNextPlateWrong)

/-- 'laws.FnExactCountBetween': WHATEVER THE INPUT: true; the input reads as it did. -/
def fnExactCountBetweenSpec : ChangeSpec := { name := "fnExactCountBetween", fn := fun _ => fun
  | [d1, d2] => { results := [.lit (.bool true)], args := [d1, d2] }
  | _ => none }
def fnExactCountBetweenRow : OpenClaim := { program := "ytbnkhmemicmadaa", sum := "d6e929d8f620bd36381048551f807ebbee8bdfa4f2ed37b18103191805124724", func := "loop.example/g01336/laws.FnExactCountBetween", spec := "fnExactCountBetween", plainKeys := false, apart := false }
def FnExactCountBetweenSaid : Prop := fnExactCountBetweenRow.holds Try.pinned (OpenSpec.ofChange fnExactCountBetweenSpec)

/-- ITS FALSE NEIGHBOUR: 'it returns false'. Refute it at one input. -/
def fnExactCountBetweenWrong : ChangeSpec := { name := "fnExactCountBetween", fn := fun _ => fun
  | [d1, d2] => { results := [.lit (.bool false)], args := [d1, d2] }
  | _ => none }
def FnExactCountBetweenWrongFalsely : Prop := fnExactCountBetweenRow.holds Try.pinned (OpenSpec.ofChange fnExactCountBetweenWrong)

/-- 'laws.FnExactMiddlePlate': WHATEVER THE INPUT: true; the input reads as it did. -/
def fnExactMiddlePlateSpec : ChangeSpec := { name := "fnExactMiddlePlate", fn := fun _ => fun
  | [d1, d2] => { results := [.lit (.bool true)], args := [d1, d2] }
  | _ => none }
def fnExactMiddlePlateRow : OpenClaim := { program := "ytbnkhmemicmadaa", sum := "d6e929d8f620bd36381048551f807ebbee8bdfa4f2ed37b18103191805124724", func := "loop.example/g01336/laws.FnExactMiddlePlate", spec := "fnExactMiddlePlate", plainKeys := false, apart := false }
def FnExactMiddlePlateSaid : Prop := fnExactMiddlePlateRow.holds Try.pinned (OpenSpec.ofChange fnExactMiddlePlateSpec)

/-- ITS FALSE NEIGHBOUR: 'it returns false'. Refute it at one input. -/
def fnExactMiddlePlateWrong : ChangeSpec := { name := "fnExactMiddlePlate", fn := fun _ => fun
  | [d1, d2] => { results := [.lit (.bool false)], args := [d1, d2] }
  | _ => none }
def FnExactMiddlePlateWrongFalsely : Prop := fnExactMiddlePlateRow.holds Try.pinned (OpenSpec.ofChange fnExactMiddlePlateWrong)

/-- 'laws.FnExactArePlates': WHATEVER THE INPUT: true; the input reads as it did. -/
def fnExactArePlatesSpec : ChangeSpec := { name := "fnExactArePlates", fn := fun _ => fun
  | [d] => { results := [.lit (.bool true)], args := [d] }
  | _ => none }
def fnExactArePlatesRow : OpenClaim := { program := "ytbnkhmemicmadaa", sum := "d6e929d8f620bd36381048551f807ebbee8bdfa4f2ed37b18103191805124724", func := "loop.example/g01336/laws.FnExactArePlates", spec := "fnExactArePlates", plainKeys := false, apart := false }
def FnExactArePlatesSaid : Prop := fnExactArePlatesRow.holds Try.pinned (OpenSpec.ofChange fnExactArePlatesSpec)

/-- ITS FALSE NEIGHBOUR: 'it returns false'. Refute it at one input. -/
def fnExactArePlatesWrong : ChangeSpec := { name := "fnExactArePlates", fn := fun _ => fun
  | [d] => { results := [.lit (.bool false)], args := [d] }
  | _ => none }
def FnExactArePlatesWrongFalsely : Prop := fnExactArePlatesRow.holds Try.pinned (OpenSpec.ofChange fnExactArePlatesWrong)

/-- 'laws.FnExactPlaceOfPlate': WHATEVER THE INPUT: true; the input reads as it did. -/
def fnExactPlaceOfPlateSpec : ChangeSpec := { name := "fnExactPlaceOfPlate", fn := fun _ => fun
  | [d1, d2] => { results := [.lit (.bool true)], args := [d1, d2] }
  | _ => none }
def fnExactPlaceOfPlateRow : OpenClaim := { program := "ytbnkhmemicmadaa", sum := "d6e929d8f620bd36381048551f807ebbee8bdfa4f2ed37b18103191805124724", func := "loop.example/g01336/laws.FnExactPlaceOfPlate", spec := "fnExactPlaceOfPlate", plainKeys := false, apart := false }
def FnExactPlaceOfPlateSaid : Prop := fnExactPlaceOfPlateRow.holds Try.pinned (OpenSpec.ofChange fnExactPlaceOfPlateSpec)

/-- ITS FALSE NEIGHBOUR: 'it returns false'. Refute it at one input. -/
def fnExactPlaceOfPlateWrong : ChangeSpec := { name := "fnExactPlaceOfPlate", fn := fun _ => fun
  | [d1, d2] => { results := [.lit (.bool false)], args := [d1, d2] }
  | _ => none }
def FnExactPlaceOfPlateWrongFalsely : Prop := fnExactPlaceOfPlateRow.holds Try.pinned (OpenSpec.ofChange fnExactPlaceOfPlateWrong)

/-- 'laws.FnExactInsertBehind': WHATEVER THE INPUT: true; the input reads as it did. -/
def fnExactInsertBehindSpec : ChangeSpec := { name := "fnExactInsertBehind", fn := fun _ => fun
  | [d1, d2] => { results := [.lit (.bool true)], args := [d1, d2] }
  | _ => none }
def fnExactInsertBehindRow : OpenClaim := { program := "ytbnkhmemicmadaa", sum := "d6e929d8f620bd36381048551f807ebbee8bdfa4f2ed37b18103191805124724", func := "loop.example/g01336/laws.FnExactInsertBehind", spec := "fnExactInsertBehind", inPlace := ["slices.overlaps[loop.example/g01336/impl.Plate]"], plainKeys := false, apart := false }
def FnExactInsertBehindSaid : Prop := fnExactInsertBehindRow.holds Try.pinned (OpenSpec.ofChange fnExactInsertBehindSpec)

/-- ITS FALSE NEIGHBOUR: 'it returns false'. Refute it at one input. -/
def fnExactInsertBehindWrong : ChangeSpec := { name := "fnExactInsertBehind", fn := fun _ => fun
  | [d1, d2] => { results := [.lit (.bool false)], args := [d1, d2] }
  | _ => none }
def FnExactInsertBehindWrongFalsely : Prop := fnExactInsertBehindRow.holds Try.pinned (OpenSpec.ofChange fnExactInsertBehindWrong)

/- THE SECOND FORM. 'bulk': how many values and letters a reading holds, each counted each time it is reached (what is shared counts as often as it is met; a slice's spare places count too). A statement '..UptoSaid' is the law's where the arguments, and the package variables that the reading takes, are together of bulk at most 1048576: NARROWER than '..Said'. Prove '..Said' where nothing that the law and all that it calls make is longer than what came in: it says more and counts as full. Else prove '..UptoSaid'. A law counts once. -/
mutual
def uptoBulk {H : Type} : DataW H → Nat
  | .lit (.string bytes) => bytes.length + 1
  | .lit _ => 1
  | .nil => 1
  | .ptr d => uptoBulk d + 1
  | .slice elems spare => uptoBulkAll elems + uptoBulkAll spare + 1
  | .agg parts => uptoBulkAll parts + 1
  | .iface _ d => uptoBulk d + 1
  | .map entries => uptoBulkEntries entries + 1
  | .held _ => 1
def uptoBulkAll {H : Type} : List (DataW H) → Nat
  | [] => 0
  | d :: r => uptoBulk d + uptoBulkAll r
def uptoBulkEntries {H : Type} : List (Lit × DataW H) → Nat
  | [] => 0
  | x :: r => uptoBulkEntry x + uptoBulkEntries r
def uptoBulkEntry {H : Type} : Lit × DataW H → Nat
  | (.string bytes, d) => bytes.length + uptoBulk d + 1
  | (_, d) => uptoBulk d + 1
 end
def uptoSmall : (H : Type) → List (DataW H) → Bool := fun _ ds => decide (uptoBulkAll ds ≤ 1048576)
def OpenSpec.upto (s : _root_.Go.ChangeSpec) : _root_.Go.OpenSpec := { _root_.Go.OpenSpec.ofChange s with cond := some uptoSmall }

/-- 'laws.FnExactNextHouses', WHERE WHAT IT READS IS OF BULK AT MOST 1048576: true; the input reads as it did. -/
def fnExactNextHousesUptoRow : OpenClaim := { program := "ytbnkhmemicmadaa", sum := "d6e929d8f620bd36381048551f807ebbee8bdfa4f2ed37b18103191805124724", func := "loop.example/g01336/laws.FnExactNextHouses", spec := "fnExactNextHouses", recurses := true, plainKeys := false, apart := false, narrowed := true }
def FnExactNextHousesUptoSaid : Prop := fnExactNextHousesUptoRow.holds Try.pinned (OpenSpec.upto fnExactNextHousesSpec)

/-- 'laws.FnExactPlatesFrom', WHERE WHAT IT READS IS OF BULK AT MOST 1048576: true; the input reads as it did. -/
def fnExactPlatesFromUptoRow : OpenClaim := { program := "ytbnkhmemicmadaa", sum := "d6e929d8f620bd36381048551f807ebbee8bdfa4f2ed37b18103191805124724", func := "loop.example/g01336/laws.FnExactPlatesFrom", spec := "fnExactPlatesFrom", unfollowed := true, recurses := true, plainKeys := false, apart := false, narrowed := true }
def FnExactPlatesFromUptoSaid : Prop := fnExactPlatesFromUptoRow.holds Try.pinned (OpenSpec.upto fnExactPlatesFromSpec)

/-- 'laws.FnExactBalancedStreets', WHERE WHAT IT READS IS OF BULK AT MOST 1048576: true; the input reads as it did. -/
def fnExactBalancedStreetsUptoRow : OpenClaim := { program := "ytbnkhmemicmadaa", sum := "d6e929d8f620bd36381048551f807ebbee8bdfa4f2ed37b18103191805124724", func := "loop.example/g01336/laws.FnExactBalancedStreets", spec := "fnExactBalancedStreets", plainKeys := false, apart := false, narrowed := true }
def FnExactBalancedStreetsUptoSaid : Prop := fnExactBalancedStreetsUptoRow.holds Try.pinned (OpenSpec.upto fnExactBalancedStreetsSpec)

/-- 'laws.FnExactRangesWithSum', WHERE WHAT IT READS IS OF BULK AT MOST 1048576: true; the input reads as it did. -/
def fnExactRangesWithSumUptoRow : OpenClaim := { program := "ytbnkhmemicmadaa", sum := "d6e929d8f620bd36381048551f807ebbee8bdfa4f2ed37b18103191805124724", func := "loop.example/g01336/laws.FnExactRangesWithSum", spec := "fnExactRangesWithSum", plainKeys := false, apart := false, narrowed := true }
def FnExactRangesWithSumUptoSaid : Prop := fnExactRangesWithSumUptoRow.holds Try.pinned (OpenSpec.upto fnExactRangesWithSumSpec)

/-- 'laws.FnExactIsPlate', WHERE WHAT IT READS IS OF BULK AT MOST 1048576: true; the input reads as it did. -/
def fnExactIsPlateUptoRow : OpenClaim := { program := "ytbnkhmemicmadaa", sum := "d6e929d8f620bd36381048551f807ebbee8bdfa4f2ed37b18103191805124724", func := "loop.example/g01336/laws.FnExactIsPlate", spec := "fnExactIsPlate", plainKeys := false, apart := false, narrowed := true }
def FnExactIsPlateUptoSaid : Prop := fnExactIsPlateUptoRow.holds Try.pinned (OpenSpec.upto fnExactIsPlateSpec)

/-- 'laws.FnExactComparePlates', WHERE WHAT IT READS IS OF BULK AT MOST 1048576: true; the input reads as it did. -/
def fnExactComparePlatesUptoRow : OpenClaim := { program := "ytbnkhmemicmadaa", sum := "d6e929d8f620bd36381048551f807ebbee8bdfa4f2ed37b18103191805124724", func := "loop.example/g01336/laws.FnExactComparePlates", spec := "fnExactComparePlates", plainKeys := false, apart := false, narrowed := true }
def FnExactComparePlatesUptoSaid : Prop := fnExactComparePlatesUptoRow.holds Try.pinned (OpenSpec.upto fnExactComparePlatesSpec)

/-- 'laws.FnExactNextPlate', WHERE WHAT IT READS IS OF BULK AT MOST 1048576: true; the input reads as it did. -/
def fnExactNextPlateUptoRow : OpenClaim := { program := "ytbnkhmemicmadaa", sum := "d6e929d8f620bd36381048551f807ebbee8bdfa4f2ed37b18103191805124724", func := "loop.example/g01336/laws.FnExactNextPlate", spec := "fnExactNextPlate", plainKeys := false, apart := false, narrowed := true }
def FnExactNextPlateUptoSaid : Prop := fnExactNextPlateUptoRow.holds Try.pinned (OpenSpec.upto fnExactNextPlateSpec)

/-- 'laws.FnExactCountBetween', WHERE WHAT IT READS IS OF BULK AT MOST 1048576: true; the input reads as it did. -/
def fnExactCountBetweenUptoRow : OpenClaim := { program := "ytbnkhmemicmadaa", sum := "d6e929d8f620bd36381048551f807ebbee8bdfa4f2ed37b18103191805124724", func := "loop.example/g01336/laws.FnExactCountBetween", spec := "fnExactCountBetween", plainKeys := false, apart := false, narrowed := true }
def FnExactCountBetweenUptoSaid : Prop := fnExactCountBetweenUptoRow.holds Try.pinned (OpenSpec.upto fnExactCountBetweenSpec)

/-- 'laws.FnExactMiddlePlate', WHERE WHAT IT READS IS OF BULK AT MOST 1048576: true; the input reads as it did. -/
def fnExactMiddlePlateUptoRow : OpenClaim := { program := "ytbnkhmemicmadaa", sum := "d6e929d8f620bd36381048551f807ebbee8bdfa4f2ed37b18103191805124724", func := "loop.example/g01336/laws.FnExactMiddlePlate", spec := "fnExactMiddlePlate", plainKeys := false, apart := false, narrowed := true }
def FnExactMiddlePlateUptoSaid : Prop := fnExactMiddlePlateUptoRow.holds Try.pinned (OpenSpec.upto fnExactMiddlePlateSpec)

/-- 'laws.FnExactArePlates', WHERE WHAT IT READS IS OF BULK AT MOST 1048576: true; the input reads as it did. -/
def fnExactArePlatesUptoRow : OpenClaim := { program := "ytbnkhmemicmadaa", sum := "d6e929d8f620bd36381048551f807ebbee8bdfa4f2ed37b18103191805124724", func := "loop.example/g01336/laws.FnExactArePlates", spec := "fnExactArePlates", plainKeys := false, apart := false, narrowed := true }
def FnExactArePlatesUptoSaid : Prop := fnExactArePlatesUptoRow.holds Try.pinned (OpenSpec.upto fnExactArePlatesSpec)

/-- 'laws.FnExactPlaceOfPlate', WHERE WHAT IT READS IS OF BULK AT MOST 1048576: true; the input reads as it did. -/
def fnExactPlaceOfPlateUptoRow : OpenClaim := { program := "ytbnkhmemicmadaa", sum := "d6e929d8f620bd36381048551f807ebbee8bdfa4f2ed37b18103191805124724", func := "loop.example/g01336/laws.FnExactPlaceOfPlate", spec := "fnExactPlaceOfPlate", plainKeys := false, apart := false, narrowed := true }
def FnExactPlaceOfPlateUptoSaid : Prop := fnExactPlaceOfPlateUptoRow.holds Try.pinned (OpenSpec.upto fnExactPlaceOfPlateSpec)

/-- 'laws.FnExactInsertBehind', WHERE WHAT IT READS IS OF BULK AT MOST 1048576: true; the input reads as it did. -/
def fnExactInsertBehindUptoRow : OpenClaim := { program := "ytbnkhmemicmadaa", sum := "d6e929d8f620bd36381048551f807ebbee8bdfa4f2ed37b18103191805124724", func := "loop.example/g01336/laws.FnExactInsertBehind", spec := "fnExactInsertBehind", inPlace := ["slices.overlaps[loop.example/g01336/impl.Plate]"], plainKeys := false, apart := false, narrowed := true }
def FnExactInsertBehindUptoSaid : Prop := fnExactInsertBehindUptoRow.holds Try.pinned (OpenSpec.upto fnExactInsertBehindSpec)

end Rows
end Go.Proofs.Ytbnkhmemicmadaa
