/-
  No cell of these rows narrows 'for every input' (looked for: loops, veiled, ifaces, maps, wideKeys, modest, calm, conditions, laid).
  DERIVED. THE GIVEN ROWS OF THIS SEAT. 8 by the template 'for every input the law returns true; each argument reads behind the call as it read before'; 0 by the template 'total and deterministic' (their statements: YtcmlojidcpomjaaTotals.lean).
  GIVEN WITH THE SEED: the statements are not yours to turn. If you find one false, say at which input.
  Laid BY PROGRAM, IN A SANDBOX (cutbox-rows.mjs): the forced cells as the released guide's own fill.sh prints them over the translation 084c4169d43c867b… (all of the seat's roots in one cut). By AI agents, Wed Nov 11 2026. No macro, syntax, notation, axiom, sorry.
-/
import Derived.Test.YtcmlojidcpomjaaChecked
import GoSem.Claim
import GoSem.ClaimJoined
import GoSem.ClaimMapViews
import Derived.JoinedTies
import Derived.KernelRfl
namespace Go.Proofs.Ytcmlojidcpomjaa
/- THE CELL 'sum', in the pinned program and in every row, IS THE sha256 OF THE DUMP (.gsa) THAT YtcmlojidcpomjaaProg.lean LOADS. Nothing in Lean hashes anything: it is a label: what it is worth is what the hold of that sum in a sandbox is worth. -/
noncomputable def Try.pinned : Pinned := { name := "ytcmlojidcpomjaa", sum := "084c4169d43c867bdf2625f70ef820abc8fb48dae9826d9f9d782b2469df58ab", checked := Try.checked }
namespace Rows
def none {H : Type} : Left H := { results := [], args := [] }

/-- 'laws.FnExactNextHouses': WHATEVER THE INPUT: true; the input reads as it did. -/
def fnExactNextHousesSpec : ChangeSpec := { name := "fnExactNextHouses", fn := fun _ => fun
  | [d1, d2] => { results := [.lit (.bool true)], args := [d1, d2] }
  | _ => none }
def fnExactNextHousesRow : OpenClaim := { program := "ytcmlojidcpomjaa", sum := "084c4169d43c867bdf2625f70ef820abc8fb48dae9826d9f9d782b2469df58ab", func := "loop.example/g01336/laws.FnExactNextHouses", spec := "fnExactNextHouses", recurses := true, plainKeys := false, apart := false }
def FnExactNextHousesSaid : Prop := fnExactNextHousesRow.holds Try.pinned (OpenSpec.ofChange fnExactNextHousesSpec)

/-- ITS FALSE NEIGHBOUR: 'it returns false'. Refute it at one input. -/
def fnExactNextHousesWrong : ChangeSpec := { name := "fnExactNextHouses", fn := fun _ => fun
  | [d1, d2] => { results := [.lit (.bool false)], args := [d1, d2] }
  | _ => none }
def FnExactNextHousesWrongFalsely : Prop := fnExactNextHousesRow.holds Try.pinned (OpenSpec.ofChange fnExactNextHousesWrong)

/-- 'laws.FnExactPlatesFrom': WHATEVER THE INPUT: true; the input reads as it did. -/
def fnExactPlatesFromSpec : ChangeSpec := { name := "fnExactPlatesFrom", fn := fun _ => fun
  | [d] => { results := [.lit (.bool true)], args := [d] }
  | _ => none }
def fnExactPlatesFromRow : OpenClaim := { program := "ytcmlojidcpomjaa", sum := "084c4169d43c867bdf2625f70ef820abc8fb48dae9826d9f9d782b2469df58ab", func := "loop.example/g01336/laws.FnExactPlatesFrom", spec := "fnExactPlatesFrom", unfollowed := true, recurses := true, plainKeys := false, apart := false }
def FnExactPlatesFromSaid : Prop := fnExactPlatesFromRow.holds Try.pinned (OpenSpec.ofChange fnExactPlatesFromSpec)

/-- ITS FALSE NEIGHBOUR: 'it returns false'. Refute it at one input. -/
def fnExactPlatesFromWrong : ChangeSpec := { name := "fnExactPlatesFrom", fn := fun _ => fun
  | [d] => { results := [.lit (.bool false)], args := [d] }
  | _ => none }
def FnExactPlatesFromWrongFalsely : Prop := fnExactPlatesFromRow.holds Try.pinned (OpenSpec.ofChange fnExactPlatesFromWrong)

/-- 'laws.FnExactOppositeOf': WHATEVER THE INPUT: true; the input reads as it did. -/
def fnExactOppositeOfSpec : ChangeSpec := { name := "fnExactOppositeOf", fn := fun _ => fun
  | [d1, d2] => { results := [.lit (.bool true)], args := [d1, d2] }
  | _ => none }
def fnExactOppositeOfRow : OpenClaim := { program := "ytcmlojidcpomjaa", sum := "084c4169d43c867bdf2625f70ef820abc8fb48dae9826d9f9d782b2469df58ab", func := "loop.example/g01336/laws.FnExactOppositeOf", spec := "fnExactOppositeOf", plainKeys := false, apart := false }
def FnExactOppositeOfSaid : Prop := fnExactOppositeOfRow.holds Try.pinned (OpenSpec.ofChange fnExactOppositeOfSpec)

/-- ITS FALSE NEIGHBOUR: 'it returns false'. Refute it at one input. -/
def fnExactOppositeOfWrong : ChangeSpec := { name := "fnExactOppositeOf", fn := fun _ => fun
  | [d1, d2] => { results := [.lit (.bool false)], args := [d1, d2] }
  | _ => none }
def FnExactOppositeOfWrongFalsely : Prop := fnExactOppositeOfRow.holds Try.pinned (OpenSpec.ofChange fnExactOppositeOfWrong)

/-- 'laws.FnExactPlaceOfPlate': WHATEVER THE INPUT: true; the input reads as it did. -/
def fnExactPlaceOfPlateSpec : ChangeSpec := { name := "fnExactPlaceOfPlate", fn := fun _ => fun
  | [d1, d2] => { results := [.lit (.bool true)], args := [d1, d2] }
  | _ => none }
def fnExactPlaceOfPlateRow : OpenClaim := { program := "ytcmlojidcpomjaa", sum := "084c4169d43c867bdf2625f70ef820abc8fb48dae9826d9f9d782b2469df58ab", func := "loop.example/g01336/laws.FnExactPlaceOfPlate", spec := "fnExactPlaceOfPlate", plainKeys := false, apart := false }
def FnExactPlaceOfPlateSaid : Prop := fnExactPlaceOfPlateRow.holds Try.pinned (OpenSpec.ofChange fnExactPlaceOfPlateSpec)

/-- ITS FALSE NEIGHBOUR: 'it returns false'. Refute it at one input. -/
def fnExactPlaceOfPlateWrong : ChangeSpec := { name := "fnExactPlaceOfPlate", fn := fun _ => fun
  | [d1, d2] => { results := [.lit (.bool false)], args := [d1, d2] }
  | _ => none }
def FnExactPlaceOfPlateWrongFalsely : Prop := fnExactPlaceOfPlateRow.holds Try.pinned (OpenSpec.ofChange fnExactPlaceOfPlateWrong)

/-- 'laws.FnExactInsertBehind': WHATEVER THE INPUT: true; the input reads as it did. -/
def fnExactInsertBehindSpec : ChangeSpec := { name := "fnExactInsertBehind", fn := fun _ => fun
  | [d1, d2] => { results := [.lit (.bool true)], args := [d1, d2] }
  | _ => none }
def fnExactInsertBehindRow : OpenClaim := { program := "ytcmlojidcpomjaa", sum := "084c4169d43c867bdf2625f70ef820abc8fb48dae9826d9f9d782b2469df58ab", func := "loop.example/g01336/laws.FnExactInsertBehind", spec := "fnExactInsertBehind", inPlace := ["slices.overlaps[loop.example/g01336/impl.Plate]"], plainKeys := false, apart := false }
def FnExactInsertBehindSaid : Prop := fnExactInsertBehindRow.holds Try.pinned (OpenSpec.ofChange fnExactInsertBehindSpec)

/-- ITS FALSE NEIGHBOUR: 'it returns false'. Refute it at one input. -/
def fnExactInsertBehindWrong : ChangeSpec := { name := "fnExactInsertBehind", fn := fun _ => fun
  | [d1, d2] => { results := [.lit (.bool false)], args := [d1, d2] }
  | _ => none }
def FnExactInsertBehindWrongFalsely : Prop := fnExactInsertBehindRow.holds Try.pinned (OpenSpec.ofChange fnExactInsertBehindWrong)

/-- 'laws.FnExactAddPlate': WHATEVER THE INPUT: true; the input reads as it did. -/
def fnExactAddPlateSpec : ChangeSpec := { name := "fnExactAddPlate", fn := fun _ => fun
  | [d1, d2] => { results := [.lit (.bool true)], args := [d1, d2] }
  | _ => none }
def fnExactAddPlateRow : OpenClaim := { program := "ytcmlojidcpomjaa", sum := "084c4169d43c867bdf2625f70ef820abc8fb48dae9826d9f9d782b2469df58ab", func := "loop.example/g01336/laws.FnExactAddPlate", spec := "fnExactAddPlate", inPlace := ["slices.overlaps[loop.example/g01336/impl.Plate]"], plainKeys := false, apart := false }
def FnExactAddPlateSaid : Prop := fnExactAddPlateRow.holds Try.pinned (OpenSpec.ofChange fnExactAddPlateSpec)

/-- ITS FALSE NEIGHBOUR: 'it returns false'. Refute it at one input. -/
def fnExactAddPlateWrong : ChangeSpec := { name := "fnExactAddPlate", fn := fun _ => fun
  | [d1, d2] => { results := [.lit (.bool false)], args := [d1, d2] }
  | _ => none }
def FnExactAddPlateWrongFalsely : Prop := fnExactAddPlateRow.holds Try.pinned (OpenSpec.ofChange fnExactAddPlateWrong)

/-- 'laws.FnExactLettersOf': WHATEVER THE INPUT: true; the input reads as it did. -/
def fnExactLettersOfSpec : ChangeSpec := { name := "fnExactLettersOf", fn := fun _ => fun
  | [d1, d2] => { results := [.lit (.bool true)], args := [d1, d2] }
  | _ => none }
def fnExactLettersOfRow : OpenClaim := { program := "ytcmlojidcpomjaa", sum := "084c4169d43c867bdf2625f70ef820abc8fb48dae9826d9f9d782b2469df58ab", func := "loop.example/g01336/laws.FnExactLettersOf", spec := "fnExactLettersOf", plainKeys := false, apart := false }
def FnExactLettersOfSaid : Prop := fnExactLettersOfRow.holds Try.pinned (OpenSpec.ofChange fnExactLettersOfSpec)

/-- ITS FALSE NEIGHBOUR: 'it returns false'. Refute it at one input. -/
def fnExactLettersOfWrong : ChangeSpec := { name := "fnExactLettersOf", fn := fun _ => fun
  | [d1, d2] => { results := [.lit (.bool false)], args := [d1, d2] }
  | _ => none }
def FnExactLettersOfWrongFalsely : Prop := fnExactLettersOfRow.holds Try.pinned (OpenSpec.ofChange fnExactLettersOfWrong)

/-- 'laws.FnExactJoinPlates': WHATEVER THE INPUT: true; the input reads as it did. -/
def fnExactJoinPlatesSpec : ChangeSpec := { name := "fnExactJoinPlates", fn := fun _ => fun
  | [d1, d2] => { results := [.lit (.bool true)], args := [d1, d2] }
  | _ => none }
def fnExactJoinPlatesRow : OpenClaim := { program := "ytcmlojidcpomjaa", sum := "084c4169d43c867bdf2625f70ef820abc8fb48dae9826d9f9d782b2469df58ab", func := "loop.example/g01336/laws.FnExactJoinPlates", spec := "fnExactJoinPlates", inPlace := ["slices.overlaps[loop.example/g01336/impl.Plate]"], plainKeys := false, apart := false }
def FnExactJoinPlatesSaid : Prop := fnExactJoinPlatesRow.holds Try.pinned (OpenSpec.ofChange fnExactJoinPlatesSpec)

/-- ITS FALSE NEIGHBOUR: 'it returns false'. Refute it at one input. -/
def fnExactJoinPlatesWrong : ChangeSpec := { name := "fnExactJoinPlates", fn := fun _ => fun
  | [d1, d2] => { results := [.lit (.bool false)], args := [d1, d2] }
  | _ => none }
def FnExactJoinPlatesWrongFalsely : Prop := fnExactJoinPlatesRow.holds Try.pinned (OpenSpec.ofChange fnExactJoinPlatesWrong)

/- THE SECOND FORM. 'bulk': how many values and letters a reading holds, each counted each time it is reached (what is shared counts as often as it is met; a slice's spare places count too). A statement '..UptoSaid' is the law's where the arguments, and the package variables that the reading takes, are together of bulk at most 1048576: NARROWER than '..Said'. Prove '..Said' where nothing that the law and all that it calls make is longer than what came in: it says more and counts as full. Else prove '..UptoSaid'. A law counts once. -/
mutual
def uptoBulk {H : Type} : DataW H → Nat
  | .lit (.string bytes) => bytes.length + 1
  | .lit _ => 1
  | .nil => 1
  | .ptr d => uptoBulk d + 1
  | .slice elems spare => uptoBulkAll elems + uptoBulkAll spare + 1
  | .agg parts => uptoBulkAll parts + 1
  | .iface _ d => uptoBulk d + 1
  | .map entries => uptoBulkEntries entries + 1
  | .held _ => 1
def uptoBulkAll {H : Type} : List (DataW H) → Nat
  | [] => 0
  | d :: r => uptoBulk d + uptoBulkAll r
def uptoBulkEntries {H : Type} : List (Lit × DataW H) → Nat
  | [] => 0
  | x :: r => uptoBulkEntry x + uptoBulkEntries r
def uptoBulkEntry {H : Type} : Lit × DataW H → Nat
  | (.string bytes, d) => bytes.length + uptoBulk d + 1
  | (_, d) => uptoBulk d + 1
 end
def uptoSmall : (H : Type) → List (DataW H) → Bool := fun _ ds => decide (uptoBulkAll ds ≤ 1048576)
def OpenSpec.upto (s : _root_.Go.ChangeSpec) : _root_.Go.OpenSpec := { _root_.Go.OpenSpec.ofChange s with cond := some uptoSmall }

/-- 'laws.FnExactNextHouses', WHERE WHAT IT READS IS OF BULK AT MOST 1048576: true; the input reads as it did. -/
def fnExactNextHousesUptoRow : OpenClaim := { program := "ytcmlojidcpomjaa", sum := "084c4169d43c867bdf2625f70ef820abc8fb48dae9826d9f9d782b2469df58ab", func := "loop.example/g01336/laws.FnExactNextHouses", spec := "fnExactNextHouses", recurses := true, plainKeys := false, apart := false, narrowed := true }
def FnExactNextHousesUptoSaid : Prop := fnExactNextHousesUptoRow.holds Try.pinned (OpenSpec.upto fnExactNextHousesSpec)

/-- 'laws.FnExactPlatesFrom', WHERE WHAT IT READS IS OF BULK AT MOST 1048576: true; the input reads as it did. -/
def fnExactPlatesFromUptoRow : OpenClaim := { program := "ytcmlojidcpomjaa", sum := "084c4169d43c867bdf2625f70ef820abc8fb48dae9826d9f9d782b2469df58ab", func := "loop.example/g01336/laws.FnExactPlatesFrom", spec := "fnExactPlatesFrom", unfollowed := true, recurses := true, plainKeys := false, apart := false, narrowed := true }
def FnExactPlatesFromUptoSaid : Prop := fnExactPlatesFromUptoRow.holds Try.pinned (OpenSpec.upto fnExactPlatesFromSpec)

/-- 'laws.FnExactOppositeOf', WHERE WHAT IT READS IS OF BULK AT MOST 1048576: true; the input reads as it did. -/
def fnExactOppositeOfUptoRow : OpenClaim := { program := "ytcmlojidcpomjaa", sum := "084c4169d43c867bdf2625f70ef820abc8fb48dae9826d9f9d782b2469df58ab", func := "loop.example/g01336/laws.FnExactOppositeOf", spec := "fnExactOppositeOf", plainKeys := false, apart := false, narrowed := true }
def FnExactOppositeOfUptoSaid : Prop := fnExactOppositeOfUptoRow.holds Try.pinned (OpenSpec.upto fnExactOppositeOfSpec)

/-- 'laws.FnExactPlaceOfPlate', WHERE WHAT IT READS IS OF BULK AT MOST 1048576: true; the input reads as it did. -/
def fnExactPlaceOfPlateUptoRow : OpenClaim := { program := "ytcmlojidcpomjaa", sum := "084c4169d43c867bdf2625f70ef820abc8fb48dae9826d9f9d782b2469df58ab", func := "loop.example/g01336/laws.FnExactPlaceOfPlate", spec := "fnExactPlaceOfPlate", plainKeys := false, apart := false, narrowed := true }
def FnExactPlaceOfPlateUptoSaid : Prop := fnExactPlaceOfPlateUptoRow.holds Try.pinned (OpenSpec.upto fnExactPlaceOfPlateSpec)

/-- 'laws.FnExactInsertBehind', WHERE WHAT IT READS IS OF BULK AT MOST 1048576: true; the input reads as it did. -/
def fnExactInsertBehindUptoRow : OpenClaim := { program := "ytcmlojidcpomjaa", sum := "084c4169d43c867bdf2625f70ef820abc8fb48dae9826d9f9d782b2469df58ab", func := "loop.example/g01336/laws.FnExactInsertBehind", spec := "fnExactInsertBehind", inPlace := ["slices.overlaps[loop.example/g01336/impl.Plate]"], plainKeys := false, apart := false, narrowed := true }
def FnExactInsertBehindUptoSaid : Prop := fnExactInsertBehindUptoRow.holds Try.pinned (OpenSpec.upto fnExactInsertBehindSpec)

/-- 'laws.FnExactAddPlate', WHERE WHAT IT READS IS OF BULK AT MOST 1048576: true; the input reads as it did. -/
def fnExactAddPlateUptoRow : OpenClaim := { program := "ytcmlojidcpomjaa", sum := "084c4169d43c867bdf2625f70ef820abc8fb48dae9826d9f9d782b2469df58ab", func := "loop.example/g01336/laws.FnExactAddPlate", spec := "fnExactAddPlate", inPlace := ["slices.overlaps[loop.example/g01336/impl.Plate]"], plainKeys := false, apart := false, narrowed := true }
def FnExactAddPlateUptoSaid : Prop := fnExactAddPlateUptoRow.holds Try.pinned (OpenSpec.upto fnExactAddPlateSpec)

/-- 'laws.FnExactLettersOf', WHERE WHAT IT READS IS OF BULK AT MOST 1048576: true; the input reads as it did. -/
def fnExactLettersOfUptoRow : OpenClaim := { program := "ytcmlojidcpomjaa", sum := "084c4169d43c867bdf2625f70ef820abc8fb48dae9826d9f9d782b2469df58ab", func := "loop.example/g01336/laws.FnExactLettersOf", spec := "fnExactLettersOf", plainKeys := false, apart := false, narrowed := true }
def FnExactLettersOfUptoSaid : Prop := fnExactLettersOfUptoRow.holds Try.pinned (OpenSpec.upto fnExactLettersOfSpec)

/-- 'laws.FnExactJoinPlates', WHERE WHAT IT READS IS OF BULK AT MOST 1048576: true; the input reads as it did. -/
def fnExactJoinPlatesUptoRow : OpenClaim := { program := "ytcmlojidcpomjaa", sum := "084c4169d43c867bdf2625f70ef820abc8fb48dae9826d9f9d782b2469df58ab", func := "loop.example/g01336/laws.FnExactJoinPlates", spec := "fnExactJoinPlates", inPlace := ["slices.overlaps[loop.example/g01336/impl.Plate]"], plainKeys := false, apart := false, narrowed := true }
def FnExactJoinPlatesUptoSaid : Prop := fnExactJoinPlatesUptoRow.holds Try.pinned (OpenSpec.upto fnExactJoinPlatesSpec)

end Rows
end Go.Proofs.Ytcmlojidcpomjaa
