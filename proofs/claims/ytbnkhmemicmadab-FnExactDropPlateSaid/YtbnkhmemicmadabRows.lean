/-
  No cell of these rows narrows 'for every input' (looked for: loops, veiled, ifaces, maps, wideKeys, modest, calm, conditions, laid).
  DERIVED. THE GIVEN ROWS OF THIS SEAT. 9 by the template 'for every input the law returns true; each argument reads behind the call as it read before'; 0 by the template 'total and deterministic' (their statements: YtbnkhmemicmadabTotals.lean).
  GIVEN WITH THE SEED: the statements are not yours to turn. If you find one false, say at which input.
  Laid BY PROGRAM, IN A SANDBOX (cutbox-rows.mjs): the forced cells as the released guide's own fill.sh prints them over the translation fea51ab495bfbc46… (all of the seat's roots in one cut). By AI agents, Wed Nov 11 2026. No macro, syntax, notation, axiom, sorry.
-/
import Derived.Test.YtbnkhmemicmadabChecked
import GoSem.Claim
import GoSem.ClaimJoined
import GoSem.ClaimMapViews
import Derived.JoinedTies
import Derived.KernelRfl
namespace Go.Proofs.Ytbnkhmemicmadab
/- THE CELL 'sum', in the pinned program and in every row, IS THE sha256 OF THE DUMP (.gsa) THAT YtbnkhmemicmadabProg.lean LOADS. Nothing in Lean hashes anything: it is a label: what it is worth is what the hold of that sum in a sandbox is worth. -/
noncomputable def Try.pinned : Pinned := { name := "ytbnkhmemicmadab", sum := "fea51ab495bfbc46dac70457f7edcdcaf12bdb673882e4bb90f6bd2243112030", checked := Try.checked }
namespace Rows
def none {H : Type} : Left H := { results := [], args := [] }

/-- 'laws.FnExactRoomBehind': WHATEVER THE INPUT: true; the input reads as it did. -/
def fnExactRoomBehindSpec : ChangeSpec := { name := "fnExactRoomBehind", fn := fun _ => fun
  | [d1, d2] => { results := [.lit (.bool true)], args := [d1, d2] }
  | _ => none }
def fnExactRoomBehindRow : OpenClaim := { program := "ytbnkhmemicmadab", sum := "fea51ab495bfbc46dac70457f7edcdcaf12bdb673882e4bb90f6bd2243112030", func := "loop.example/g01336/laws.FnExactRoomBehind", spec := "fnExactRoomBehind", plainKeys := false, apart := false }
def FnExactRoomBehindSaid : Prop := fnExactRoomBehindRow.holds Try.pinned (OpenSpec.ofChange fnExactRoomBehindSpec)

/-- ITS FALSE NEIGHBOUR: 'it returns false'. Refute it at one input. -/
def fnExactRoomBehindWrong : ChangeSpec := { name := "fnExactRoomBehind", fn := fun _ => fun
  | [d1, d2] => { results := [.lit (.bool false)], args := [d1, d2] }
  | _ => none }
def FnExactRoomBehindWrongFalsely : Prop := fnExactRoomBehindRow.holds Try.pinned (OpenSpec.ofChange fnExactRoomBehindWrong)

/-- 'laws.FnExactAddPlate': WHATEVER THE INPUT: true; the input reads as it did. -/
def fnExactAddPlateSpec : ChangeSpec := { name := "fnExactAddPlate", fn := fun _ => fun
  | [d1, d2] => { results := [.lit (.bool true)], args := [d1, d2] }
  | _ => none }
def fnExactAddPlateRow : OpenClaim := { program := "ytbnkhmemicmadab", sum := "fea51ab495bfbc46dac70457f7edcdcaf12bdb673882e4bb90f6bd2243112030", func := "loop.example/g01336/laws.FnExactAddPlate", spec := "fnExactAddPlate", inPlace := ["slices.overlaps[loop.example/g01336/impl.Plate]"], plainKeys := false, apart := false }
def FnExactAddPlateSaid : Prop := fnExactAddPlateRow.holds Try.pinned (OpenSpec.ofChange fnExactAddPlateSpec)

/-- ITS FALSE NEIGHBOUR: 'it returns false'. Refute it at one input. -/
def fnExactAddPlateWrong : ChangeSpec := { name := "fnExactAddPlate", fn := fun _ => fun
  | [d1, d2] => { results := [.lit (.bool false)], args := [d1, d2] }
  | _ => none }
def FnExactAddPlateWrongFalsely : Prop := fnExactAddPlateRow.holds Try.pinned (OpenSpec.ofChange fnExactAddPlateWrong)

/-- 'laws.FnExactDropPlate': WHATEVER THE INPUT: true; the input reads as it did. -/
def fnExactDropPlateSpec : ChangeSpec := { name := "fnExactDropPlate", fn := fun _ => fun
  | [d1, d2] => { results := [.lit (.bool true)], args := [d1, d2] }
  | _ => none }
def fnExactDropPlateRow : OpenClaim := { program := "ytbnkhmemicmadab", sum := "fea51ab495bfbc46dac70457f7edcdcaf12bdb673882e4bb90f6bd2243112030", func := "loop.example/g01336/laws.FnExactDropPlate", spec := "fnExactDropPlate", plainKeys := false, apart := false }
def FnExactDropPlateSaid : Prop := fnExactDropPlateRow.holds Try.pinned (OpenSpec.ofChange fnExactDropPlateSpec)

/-- ITS FALSE NEIGHBOUR: 'it returns false'. Refute it at one input. -/
def fnExactDropPlateWrong : ChangeSpec := { name := "fnExactDropPlate", fn := fun _ => fun
  | [d1, d2] => { results := [.lit (.bool false)], args := [d1, d2] }
  | _ => none }
def FnExactDropPlateWrongFalsely : Prop := fnExactDropPlateRow.holds Try.pinned (OpenSpec.ofChange fnExactDropPlateWrong)

/-- 'laws.FnExactGapsOfPlates': WHATEVER THE INPUT: true; the input reads as it did. -/
def fnExactGapsOfPlatesSpec : ChangeSpec := { name := "fnExactGapsOfPlates", fn := fun _ => fun
  | [d] => { results := [.lit (.bool true)], args := [d] }
  | _ => none }
def fnExactGapsOfPlatesRow : OpenClaim := { program := "ytbnkhmemicmadab", sum := "fea51ab495bfbc46dac70457f7edcdcaf12bdb673882e4bb90f6bd2243112030", func := "loop.example/g01336/laws.FnExactGapsOfPlates", spec := "fnExactGapsOfPlates", plainKeys := false, apart := false }
def FnExactGapsOfPlatesSaid : Prop := fnExactGapsOfPlatesRow.holds Try.pinned (OpenSpec.ofChange fnExactGapsOfPlatesSpec)

/-- ITS FALSE NEIGHBOUR: 'it returns false'. Refute it at one input. -/
def fnExactGapsOfPlatesWrong : ChangeSpec := { name := "fnExactGapsOfPlates", fn := fun _ => fun
  | [d] => { results := [.lit (.bool false)], args := [d] }
  | _ => none }
def FnExactGapsOfPlatesWrongFalsely : Prop := fnExactGapsOfPlatesRow.holds Try.pinned (OpenSpec.ofChange fnExactGapsOfPlatesWrong)

/-- 'laws.FnExactLettersOf': WHATEVER THE INPUT: true; the input reads as it did. -/
def fnExactLettersOfSpec : ChangeSpec := { name := "fnExactLettersOf", fn := fun _ => fun
  | [d1, d2] => { results := [.lit (.bool true)], args := [d1, d2] }
  | _ => none }
def fnExactLettersOfRow : OpenClaim := { program := "ytbnkhmemicmadab", sum := "fea51ab495bfbc46dac70457f7edcdcaf12bdb673882e4bb90f6bd2243112030", func := "loop.example/g01336/laws.FnExactLettersOf", spec := "fnExactLettersOf", plainKeys := false, apart := false }
def FnExactLettersOfSaid : Prop := fnExactLettersOfRow.holds Try.pinned (OpenSpec.ofChange fnExactLettersOfSpec)

/-- ITS FALSE NEIGHBOUR: 'it returns false'. Refute it at one input. -/
def fnExactLettersOfWrong : ChangeSpec := { name := "fnExactLettersOf", fn := fun _ => fun
  | [d1, d2] => { results := [.lit (.bool false)], args := [d1, d2] }
  | _ => none }
def FnExactLettersOfWrongFalsely : Prop := fnExactLettersOfRow.holds Try.pinned (OpenSpec.ofChange fnExactLettersOfWrong)

/-- 'laws.FnExactRenumberPlates': WHATEVER THE INPUT: true; the input reads as it did. -/
def fnExactRenumberPlatesSpec : ChangeSpec := { name := "fnExactRenumberPlates", fn := fun _ => fun
  | [d] => { results := [.lit (.bool true)], args := [d] }
  | _ => none }
def fnExactRenumberPlatesRow : OpenClaim := { program := "ytbnkhmemicmadab", sum := "fea51ab495bfbc46dac70457f7edcdcaf12bdb673882e4bb90f6bd2243112030", func := "loop.example/g01336/laws.FnExactRenumberPlates", spec := "fnExactRenumberPlates", plainKeys := false, apart := false }
def FnExactRenumberPlatesSaid : Prop := fnExactRenumberPlatesRow.holds Try.pinned (OpenSpec.ofChange fnExactRenumberPlatesSpec)

/-- ITS FALSE NEIGHBOUR: 'it returns false'. Refute it at one input. -/
def fnExactRenumberPlatesWrong : ChangeSpec := { name := "fnExactRenumberPlates", fn := fun _ => fun
  | [d] => { results := [.lit (.bool false)], args := [d] }
  | _ => none }
def FnExactRenumberPlatesWrongFalsely : Prop := fnExactRenumberPlatesRow.holds Try.pinned (OpenSpec.ofChange fnExactRenumberPlatesWrong)

/-- 'laws.FnExactOldPlate': WHATEVER THE INPUT: true; the input reads as it did. -/
def fnExactOldPlateSpec : ChangeSpec := { name := "fnExactOldPlate", fn := fun _ => fun
  | [d1, d2] => { results := [.lit (.bool true)], args := [d1, d2] }
  | _ => none }
def fnExactOldPlateRow : OpenClaim := { program := "ytbnkhmemicmadab", sum := "fea51ab495bfbc46dac70457f7edcdcaf12bdb673882e4bb90f6bd2243112030", func := "loop.example/g01336/laws.FnExactOldPlate", spec := "fnExactOldPlate", plainKeys := false, apart := false }
def FnExactOldPlateSaid : Prop := fnExactOldPlateRow.holds Try.pinned (OpenSpec.ofChange fnExactOldPlateSpec)

/-- ITS FALSE NEIGHBOUR: 'it returns false'. Refute it at one input. -/
def fnExactOldPlateWrong : ChangeSpec := { name := "fnExactOldPlate", fn := fun _ => fun
  | [d1, d2] => { results := [.lit (.bool false)], args := [d1, d2] }
  | _ => none }
def FnExactOldPlateWrongFalsely : Prop := fnExactOldPlateRow.holds Try.pinned (OpenSpec.ofChange fnExactOldPlateWrong)

/-- 'laws.FnExactJoinPlates': WHATEVER THE INPUT: true; the input reads as it did. -/
def fnExactJoinPlatesSpec : ChangeSpec := { name := "fnExactJoinPlates", fn := fun _ => fun
  | [d1, d2] => { results := [.lit (.bool true)], args := [d1, d2] }
  | _ => none }
def fnExactJoinPlatesRow : OpenClaim := { program := "ytbnkhmemicmadab", sum := "fea51ab495bfbc46dac70457f7edcdcaf12bdb673882e4bb90f6bd2243112030", func := "loop.example/g01336/laws.FnExactJoinPlates", spec := "fnExactJoinPlates", inPlace := ["slices.overlaps[loop.example/g01336/impl.Plate]"], plainKeys := false, apart := false }
def FnExactJoinPlatesSaid : Prop := fnExactJoinPlatesRow.holds Try.pinned (OpenSpec.ofChange fnExactJoinPlatesSpec)

/-- ITS FALSE NEIGHBOUR: 'it returns false'. Refute it at one input. -/
def fnExactJoinPlatesWrong : ChangeSpec := { name := "fnExactJoinPlates", fn := fun _ => fun
  | [d1, d2] => { results := [.lit (.bool false)], args := [d1, d2] }
  | _ => none }
def FnExactJoinPlatesWrongFalsely : Prop := fnExactJoinPlatesRow.holds Try.pinned (OpenSpec.ofChange fnExactJoinPlatesWrong)

/-- 'laws.FnExactPartPlates': WHATEVER THE INPUT: true; the input reads as it did. -/
def fnExactPartPlatesSpec : ChangeSpec := { name := "fnExactPartPlates", fn := fun _ => fun
  | [d1, d2] => { results := [.lit (.bool true)], args := [d1, d2] }
  | _ => none }
def fnExactPartPlatesRow : OpenClaim := { program := "ytbnkhmemicmadab", sum := "fea51ab495bfbc46dac70457f7edcdcaf12bdb673882e4bb90f6bd2243112030", func := "loop.example/g01336/laws.FnExactPartPlates", spec := "fnExactPartPlates", plainKeys := false, apart := false }
def FnExactPartPlatesSaid : Prop := fnExactPartPlatesRow.holds Try.pinned (OpenSpec.ofChange fnExactPartPlatesSpec)

/-- ITS FALSE NEIGHBOUR: 'it returns false'. Refute it at one input. -/
def fnExactPartPlatesWrong : ChangeSpec := { name := "fnExactPartPlates", fn := fun _ => fun
  | [d1, d2] => { results := [.lit (.bool false)], args := [d1, d2] }
  | _ => none }
def FnExactPartPlatesWrongFalsely : Prop := fnExactPartPlatesRow.holds Try.pinned (OpenSpec.ofChange fnExactPartPlatesWrong)

/- THE SECOND FORM. 'bulk': how many values and letters a reading holds, each counted each time it is reached (what is shared counts as often as it is met; a slice's spare places count too). A statement '..UptoSaid' is the law's where the arguments, and the package variables that the reading takes, are together of bulk at most 1048576: NARROWER than '..Said'. Prove '..Said' where nothing that the law and all that it calls make is longer than what came in: it says more and counts as full. Else prove '..UptoSaid'. A law counts once. -/
mutual
def uptoBulk {H : Type} : DataW H → Nat
  | .lit (.string bytes) => bytes.length + 1
  | .lit _ => 1
  | .nil => 1
  | .ptr d => uptoBulk d + 1
  | .slice elems spare => uptoBulkAll elems + uptoBulkAll spare + 1
  | .agg parts => uptoBulkAll parts + 1
  | .iface _ d => uptoBulk d + 1
  | .map entries => uptoBulkEntries entries + 1
  | .held _ => 1
def uptoBulkAll {H : Type} : List (DataW H) → Nat
  | [] => 0
  | d :: r => uptoBulk d + uptoBulkAll r
def uptoBulkEntries {H : Type} : List (Lit × DataW H) → Nat
  | [] => 0
  | x :: r => uptoBulkEntry x + uptoBulkEntries r
def uptoBulkEntry {H : Type} : Lit × DataW H → Nat
  | (.string bytes, d) => bytes.length + uptoBulk d + 1
  | (_, d) => uptoBulk d + 1
 end
def uptoSmall : (H : Type) → List (DataW H) → Bool := fun _ ds => decide (uptoBulkAll ds ≤ 1048576)
def OpenSpec.upto (s : _root_.Go.ChangeSpec) : _root_.Go.OpenSpec := { _root_.Go.OpenSpec.ofChange s with cond := some uptoSmall }

/-- 'laws.FnExactRoomBehind', WHERE WHAT IT READS IS OF BULK AT MOST 1048576: true; the input reads as it did. -/
def fnExactRoomBehindUptoRow : OpenClaim := { program := "ytbnkhmemicmadab", sum := "fea51ab495bfbc46dac70457f7edcdcaf12bdb673882e4bb90f6bd2243112030", func := "loop.example/g01336/laws.FnExactRoomBehind", spec := "fnExactRoomBehind", plainKeys := false, apart := false, narrowed := true }
def FnExactRoomBehindUptoSaid : Prop := fnExactRoomBehindUptoRow.holds Try.pinned (OpenSpec.upto fnExactRoomBehindSpec)

/-- 'laws.FnExactAddPlate', WHERE WHAT IT READS IS OF BULK AT MOST 1048576: true; the input reads as it did. -/
def fnExactAddPlateUptoRow : OpenClaim := { program := "ytbnkhmemicmadab", sum := "fea51ab495bfbc46dac70457f7edcdcaf12bdb673882e4bb90f6bd2243112030", func := "loop.example/g01336/laws.FnExactAddPlate", spec := "fnExactAddPlate", inPlace := ["slices.overlaps[loop.example/g01336/impl.Plate]"], plainKeys := false, apart := false, narrowed := true }
def FnExactAddPlateUptoSaid : Prop := fnExactAddPlateUptoRow.holds Try.pinned (OpenSpec.upto fnExactAddPlateSpec)

/-- 'laws.FnExactDropPlate', WHERE WHAT IT READS IS OF BULK AT MOST 1048576: true; the input reads as it did. -/
def fnExactDropPlateUptoRow : OpenClaim := { program := "ytbnkhmemicmadab", sum := "fea51ab495bfbc46dac70457f7edcdcaf12bdb673882e4bb90f6bd2243112030", func := "loop.example/g01336/laws.FnExactDropPlate", spec := "fnExactDropPlate", plainKeys := false, apart := false, narrowed := true }
def FnExactDropPlateUptoSaid : Prop := fnExactDropPlateUptoRow.holds Try.pinned (OpenSpec.upto fnExactDropPlateSpec)

/-- 'laws.FnExactGapsOfPlates', WHERE WHAT IT READS IS OF BULK AT MOST 1048576: true; the input reads as it did. -/
def fnExactGapsOfPlatesUptoRow : OpenClaim := { program := "ytbnkhmemicmadab", sum := "fea51ab495bfbc46dac70457f7edcdcaf12bdb673882e4bb90f6bd2243112030", func := "loop.example/g01336/laws.FnExactGapsOfPlates", spec := "fnExactGapsOfPlates", plainKeys := false, apart := false, narrowed := true }
def FnExactGapsOfPlatesUptoSaid : Prop := fnExactGapsOfPlatesUptoRow.holds Try.pinned (OpenSpec.upto fnExactGapsOfPlatesSpec)

/-- 'laws.FnExactLettersOf', WHERE WHAT IT READS IS OF BULK AT MOST 1048576: true; the input reads as it did. -/
def fnExactLettersOfUptoRow : OpenClaim := { program := "ytbnkhmemicmadab", sum := "fea51ab495bfbc46dac70457f7edcdcaf12bdb673882e4bb90f6bd2243112030", func := "loop.example/g01336/laws.FnExactLettersOf", spec := "fnExactLettersOf", plainKeys := false, apart := false, narrowed := true }
def FnExactLettersOfUptoSaid : Prop := fnExactLettersOfUptoRow.holds Try.pinned (OpenSpec.upto fnExactLettersOfSpec)

/-- 'laws.FnExactRenumberPlates', WHERE WHAT IT READS IS OF BULK AT MOST 1048576: true; the input reads as it did. -/
def fnExactRenumberPlatesUptoRow : OpenClaim := { program := "ytbnkhmemicmadab", sum := "fea51ab495bfbc46dac70457f7edcdcaf12bdb673882e4bb90f6bd2243112030", func := "loop.example/g01336/laws.FnExactRenumberPlates", spec := "fnExactRenumberPlates", plainKeys := false, apart := false, narrowed := true }
def FnExactRenumberPlatesUptoSaid : Prop := fnExactRenumberPlatesUptoRow.holds Try.pinned (OpenSpec.upto fnExactRenumberPlatesSpec)

/-- 'laws.FnExactOldPlate', WHERE WHAT IT READS IS OF BULK AT MOST 1048576: true; the input reads as it did. -/
def fnExactOldPlateUptoRow : OpenClaim := { program := "ytbnkhmemicmadab", sum := "fea51ab495bfbc46dac70457f7edcdcaf12bdb673882e4bb90f6bd2243112030", func := "loop.example/g01336/laws.FnExactOldPlate", spec := "fnExactOldPlate", plainKeys := false, apart := false, narrowed := true }
def FnExactOldPlateUptoSaid : Prop := fnExactOldPlateUptoRow.holds Try.pinned (OpenSpec.upto fnExactOldPlateSpec)

/-- 'laws.FnExactJoinPlates', WHERE WHAT IT READS IS OF BULK AT MOST 1048576: true; the input reads as it did. -/
def fnExactJoinPlatesUptoRow : OpenClaim := { program := "ytbnkhmemicmadab", sum := "fea51ab495bfbc46dac70457f7edcdcaf12bdb673882e4bb90f6bd2243112030", func := "loop.example/g01336/laws.FnExactJoinPlates", spec := "fnExactJoinPlates", inPlace := ["slices.overlaps[loop.example/g01336/impl.Plate]"], plainKeys := false, apart := false, narrowed := true }
def FnExactJoinPlatesUptoSaid : Prop := fnExactJoinPlatesUptoRow.holds Try.pinned (OpenSpec.upto fnExactJoinPlatesSpec)

/-- 'laws.FnExactPartPlates', WHERE WHAT IT READS IS OF BULK AT MOST 1048576: true; the input reads as it did. -/
def fnExactPartPlatesUptoRow : OpenClaim := { program := "ytbnkhmemicmadab", sum := "fea51ab495bfbc46dac70457f7edcdcaf12bdb673882e4bb90f6bd2243112030", func := "loop.example/g01336/laws.FnExactPartPlates", spec := "fnExactPartPlates", plainKeys := false, apart := false, narrowed := true }
def FnExactPartPlatesUptoSaid : Prop := fnExactPartPlatesUptoRow.holds Try.pinned (OpenSpec.upto fnExactPartPlatesSpec)

end Rows
end Go.Proofs.Ytbnkhmemicmadab
