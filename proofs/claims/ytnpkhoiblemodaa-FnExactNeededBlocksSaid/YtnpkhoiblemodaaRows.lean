/-
  No cell of these rows narrows 'for every input' (looked for: loops, veiled, ifaces, maps, wideKeys, modest, calm, conditions, laid).
  DERIVED. THE GIVEN ROWS OF THIS SEAT. 4 by the template 'for every input the law returns true; each argument reads behind the call as it read before'; 0 by the template 'total and deterministic' (their statements: YtnpkhoiblemodaaTotals.lean).
  GIVEN WITH THE SEED: the statements are not yours to turn. If you find one false, say at which input.
  Laid BY PROGRAM, IN A SANDBOX (cutbox-rows.mjs): the forced cells as the released guide's own fill.sh prints them over the translation 4917eca4956fd4c3… (all of the seat's roots in one cut). By AI agents, Wed Nov 11 2026. No macro, syntax, notation, axiom, sorry.
-/
import Derived.Test.YtnpkhoiblemodaaChecked
import GoSem.Claim
import GoSem.ClaimJoined
import GoSem.ClaimMapViews
import Derived.JoinedTies
import Derived.KernelRfl
namespace Go.Proofs.Ytnpkhoiblemodaa
/- THE CELL 'sum', in the pinned program and in every row, IS THE sha256 OF THE DUMP (.gsa) THAT YtnpkhoiblemodaaProg.lean LOADS. Nothing in Lean hashes anything: it is a label: what it is worth is what the hold of that sum in a sandbox is worth. -/
noncomputable def Try.pinned : Pinned := { name := "ytnpkhoiblemodaa", sum := "4917eca4956fd4c387f20dca9a1bf0275c7262f5c1cdc85a7cc214b30412c4dc", checked := Try.checked }
namespace Rows
def none {H : Type} : Left H := { results := [], args := [] }

/-- 'laws.FnExactCloseBlock': WHATEVER THE INPUT: true; the input reads as it did. -/
def fnExactCloseBlockSpec : ChangeSpec := { name := "fnExactCloseBlock", fn := fun _ => fun
  | [d1, d2] => { results := [.lit (.bool true)], args := [d1, d2] }
  | _ => none }
def fnExactCloseBlockRow : OpenClaim := { program := "ytnpkhoiblemodaa", sum := "4917eca4956fd4c387f20dca9a1bf0275c7262f5c1cdc85a7cc214b30412c4dc", func := "loop.example/g01336/laws.FnExactCloseBlock", spec := "fnExactCloseBlock", inPlace := ["slices.overlaps[loop.example/g01336/impl.Block]"], unfollowed := true, recurses := true, plainKeys := false, apart := false }
def FnExactCloseBlockSaid : Prop := fnExactCloseBlockRow.holds Try.pinned (OpenSpec.ofChange fnExactCloseBlockSpec)

/-- ITS FALSE NEIGHBOUR: 'it returns false'. Refute it at one input. -/
def fnExactCloseBlockWrong : ChangeSpec := { name := "fnExactCloseBlock", fn := fun _ => fun
  | [d1, d2] => { results := [.lit (.bool false)], args := [d1, d2] }
  | _ => none }
def FnExactCloseBlockWrongFalsely : Prop := fnExactCloseBlockRow.holds Try.pinned (OpenSpec.ofChange fnExactCloseBlockWrong)

/-- 'laws.FnExactOpenBlock': WHATEVER THE INPUT: true; the input reads as it did. -/
def fnExactOpenBlockSpec : ChangeSpec := { name := "fnExactOpenBlock", fn := fun _ => fun
  | [d1, d2] => { results := [.lit (.bool true)], args := [d1, d2] }
  | _ => none }
def fnExactOpenBlockRow : OpenClaim := { program := "ytnpkhoiblemodaa", sum := "4917eca4956fd4c387f20dca9a1bf0275c7262f5c1cdc85a7cc214b30412c4dc", func := "loop.example/g01336/laws.FnExactOpenBlock", spec := "fnExactOpenBlock", unfollowed := true, recurses := true, plainKeys := false, apart := false }
def FnExactOpenBlockSaid : Prop := fnExactOpenBlockRow.holds Try.pinned (OpenSpec.ofChange fnExactOpenBlockSpec)

/-- ITS FALSE NEIGHBOUR: 'it returns false'. Refute it at one input. -/
def fnExactOpenBlockWrong : ChangeSpec := { name := "fnExactOpenBlock", fn := fun _ => fun
  | [d1, d2] => { results := [.lit (.bool false)], args := [d1, d2] }
  | _ => none }
def FnExactOpenBlockWrongFalsely : Prop := fnExactOpenBlockRow.holds Try.pinned (OpenSpec.ofChange fnExactOpenBlockWrong)

/-- 'laws.FnExactNeededBlocks': WHATEVER THE INPUT: true; the input reads as it did. -/
def fnExactNeededBlocksSpec : ChangeSpec := { name := "fnExactNeededBlocks", fn := fun _ => fun
  | [d1, d2, d3] => { results := [.lit (.bool true)], args := [d1, d2, d3] }
  | _ => none }
def fnExactNeededBlocksRow : OpenClaim := { program := "ytnpkhoiblemodaa", sum := "4917eca4956fd4c387f20dca9a1bf0275c7262f5c1cdc85a7cc214b30412c4dc", func := "loop.example/g01336/laws.FnExactNeededBlocks", spec := "fnExactNeededBlocks", inPlace := ["slices.overlaps[loop.example/g01336/impl.Block]"], unfollowed := true, recurses := true, plainKeys := false, apart := false }
def FnExactNeededBlocksSaid : Prop := fnExactNeededBlocksRow.holds Try.pinned (OpenSpec.ofChange fnExactNeededBlocksSpec)

/-- ITS FALSE NEIGHBOUR: 'it returns false'. Refute it at one input. -/
def fnExactNeededBlocksWrong : ChangeSpec := { name := "fnExactNeededBlocks", fn := fun _ => fun
  | [d1, d2, d3] => { results := [.lit (.bool false)], args := [d1, d2, d3] }
  | _ => none }
def FnExactNeededBlocksWrongFalsely : Prop := fnExactNeededBlocksRow.holds Try.pinned (OpenSpec.ofChange fnExactNeededBlocksWrong)

/-- 'laws.FnExactMirrorCity': WHATEVER THE INPUT: true; the input reads as it did. -/
def fnExactMirrorCitySpec : ChangeSpec := { name := "fnExactMirrorCity", fn := fun _ => fun
  | [d] => { results := [.lit (.bool true)], args := [d] }
  | _ => none }
def fnExactMirrorCityRow : OpenClaim := { program := "ytnpkhoiblemodaa", sum := "4917eca4956fd4c387f20dca9a1bf0275c7262f5c1cdc85a7cc214b30412c4dc", func := "loop.example/g01336/laws.FnExactMirrorCity", spec := "fnExactMirrorCity", unfollowed := true, recurses := true, plainKeys := false, apart := false }
def FnExactMirrorCitySaid : Prop := fnExactMirrorCityRow.holds Try.pinned (OpenSpec.ofChange fnExactMirrorCitySpec)

/-- ITS FALSE NEIGHBOUR: 'it returns false'. Refute it at one input. -/
def fnExactMirrorCityWrong : ChangeSpec := { name := "fnExactMirrorCity", fn := fun _ => fun
  | [d] => { results := [.lit (.bool false)], args := [d] }
  | _ => none }
def FnExactMirrorCityWrongFalsely : Prop := fnExactMirrorCityRow.holds Try.pinned (OpenSpec.ofChange fnExactMirrorCityWrong)

/- THE SECOND FORM. 'bulk': how many values and letters a reading holds, each counted each time it is reached (what is shared counts as often as it is met; a slice's spare places count too). A statement '..UptoSaid' is the law's where the arguments, and the package variables that the reading takes, are together of bulk at most 1048576: NARROWER than '..Said'. Prove '..Said' where nothing that the law and all that it calls make is longer than what came in: it says more and counts as full. Else prove '..UptoSaid'. A law counts once. -/
mutual
def uptoBulk {H : Type} : DataW H → Nat
  | .lit (.string bytes) => bytes.length + 1
  | .lit _ => 1
  | .nil => 1
  | .ptr d => uptoBulk d + 1
  | .slice elems spare => uptoBulkAll elems + uptoBulkAll spare + 1
  | .agg parts => uptoBulkAll parts + 1
  | .iface _ d => uptoBulk d + 1
  | .map entries => uptoBulkEntries entries + 1
  | .held _ => 1
def uptoBulkAll {H : Type} : List (DataW H) → Nat
  | [] => 0
  | d :: r => uptoBulk d + uptoBulkAll r
def uptoBulkEntries {H : Type} : List (Lit × DataW H) → Nat
  | [] => 0
  | x :: r => uptoBulkEntry x + uptoBulkEntries r
def uptoBulkEntry {H : Type} : Lit × DataW H → Nat
  | (.string bytes, d) => bytes.length + uptoBulk d + 1
  | (_, d) => uptoBulk d + 1
 end
def uptoSmall : (H : Type) → List (DataW H) → Bool := fun _ ds => decide (uptoBulkAll ds ≤ 1048576)
def OpenSpec.upto (s : _root_.Go.ChangeSpec) : _root_.Go.OpenSpec := { _root_.Go.OpenSpec.ofChange s with cond := some uptoSmall }

/-- 'laws.FnExactCloseBlock', WHERE WHAT IT READS IS OF BULK AT MOST 1048576: true; the input reads as it did. -/
def fnExactCloseBlockUptoRow : OpenClaim := { program := "ytnpkhoiblemodaa", sum := "4917eca4956fd4c387f20dca9a1bf0275c7262f5c1cdc85a7cc214b30412c4dc", func := "loop.example/g01336/laws.FnExactCloseBlock", spec := "fnExactCloseBlock", inPlace := ["slices.overlaps[loop.example/g01336/impl.Block]"], unfollowed := true, recurses := true, plainKeys := false, apart := false, narrowed := true }
def FnExactCloseBlockUptoSaid : Prop := fnExactCloseBlockUptoRow.holds Try.pinned (OpenSpec.upto fnExactCloseBlockSpec)

/-- 'laws.FnExactOpenBlock', WHERE WHAT IT READS IS OF BULK AT MOST 1048576: true; the input reads as it did. -/
def fnExactOpenBlockUptoRow : OpenClaim := { program := "ytnpkhoiblemodaa", sum := "4917eca4956fd4c387f20dca9a1bf0275c7262f5c1cdc85a7cc214b30412c4dc", func := "loop.example/g01336/laws.FnExactOpenBlock", spec := "fnExactOpenBlock", unfollowed := true, recurses := true, plainKeys := false, apart := false, narrowed := true }
def FnExactOpenBlockUptoSaid : Prop := fnExactOpenBlockUptoRow.holds Try.pinned (OpenSpec.upto fnExactOpenBlockSpec)

/-- 'laws.FnExactNeededBlocks', WHERE WHAT IT READS IS OF BULK AT MOST 1048576: true; the input reads as it did. -/
def fnExactNeededBlocksUptoRow : OpenClaim := { program := "ytnpkhoiblemodaa", sum := "4917eca4956fd4c387f20dca9a1bf0275c7262f5c1cdc85a7cc214b30412c4dc", func := "loop.example/g01336/laws.FnExactNeededBlocks", spec := "fnExactNeededBlocks", inPlace := ["slices.overlaps[loop.example/g01336/impl.Block]"], unfollowed := true, recurses := true, plainKeys := false, apart := false, narrowed := true }
def FnExactNeededBlocksUptoSaid : Prop := fnExactNeededBlocksUptoRow.holds Try.pinned (OpenSpec.upto fnExactNeededBlocksSpec)

/-- 'laws.FnExactMirrorCity', WHERE WHAT IT READS IS OF BULK AT MOST 1048576: true; the input reads as it did. -/
def fnExactMirrorCityUptoRow : OpenClaim := { program := "ytnpkhoiblemodaa", sum := "4917eca4956fd4c387f20dca9a1bf0275c7262f5c1cdc85a7cc214b30412c4dc", func := "loop.example/g01336/laws.FnExactMirrorCity", spec := "fnExactMirrorCity", unfollowed := true, recurses := true, plainKeys := false, apart := false, narrowed := true }
def FnExactMirrorCityUptoSaid : Prop := fnExactMirrorCityUptoRow.holds Try.pinned (OpenSpec.upto fnExactMirrorCitySpec)

end Rows
end Go.Proofs.Ytnpkhoiblemodaa
