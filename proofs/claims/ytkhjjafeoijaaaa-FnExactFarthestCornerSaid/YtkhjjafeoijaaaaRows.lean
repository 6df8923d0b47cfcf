/-
  No cell of these rows narrows 'for every input' (looked for: loops, veiled, ifaces, maps, wideKeys, modest, calm, conditions, laid).
  DERIVED. THE GIVEN ROWS OF THIS SEAT. 7 by the template 'for every input the law returns true; each argument reads behind the call as it read before'; 0 by the template 'total and deterministic' (their statements: YtkhjjafeoijaaaaTotals.lean).
  GIVEN WITH THE SEED: the statements are not yours to turn. If you find one false, say at which input.
  Laid BY PROGRAM, IN A SANDBOX (cutbox-rows.mjs): the forced cells as the released guide's own fill.sh prints them over the translation 0f350c3914fae380… (all of the seat's roots in one cut). By AI agents, Wed Nov 11 2026. No macro, syntax, notation, axiom, sorry.
-/
import Derived.Test.YtkhjjafeoijaaaaChecked
import GoSem.Claim
import GoSem.ClaimJoined
import GoSem.ClaimMapViews
import Derived.JoinedTies
import Derived.KernelRfl
namespace Go.Proofs.Ytkhjjafeoijaaaa
/- THE CELL 'sum', in the pinned program and in every row, IS THE sha256 OF THE DUMP (.gsa) THAT YtkhjjafeoijaaaaProg.lean LOADS. Nothing in Lean hashes anything: it is a label: what it is worth is what the hold of that sum in a sandbox is worth. -/
noncomputable def Try.pinned : Pinned := { name := "ytkhjjafeoijaaaa", sum := "0f350c3914fae3801e0645997c2b7fdc29456a6d5b54f90a2b2be158dd74fc1d", checked := Try.checked }
namespace Rows
def none {H : Type} : Left H := { results := [], args := [] }

/-- 'laws.FnExactBoxesSum': WHATEVER THE INPUT: true; the input reads as it did. -/
def fnExactBoxesSumSpec : ChangeSpec := { name := "fnExactBoxesSum", fn := fun _ => fun
  | [d1, d2] => { results := [.lit (.bool true)], args := [d1, d2] }
  | _ => none }
def fnExactBoxesSumRow : OpenClaim := { program := "ytkhjjafeoijaaaa", sum := "0f350c3914fae3801e0645997c2b7fdc29456a6d5b54f90a2b2be158dd74fc1d", func := "loop.example/g01336/laws.FnExactBoxesSum", spec := "fnExactBoxesSum", unfollowed := true, recurses := true, plainKeys := false, apart := false }
def FnExactBoxesSumSaid : Prop := fnExactBoxesSumRow.holds Try.pinned (OpenSpec.ofChange fnExactBoxesSumSpec)

/-- ITS FALSE NEIGHBOUR: 'it returns false'. Refute it at one input. -/
def fnExactBoxesSumWrong : ChangeSpec := { name := "fnExactBoxesSum", fn := fun _ => fun
  | [d1, d2] => { results := [.lit (.bool false)], args := [d1, d2] }
  | _ => none }
def FnExactBoxesSumWrongFalsely : Prop := fnExactBoxesSumRow.holds Try.pinned (OpenSpec.ofChange fnExactBoxesSumWrong)

/-- 'laws.FnExactBoxOfEach': WHATEVER THE INPUT: true; the input reads as it did. -/
def fnExactBoxOfEachSpec : ChangeSpec := { name := "fnExactBoxOfEach", fn := fun _ => fun
  | [d1, d2] => { results := [.lit (.bool true)], args := [d1, d2] }
  | _ => none }
def fnExactBoxOfEachRow : OpenClaim := { program := "ytkhjjafeoijaaaa", sum := "0f350c3914fae3801e0645997c2b7fdc29456a6d5b54f90a2b2be158dd74fc1d", func := "loop.example/g01336/laws.FnExactBoxOfEach", spec := "fnExactBoxOfEach", unfollowed := true, recurses := true, plainKeys := false, apart := false }
def FnExactBoxOfEachSaid : Prop := fnExactBoxOfEachRow.holds Try.pinned (OpenSpec.ofChange fnExactBoxOfEachSpec)

/-- ITS FALSE NEIGHBOUR: 'it returns false'. Refute it at one input. -/
def fnExactBoxOfEachWrong : ChangeSpec := { name := "fnExactBoxOfEach", fn := fun _ => fun
  | [d1, d2] => { results := [.lit (.bool false)], args := [d1, d2] }
  | _ => none }
def FnExactBoxOfEachWrongFalsely : Prop := fnExactBoxOfEachRow.holds Try.pinned (OpenSpec.ofChange fnExactBoxOfEachWrong)

/-- 'laws.FnExactWalksTo': WHATEVER THE INPUT: true; the input reads as it did. -/
def fnExactWalksToSpec : ChangeSpec := { name := "fnExactWalksTo", fn := fun _ => fun
  | [d1, d2] => { results := [.lit (.bool true)], args := [d1, d2] }
  | _ => none }
def fnExactWalksToRow : OpenClaim := { program := "ytkhjjafeoijaaaa", sum := "0f350c3914fae3801e0645997c2b7fdc29456a6d5b54f90a2b2be158dd74fc1d", func := "loop.example/g01336/laws.FnExactWalksTo", spec := "fnExactWalksTo", unfollowed := true, recurses := true, plainKeys := false, apart := false }
def FnExactWalksToSaid : Prop := fnExactWalksToRow.holds Try.pinned (OpenSpec.ofChange fnExactWalksToSpec)

/-- ITS FALSE NEIGHBOUR: 'it returns false'. Refute it at one input. -/
def fnExactWalksToWrong : ChangeSpec := { name := "fnExactWalksTo", fn := fun _ => fun
  | [d1, d2] => { results := [.lit (.bool false)], args := [d1, d2] }
  | _ => none }
def FnExactWalksToWrongFalsely : Prop := fnExactWalksToRow.holds Try.pinned (OpenSpec.ofChange fnExactWalksToWrong)

/-- 'laws.FnExactBestHouses': WHATEVER THE INPUT: true; the input reads as it did. -/
def fnExactBestHousesSpec : ChangeSpec := { name := "fnExactBestHouses", fn := fun _ => fun
  | [d] => { results := [.lit (.bool true)], args := [d] }
  | _ => none }
def fnExactBestHousesRow : OpenClaim := { program := "ytkhjjafeoijaaaa", sum := "0f350c3914fae3801e0645997c2b7fdc29456a6d5b54f90a2b2be158dd74fc1d", func := "loop.example/g01336/laws.FnExactBestHouses", spec := "fnExactBestHouses", unfollowed := true, recurses := true, plainKeys := false, apart := false }
def FnExactBestHousesSaid : Prop := fnExactBestHousesRow.holds Try.pinned (OpenSpec.ofChange fnExactBestHousesSpec)

/-- ITS FALSE NEIGHBOUR: 'it returns false'. Refute it at one input. -/
def fnExactBestHousesWrong : ChangeSpec := { name := "fnExactBestHouses", fn := fun _ => fun
  | [d] => { results := [.lit (.bool false)], args := [d] }
  | _ => none }
def FnExactBestHousesWrongFalsely : Prop := fnExactBestHousesRow.holds Try.pinned (OpenSpec.ofChange fnExactBestHousesWrong)

/-- 'laws.FnExactOpenBlock': WHATEVER THE INPUT: true; the input reads as it did. -/
def fnExactOpenBlockSpec : ChangeSpec := { name := "fnExactOpenBlock", fn := fun _ => fun
  | [d1, d2] => { results := [.lit (.bool true)], args := [d1, d2] }
  | _ => none }
def fnExactOpenBlockRow : OpenClaim := { program := "ytkhjjafeoijaaaa", sum := "0f350c3914fae3801e0645997c2b7fdc29456a6d5b54f90a2b2be158dd74fc1d", func := "loop.example/g01336/laws.FnExactOpenBlock", spec := "fnExactOpenBlock", unfollowed := true, recurses := true, plainKeys := false, apart := false }
def FnExactOpenBlockSaid : Prop := fnExactOpenBlockRow.holds Try.pinned (OpenSpec.ofChange fnExactOpenBlockSpec)

/-- ITS FALSE NEIGHBOUR: 'it returns false'. Refute it at one input. -/
def fnExactOpenBlockWrong : ChangeSpec := { name := "fnExactOpenBlock", fn := fun _ => fun
  | [d1, d2] => { results := [.lit (.bool false)], args := [d1, d2] }
  | _ => none }
def FnExactOpenBlockWrongFalsely : Prop := fnExactOpenBlockRow.holds Try.pinned (OpenSpec.ofChange fnExactOpenBlockWrong)

/-- 'laws.FnExactCloseBlock': WHATEVER THE INPUT: true; the input reads as it did. -/
def fnExactCloseBlockSpec : ChangeSpec := { name := "fnExactCloseBlock", fn := fun _ => fun
  | [d1, d2] => { results := [.lit (.bool true)], args := [d1, d2] }
  | _ => none }
def fnExactCloseBlockRow : OpenClaim := { program := "ytkhjjafeoijaaaa", sum := "0f350c3914fae3801e0645997c2b7fdc29456a6d5b54f90a2b2be158dd74fc1d", func := "loop.example/g01336/laws.FnExactCloseBlock", spec := "fnExactCloseBlock", inPlace := ["slices.overlaps[loop.example/g01336/impl.Block]"], unfollowed := true, recurses := true, plainKeys := false, apart := false }
def FnExactCloseBlockSaid : Prop := fnExactCloseBlockRow.holds Try.pinned (OpenSpec.ofChange fnExactCloseBlockSpec)

/-- ITS FALSE NEIGHBOUR: 'it returns false'. Refute it at one input. -/
def fnExactCloseBlockWrong : ChangeSpec := { name := "fnExactCloseBlock", fn := fun _ => fun
  | [d1, d2] => { results := [.lit (.bool false)], args := [d1, d2] }
  | _ => none }
def FnExactCloseBlockWrongFalsely : Prop := fnExactCloseBlockRow.holds Try.pinned (OpenSpec.ofChange fnExactCloseBlockWrong)

/-- 'laws.FnExactFarthestCorner': WHATEVER THE INPUT: true; the input reads as it did. -/
def fnExactFarthestCornerSpec : ChangeSpec := { name := "fnExactFarthestCorner", fn := fun _ => fun
  | [d1, d2] => { results := [.lit (.bool true)], args := [d1, d2] }
  | _ => none }
def fnExactFarthestCornerRow : OpenClaim := { program := "ytkhjjafeoijaaaa", sum := "0f350c3914fae3801e0645997c2b7fdc29456a6d5b54f90a2b2be158dd74fc1d", func := "loop.example/g01336/laws.FnExactFarthestCorner", spec := "fnExactFarthestCorner", unfollowed := true, recurses := true, plainKeys := false, apart := false }
def FnExactFarthestCornerSaid : Prop := fnExactFarthestCornerRow.holds Try.pinned (OpenSpec.ofChange fnExactFarthestCornerSpec)

/-- ITS FALSE NEIGHBOUR: 'it returns false'. Refute it at one input. -/
def fnExactFarthestCornerWrong : ChangeSpec := { name := "fnExactFarthestCorner", fn := fun _ => fun
  | [d1, d2] => { results := [.lit (.bool false)], args := [d1, d2] }
  | _ => none }
def FnExactFarthestCornerWrongFalsely : Prop := fnExactFarthestCornerRow.holds Try.pinned (OpenSpec.ofChange fnExactFarthestCornerWrong)

/- THE SECOND FORM. 'bulk': how many values and letters a reading holds, each counted each time it is reached (what is shared counts as often as it is met; a slice's spare places count too). A statement '..UptoSaid' is the law's where the arguments, and the package variables that the reading takes, are together of bulk at most 1048576: NARROWER than '..Said'. Prove '..Said' where nothing that the law and all that it calls make is longer than what came in: it says more and counts as full. Else prove '..UptoSaid'. A law counts once. -/
mutual
def uptoBulk {H : Type} : DataW H → Nat
  | .lit (.string bytes) => bytes.length + 1
  | .lit _ => 1
  | .nil => 1
  | .ptr d => uptoBulk d + 1
  | .slice elems spare => uptoBulkAll elems + uptoBulkAll spare + 1
  | .agg parts => uptoBulkAll parts + 1
  | .iface _ d => uptoBulk d + 1
  | .map entries => uptoBulkEntries entries + 1
  | .held _ => 1
def uptoBulkAll {H : Type} : List (DataW H) → Nat
  | [] => 0
  | d :: r => uptoBulk d + uptoBulkAll r
def uptoBulkEntries {H : Type} : List (Lit × DataW H) → Nat
  | [] => 0
  | x :: r => uptoBulkEntry x + uptoBulkEntries r
def uptoBulkEntry {H : Type} : Lit × DataW H → Nat
  | (.string bytes, d) => bytes.length + uptoBulk d + 1
  | (_, d) => uptoBulk d + 1
 end
def uptoSmall : (H : Type) → List (DataW H) → Bool := fun _ ds => decide (uptoBulkAll ds ≤ 1048576)
def OpenSpec.upto (s : _root_.Go.ChangeSpec) : _root_.Go.OpenSpec := { _root_.Go.OpenSpec.ofChange s with cond := some uptoSmall }

/-- 'laws.FnExactBoxesSum', WHERE WHAT IT READS IS OF BULK AT MOST 1048576: true; the input reads as it did. -/
def fnExactBoxesSumUptoRow : OpenClaim := { program := "ytkhjjafeoijaaaa", sum := "0f350c3914fae3801e0645997c2b7fdc29456a6d5b54f90a2b2be158dd74fc1d", func := "loop.example/g01336/laws.FnExactBoxesSum", spec := "fnExactBoxesSum", unfollowed := true, recurses := true, plainKeys := false, apart := false, narrowed := true }
def FnExactBoxesSumUptoSaid : Prop := fnExactBoxesSumUptoRow.holds Try.pinned (OpenSpec.upto fnExactBoxesSumSpec)

/-- 'laws.FnExactBoxOfEach', WHERE WHAT IT READS IS OF BULK AT MOST 1048576: true; the input reads as it did. -/
def fnExactBoxOfEachUptoRow : OpenClaim := { program := "ytkhjjafeoijaaaa", sum := "0f350c3914fae3801e0645997c2b7fdc29456a6d5b54f90a2b2be158dd74fc1d", func := "loop.example/g01336/laws.FnExactBoxOfEach", spec := "fnExactBoxOfEach", unfollowed := true, recurses := true, plainKeys := false, apart := false, narrowed := true }
def FnExactBoxOfEachUptoSaid : Prop := fnExactBoxOfEachUptoRow.holds Try.pinned (OpenSpec.upto fnExactBoxOfEachSpec)

/-- 'laws.FnExactWalksTo', WHERE WHAT IT READS IS OF BULK AT MOST 1048576: true; the input reads as it did. -/
def fnExactWalksToUptoRow : OpenClaim := { program := "ytkhjjafeoijaaaa", sum := "0f350c3914fae3801e0645997c2b7fdc29456a6d5b54f90a2b2be158dd74fc1d", func := "loop.example/g01336/laws.FnExactWalksTo", spec := "fnExactWalksTo", unfollowed := true, recurses := true, plainKeys := false, apart := false, narrowed := true }
def FnExactWalksToUptoSaid : Prop := fnExactWalksToUptoRow.holds Try.pinned (OpenSpec.upto fnExactWalksToSpec)

/-- 'laws.FnExactBestHouses', WHERE WHAT IT READS IS OF BULK AT MOST 1048576: true; the input reads as it did. -/
def fnExactBestHousesUptoRow : OpenClaim := { program := "ytkhjjafeoijaaaa", sum := "0f350c3914fae3801e0645997c2b7fdc29456a6d5b54f90a2b2be158dd74fc1d", func := "loop.example/g01336/laws.FnExactBestHouses", spec := "fnExactBestHouses", unfollowed := true, recurses := true, plainKeys := false, apart := false, narrowed := true }
def FnExactBestHousesUptoSaid : Prop := fnExactBestHousesUptoRow.holds Try.pinned (OpenSpec.upto fnExactBestHousesSpec)

/-- 'laws.FnExactOpenBlock', WHERE WHAT IT READS IS OF BULK AT MOST 1048576: true; the input reads as it did. -/
def fnExactOpenBlockUptoRow : OpenClaim := { program := "ytkhjjafeoijaaaa", sum := "0f350c3914fae3801e0645997c2b7fdc29456a6d5b54f90a2b2be158dd74fc1d", func := "loop.example/g01336/laws.FnExactOpenBlock", spec := "fnExactOpenBlock", unfollowed := true, recurses := true, plainKeys := false, apart := false, narrowed := true }
def FnExactOpenBlockUptoSaid : Prop := fnExactOpenBlockUptoRow.holds Try.pinned (OpenSpec.upto fnExactOpenBlockSpec)

/-- 'laws.FnExactCloseBlock', WHERE WHAT IT READS IS OF BULK AT MOST 1048576: true; the input reads as it did. -/
def fnExactCloseBlockUptoRow : OpenClaim := { program := "ytkhjjafeoijaaaa", sum := "0f350c3914fae3801e0645997c2b7fdc29456a6d5b54f90a2b2be158dd74fc1d", func := "loop.example/g01336/laws.FnExactCloseBlock", spec := "fnExactCloseBlock", inPlace := ["slices.overlaps[loop.example/g01336/impl.Block]"], unfollowed := true, recurses := true, plainKeys := false, apart := false, narrowed := true }
def FnExactCloseBlockUptoSaid : Prop := fnExactCloseBlockUptoRow.holds Try.pinned (OpenSpec.upto fnExactCloseBlockSpec)

/-- 'laws.FnExactFarthestCorner', WHERE WHAT IT READS IS OF BULK AT MOST 1048576: true; the input reads as it did. -/
def fnExactFarthestCornerUptoRow : OpenClaim := { program := "ytkhjjafeoijaaaa", sum := "0f350c3914fae3801e0645997c2b7fdc29456a6d5b54f90a2b2be158dd74fc1d", func := "loop.example/g01336/laws.FnExactFarthestCorner", spec := "fnExactFarthestCorner", unfollowed := true, recurses := true, plainKeys := false, apart := false, narrowed := true }
def FnExactFarthestCornerUptoSaid : Prop := fnExactFarthestCornerUptoRow.holds Try.pinned (OpenSpec.upto fnExactFarthestCornerSpec)

end Rows
end Go.Proofs.Ytkhjjafeoijaaaa
