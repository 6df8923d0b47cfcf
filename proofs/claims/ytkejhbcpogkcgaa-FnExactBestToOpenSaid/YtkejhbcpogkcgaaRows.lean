/-
  No cell of these rows narrows 'for every input' (looked for: loops, veiled, ifaces, maps, wideKeys, modest, calm, conditions, laid).
  DERIVED. THE GIVEN ROWS OF THIS SEAT. 12 by the template 'for every input the law returns true; each argument reads behind the call as it read before'; 0 by the template 'total and deterministic' (their statements: YtkejhbcpogkcgaaTotals.lean).
  GIVEN WITH THE SEED: the statements are not yours to turn. If you find one false, say at which input.
  Laid BY PROGRAM, IN A SANDBOX (cutbox-rows.mjs): the forced cells as the released guide's own fill.sh prints them over the translation 1242347d2b8449ae… (all of the seat's roots in one cut). By AI agents, Wed Nov 11 2026. No macro, syntax, notation, axiom, sorry.
-/
import Derived.Test.YtkejhbcpogkcgaaChecked
import GoSem.Claim
import GoSem.ClaimJoined
import GoSem.ClaimMapViews
import Derived.JoinedTies
import Derived.KernelRfl
namespace Go.Proofs.Ytkejhbcpogkcgaa
/- THE CELL 'sum', in the pinned program and in every row, IS THE sha256 OF THE DUMP (.gsa) THAT YtkejhbcpogkcgaaProg.lean LOADS. Nothing in Lean hashes anything: it is a label: what it is worth is what the hold of that sum in a sandbox is worth. -/
noncomputable def Try.pinned : Pinned := { name := "ytkejhbcpogkcgaa", sum := "1242347d2b8449ae8353881aa4da6fc82c43a09196f0b56c538bab354b118073", checked := Try.checked }
namespace Rows
def none {H : Type} : Left H := { results := [], args := [] }

/-- 'laws.FnExactCornerDistance': WHATEVER THE INPUT: true; the input reads as it did. -/
def fnExactCornerDistanceSpec : ChangeSpec := { name := "fnExactCornerDistance", fn := fun _ => fun
  | [d1, d2, d3] => { results := [.lit (.bool true)], args := [d1, d2, d3] }
  | _ => none }
def fnExactCornerDistanceRow : OpenClaim := { program := "ytkejhbcpogkcgaa", sum := "1242347d2b8449ae8353881aa4da6fc82c43a09196f0b56c538bab354b118073", func := "loop.example/g01336/laws.FnExactCornerDistance", spec := "fnExactCornerDistance", unfollowed := true, recurses := true, plainKeys := false, apart := false }
def FnExactCornerDistanceSaid : Prop := fnExactCornerDistanceRow.holds Try.pinned (OpenSpec.ofChange fnExactCornerDistanceSpec)

/-- ITS FALSE NEIGHBOUR: 'it returns false'. Refute it at one input. -/
def fnExactCornerDistanceWrong : ChangeSpec := { name := "fnExactCornerDistance", fn := fun _ => fun
  | [d1, d2, d3] => { results := [.lit (.bool false)], args := [d1, d2, d3] }
  | _ => none }
def FnExactCornerDistanceWrongFalsely : Prop := fnExactCornerDistanceRow.holds Try.pinned (OpenSpec.ofChange fnExactCornerDistanceWrong)

/-- 'laws.FnExactDetourOf': WHATEVER THE INPUT: true; the input reads as it did. -/
def fnExactDetourOfSpec : ChangeSpec := { name := "fnExactDetourOf", fn := fun _ => fun
  | [d1, d2, d3] => { results := [.lit (.bool true)], args := [d1, d2, d3] }
  | _ => none }
def fnExactDetourOfRow : OpenClaim := { program := "ytkejhbcpogkcgaa", sum := "1242347d2b8449ae8353881aa4da6fc82c43a09196f0b56c538bab354b118073", func := "loop.example/g01336/laws.FnExactDetourOf", spec := "fnExactDetourOf", unfollowed := true, recurses := true, plainKeys := false, apart := false }
def FnExactDetourOfSaid : Prop := fnExactDetourOfRow.holds Try.pinned (OpenSpec.ofChange fnExactDetourOfSpec)

/-- ITS FALSE NEIGHBOUR: 'it returns false'. Refute it at one input. -/
def fnExactDetourOfWrong : ChangeSpec := { name := "fnExactDetourOf", fn := fun _ => fun
  | [d1, d2, d3] => { results := [.lit (.bool false)], args := [d1, d2, d3] }
  | _ => none }
def FnExactDetourOfWrongFalsely : Prop := fnExactDetourOfRow.holds Try.pinned (OpenSpec.ofChange fnExactDetourOfWrong)

/-- 'laws.FnExactCountShortestWays': WHATEVER THE INPUT: true; the input reads as it did. -/
def fnExactCountShortestWaysSpec : ChangeSpec := { name := "fnExactCountShortestWays", fn := fun _ => fun
  | [d1, d2, d3] => { results := [.lit (.bool true)], args := [d1, d2, d3] }
  | _ => none }
def fnExactCountShortestWaysRow : OpenClaim := { program := "ytkejhbcpogkcgaa", sum := "1242347d2b8449ae8353881aa4da6fc82c43a09196f0b56c538bab354b118073", func := "loop.example/g01336/laws.FnExactCountShortestWays", spec := "fnExactCountShortestWays", unfollowed := true, recurses := true, plainKeys := false, apart := false }
def FnExactCountShortestWaysSaid : Prop := fnExactCountShortestWaysRow.holds Try.pinned (OpenSpec.ofChange fnExactCountShortestWaysSpec)

/-- ITS FALSE NEIGHBOUR: 'it returns false'. Refute it at one input. -/
def fnExactCountShortestWaysWrong : ChangeSpec := { name := "fnExactCountShortestWays", fn := fun _ => fun
  | [d1, d2, d3] => { results := [.lit (.bool false)], args := [d1, d2, d3] }
  | _ => none }
def FnExactCountShortestWaysWrongFalsely : Prop := fnExactCountShortestWaysRow.holds Try.pinned (OpenSpec.ofChange fnExactCountShortestWaysWrong)

/-- 'laws.FnExactFirstShortestWay': WHATEVER THE INPUT: true; the input reads as it did. -/
def fnExactFirstShortestWaySpec : ChangeSpec := { name := "fnExactFirstShortestWay", fn := fun _ => fun
  | [d1, d2, d3] => { results := [.lit (.bool true)], args := [d1, d2, d3] }
  | _ => none }
def fnExactFirstShortestWayRow : OpenClaim := { program := "ytkejhbcpogkcgaa", sum := "1242347d2b8449ae8353881aa4da6fc82c43a09196f0b56c538bab354b118073", func := "loop.example/g01336/laws.FnExactFirstShortestWay", spec := "fnExactFirstShortestWay", unfollowed := true, recurses := true, plainKeys := false, apart := false }
def FnExactFirstShortestWaySaid : Prop := fnExactFirstShortestWayRow.holds Try.pinned (OpenSpec.ofChange fnExactFirstShortestWaySpec)

/-- ITS FALSE NEIGHBOUR: 'it returns false'. Refute it at one input. -/
def fnExactFirstShortestWayWrong : ChangeSpec := { name := "fnExactFirstShortestWay", fn := fun _ => fun
  | [d1, d2, d3] => { results := [.lit (.bool false)], args := [d1, d2, d3] }
  | _ => none }
def FnExactFirstShortestWayWrongFalsely : Prop := fnExactFirstShortestWayRow.holds Try.pinned (OpenSpec.ofChange fnExactFirstShortestWayWrong)

/-- 'laws.FnExactCornersReached': WHATEVER THE INPUT: true; the input reads as it did. -/
def fnExactCornersReachedSpec : ChangeSpec := { name := "fnExactCornersReached", fn := fun _ => fun
  | [d1, d2] => { results := [.lit (.bool true)], args := [d1, d2] }
  | _ => none }
def fnExactCornersReachedRow : OpenClaim := { program := "ytkejhbcpogkcgaa", sum := "1242347d2b8449ae8353881aa4da6fc82c43a09196f0b56c538bab354b118073", func := "loop.example/g01336/laws.FnExactCornersReached", spec := "fnExactCornersReached", unfollowed := true, recurses := true, plainKeys := false, apart := false }
def FnExactCornersReachedSaid : Prop := fnExactCornersReachedRow.holds Try.pinned (OpenSpec.ofChange fnExactCornersReachedSpec)

/-- ITS FALSE NEIGHBOUR: 'it returns false'. Refute it at one input. -/
def fnExactCornersReachedWrong : ChangeSpec := { name := "fnExactCornersReached", fn := fun _ => fun
  | [d1, d2] => { results := [.lit (.bool false)], args := [d1, d2] }
  | _ => none }
def FnExactCornersReachedWrongFalsely : Prop := fnExactCornersReachedRow.holds Try.pinned (OpenSpec.ofChange fnExactCornersReachedWrong)

/-- 'laws.FnExactIsWholeCity': WHATEVER THE INPUT: true; the input reads as it did. -/
def fnExactIsWholeCitySpec : ChangeSpec := { name := "fnExactIsWholeCity", fn := fun _ => fun
  | [d] => { results := [.lit (.bool true)], args := [d] }
  | _ => none }
def fnExactIsWholeCityRow : OpenClaim := { program := "ytkejhbcpogkcgaa", sum := "1242347d2b8449ae8353881aa4da6fc82c43a09196f0b56c538bab354b118073", func := "loop.example/g01336/laws.FnExactIsWholeCity", spec := "fnExactIsWholeCity", unfollowed := true, recurses := true, plainKeys := false, apart := false }
def FnExactIsWholeCitySaid : Prop := fnExactIsWholeCityRow.holds Try.pinned (OpenSpec.ofChange fnExactIsWholeCitySpec)

/-- ITS FALSE NEIGHBOUR: 'it returns false'. Refute it at one input. -/
def fnExactIsWholeCityWrong : ChangeSpec := { name := "fnExactIsWholeCity", fn := fun _ => fun
  | [d] => { results := [.lit (.bool false)], args := [d] }
  | _ => none }
def FnExactIsWholeCityWrongFalsely : Prop := fnExactIsWholeCityRow.holds Try.pinned (OpenSpec.ofChange fnExactIsWholeCityWrong)

/-- 'laws.FnExactFarthestCorner': WHATEVER THE INPUT: true; the input reads as it did. -/
def fnExactFarthestCornerSpec : ChangeSpec := { name := "fnExactFarthestCorner", fn := fun _ => fun
  | [d1, d2] => { results := [.lit (.bool true)], args := [d1, d2] }
  | _ => none }
def fnExactFarthestCornerRow : OpenClaim := { program := "ytkejhbcpogkcgaa", sum := "1242347d2b8449ae8353881aa4da6fc82c43a09196f0b56c538bab354b118073", func := "loop.example/g01336/laws.FnExactFarthestCorner", spec := "fnExactFarthestCorner", unfollowed := true, recurses := true, plainKeys := false, apart := false }
def FnExactFarthestCornerSaid : Prop := fnExactFarthestCornerRow.holds Try.pinned (OpenSpec.ofChange fnExactFarthestCornerSpec)

/-- ITS FALSE NEIGHBOUR: 'it returns false'. Refute it at one input. -/
def fnExactFarthestCornerWrong : ChangeSpec := { name := "fnExactFarthestCorner", fn := fun _ => fun
  | [d1, d2] => { results := [.lit (.bool false)], args := [d1, d2] }
  | _ => none }
def FnExactFarthestCornerWrongFalsely : Prop := fnExactFarthestCornerRow.holds Try.pinned (OpenSpec.ofChange fnExactFarthestCornerWrong)

/-- 'laws.FnExactBestToOpen': WHATEVER THE INPUT: true; the input reads as it did. -/
def fnExactBestToOpenSpec : ChangeSpec := { name := "fnExactBestToOpen", fn := fun _ => fun
  | [d1, d2, d3] => { results := [.lit (.bool true)], args := [d1, d2, d3] }
  | _ => none }
def fnExactBestToOpenRow : OpenClaim := { program := "ytkejhbcpogkcgaa", sum := "1242347d2b8449ae8353881aa4da6fc82c43a09196f0b56c538bab354b118073", func := "loop.example/g01336/laws.FnExactBestToOpen", spec := "fnExactBestToOpen", unfollowed := true, recurses := true, plainKeys := false, apart := false }
def FnExactBestToOpenSaid : Prop := fnExactBestToOpenRow.holds Try.pinned (OpenSpec.ofChange fnExactBestToOpenSpec)

/-- ITS FALSE NEIGHBOUR: 'it returns false'. Refute it at one input. -/
def fnExactBestToOpenWrong : ChangeSpec := { name := "fnExactBestToOpen", fn := fun _ => fun
  | [d1, d2, d3] => { results := [.lit (.bool false)], args := [d1, d2, d3] }
  | _ => none }
def FnExactBestToOpenWrongFalsely : Prop := fnExactBestToOpenRow.holds Try.pinned (OpenSpec.ofChange fnExactBestToOpenWrong)

/-- 'laws.FnExactNeededBlocks': WHATEVER THE INPUT: true; the input reads as it did. -/
def fnExactNeededBlocksSpec : ChangeSpec := { name := "fnExactNeededBlocks", fn := fun _ => fun
  | [d1, d2, d3] => { results := [.lit (.bool true)], args := [d1, d2, d3] }
  | _ => none }
def fnExactNeededBlocksRow : OpenClaim := { program := "ytkejhbcpogkcgaa", sum := "1242347d2b8449ae8353881aa4da6fc82c43a09196f0b56c538bab354b118073", func := "loop.example/g01336/laws.FnExactNeededBlocks", spec := "fnExactNeededBlocks", inPlace := ["slices.overlaps[loop.example/g01336/impl.Block]"], unfollowed := true, recurses := true, plainKeys := false, apart := false }
def FnExactNeededBlocksSaid : Prop := fnExactNeededBlocksRow.holds Try.pinned (OpenSpec.ofChange fnExactNeededBlocksSpec)

/-- ITS FALSE NEIGHBOUR: 'it returns false'. Refute it at one input. -/
def fnExactNeededBlocksWrong : ChangeSpec := { name := "fnExactNeededBlocks", fn := fun _ => fun
  | [d1, d2, d3] => { results := [.lit (.bool false)], args := [d1, d2, d3] }
  | _ => none }
def FnExactNeededBlocksWrongFalsely : Prop := fnExactNeededBlocksRow.holds Try.pinned (OpenSpec.ofChange fnExactNeededBlocksWrong)

/-- 'laws.FnExactBackWay': WHATEVER THE INPUT: true; the input reads as it did. -/
def fnExactBackWaySpec : ChangeSpec := { name := "fnExactBackWay", fn := fun _ => fun
  | [d] => { results := [.lit (.bool true)], args := [d] }
  | _ => none }
def fnExactBackWayRow : OpenClaim := { program := "ytkejhbcpogkcgaa", sum := "1242347d2b8449ae8353881aa4da6fc82c43a09196f0b56c538bab354b118073", func := "loop.example/g01336/laws.FnExactBackWay", spec := "fnExactBackWay", inPlace := ["internal/bytealg.IndexByteString", "internal/bytealg.IndexString"], named := ["internal/bytealg.MaxLen"], plainKeys := false, apart := false }
def FnExactBackWaySaid : Prop := fnExactBackWayRow.holds Try.pinned (OpenSpec.ofChange fnExactBackWaySpec)

/-- ITS FALSE NEIGHBOUR: 'it returns false'. Refute it at one input. -/
def fnExactBackWayWrong : ChangeSpec := { name := "fnExactBackWay", fn := fun _ => fun
  | [d] => { results := [.lit (.bool false)], args := [d] }
  | _ => none }
def FnExactBackWayWrongFalsely : Prop := fnExactBackWayRow.holds Try.pinned (OpenSpec.ofChange fnExactBackWayWrong)

/-- 'laws.FnExactWalkWord': WHATEVER THE INPUT: true; the input reads as it did. -/
def fnExactWalkWordSpec : ChangeSpec := { name := "fnExactWalkWord", fn := fun _ => fun
  | [d1, d2, d3] => { results := [.lit (.bool true)], args := [d1, d2, d3] }
  | _ => none }
def fnExactWalkWordRow : OpenClaim := { program := "ytkejhbcpogkcgaa", sum := "1242347d2b8449ae8353881aa4da6fc82c43a09196f0b56c538bab354b118073", func := "loop.example/g01336/laws.FnExactWalkWord", spec := "fnExactWalkWord", unfollowed := true, recurses := true, plainKeys := false, apart := false }
def FnExactWalkWordSaid : Prop := fnExactWalkWordRow.holds Try.pinned (OpenSpec.ofChange fnExactWalkWordSpec)

/-- ITS FALSE NEIGHBOUR: 'it returns false'. Refute it at one input. -/
def fnExactWalkWordWrong : ChangeSpec := { name := "fnExactWalkWord", fn := fun _ => fun
  | [d1, d2, d3] => { results := [.lit (.bool false)], args := [d1, d2, d3] }
  | _ => none }
def FnExactWalkWordWrongFalsely : Prop := fnExactWalkWordRow.holds Try.pinned (OpenSpec.ofChange fnExactWalkWordWrong)

/-- 'laws.FnExactCloseBlock': WHATEVER THE INPUT: true; the input reads as it did. -/
def fnExactCloseBlockSpec : ChangeSpec := { name := "fnExactCloseBlock", fn := fun _ => fun
  | [d1, d2] => { results := [.lit (.bool true)], args := [d1, d2] }
  | _ => none }
def fnExactCloseBlockRow : OpenClaim := { program := "ytkejhbcpogkcgaa", sum := "1242347d2b8449ae8353881aa4da6fc82c43a09196f0b56c538bab354b118073", func := "loop.example/g01336/laws.FnExactCloseBlock", spec := "fnExactCloseBlock", inPlace := ["slices.overlaps[loop.example/g01336/impl.Block]"], unfollowed := true, recurses := true, plainKeys := false, apart := false }
def FnExactCloseBlockSaid : Prop := fnExactCloseBlockRow.holds Try.pinned (OpenSpec.ofChange fnExactCloseBlockSpec)

/-- ITS FALSE NEIGHBOUR: 'it returns false'. Refute it at one input. -/
def fnExactCloseBlockWrong : ChangeSpec := { name := "fnExactCloseBlock", fn := fun _ => fun
  | [d1, d2] => { results := [.lit (.bool false)], args := [d1, d2] }
  | _ => none }
def FnExactCloseBlockWrongFalsely : Prop := fnExactCloseBlockRow.holds Try.pinned (OpenSpec.ofChange fnExactCloseBlockWrong)

/- THE SECOND FORM. 'bulk': how many values and letters a reading holds, each counted each time it is reached (what is shared counts as often as it is met; a slice's spare places count too). A statement '..UptoSaid' is the law's where the arguments, and the package variables that the reading takes, are together of bulk at most 1048576: NARROWER than '..Said'. Prove '..Said' where nothing that the law and all that it calls make is longer than what came in: it says more and counts as full. Else prove '..UptoSaid'. A law counts once. -/
mutual
def uptoBulk {H : Type} : DataW H → Nat
  | .lit (.string bytes) => bytes.length + 1
  | .lit _ => 1
  | .nil => 1
  | .ptr d => uptoBulk d + 1
  | .slice elems spare => uptoBulkAll elems + uptoBulkAll spare + 1
  | .agg parts => uptoBulkAll parts + 1
  | .iface _ d => uptoBulk d + 1
  | .map entries => uptoBulkEntries entries + 1
  | .held _ => 1
def uptoBulkAll {H : Type} : List (DataW H) → Nat
  | [] => 0
  | d :: r => uptoBulk d + uptoBulkAll r
def uptoBulkEntries {H : Type} : List (Lit × DataW H) → Nat
  | [] => 0
  | x :: r => uptoBulkEntry x + uptoBulkEntries r
def uptoBulkEntry {H : Type} : Lit × DataW H → Nat
  | (.string bytes, d) => bytes.length + uptoBulk d + 1
  | (_, d) => uptoBulk d + 1
 end
def uptoSmall : (H : Type) → List (DataW H) → Bool := fun _ ds => decide (uptoBulkAll ds ≤ 1048576)
def OpenSpec.upto (s : _root_.Go.ChangeSpec) : _root_.Go.OpenSpec := { _root_.Go.OpenSpec.ofChange s with cond := some uptoSmall }

/-- 'laws.FnExactCornerDistance', WHERE WHAT IT READS IS OF BULK AT MOST 1048576: true; the input reads as it did. -/
def fnExactCornerDistanceUptoRow : OpenClaim := { program := "ytkejhbcpogkcgaa", sum := "1242347d2b8449ae8353881aa4da6fc82c43a09196f0b56c538bab354b118073", func := "loop.example/g01336/laws.FnExactCornerDistance", spec := "fnExactCornerDistance", unfollowed := true, recurses := true, plainKeys := false, apart := false, narrowed := true }
def FnExactCornerDistanceUptoSaid : Prop := fnExactCornerDistanceUptoRow.holds Try.pinned (OpenSpec.upto fnExactCornerDistanceSpec)

/-- 'laws.FnExactDetourOf', WHERE WHAT IT READS IS OF BULK AT MOST 1048576: true; the input reads as it did. -/
def fnExactDetourOfUptoRow : OpenClaim := { program := "ytkejhbcpogkcgaa", sum := "1242347d2b8449ae8353881aa4da6fc82c43a09196f0b56c538bab354b118073", func := "loop.example/g01336/laws.FnExactDetourOf", spec := "fnExactDetourOf", unfollowed := true, recurses := true, plainKeys := false, apart := false, narrowed := true }
def FnExactDetourOfUptoSaid : Prop := fnExactDetourOfUptoRow.holds Try.pinned (OpenSpec.upto fnExactDetourOfSpec)

/-- 'laws.FnExactCountShortestWays', WHERE WHAT IT READS IS OF BULK AT MOST 1048576: true; the input reads as it did. -/
def fnExactCountShortestWaysUptoRow : OpenClaim := { program := "ytkejhbcpogkcgaa", sum := "1242347d2b8449ae8353881aa4da6fc82c43a09196f0b56c538bab354b118073", func := "loop.example/g01336/laws.FnExactCountShortestWays", spec := "fnExactCountShortestWays", unfollowed := true, recurses := true, plainKeys := false, apart := false, narrowed := true }
def FnExactCountShortestWaysUptoSaid : Prop := fnExactCountShortestWaysUptoRow.holds Try.pinned (OpenSpec.upto fnExactCountShortestWaysSpec)

/-- 'laws.FnExactFirstShortestWay', WHERE WHAT IT READS IS OF BULK AT MOST 1048576: true; the input reads as it did. -/
def fnExactFirstShortestWayUptoRow : OpenClaim := { program := "ytkejhbcpogkcgaa", sum := "1242347d2b8449ae8353881aa4da6fc82c43a09196f0b56c538bab354b118073", func := "loop.example/g01336/laws.FnExactFirstShortestWay", spec := "fnExactFirstShortestWay", unfollowed := true, recurses := true, plainKeys := false, apart := false, narrowed := true }
def FnExactFirstShortestWayUptoSaid : Prop := fnExactFirstShortestWayUptoRow.holds Try.pinned (OpenSpec.upto fnExactFirstShortestWaySpec)

/-- 'laws.FnExactCornersReached', WHERE WHAT IT READS IS OF BULK AT MOST 1048576: true; the input reads as it did. -/
def fnExactCornersReachedUptoRow : OpenClaim := { program := "ytkejhbcpogkcgaa", sum := "1242347d2b8449ae8353881aa4da6fc82c43a09196f0b56c538bab354b118073", func := "loop.example/g01336/laws.FnExactCornersReached", spec := "fnExactCornersReached", unfollowed := true, recurses := true, plainKeys := false, apart := false, narrowed := true }
def FnExactCornersReachedUptoSaid : Prop := fnExactCornersReachedUptoRow.holds Try.pinned (OpenSpec.upto fnExactCornersReachedSpec)

/-- 'laws.FnExactIsWholeCity', WHERE WHAT IT READS IS OF BULK AT MOST 1048576: true; the input reads as it did. -/
def fnExactIsWholeCityUptoRow : OpenClaim := { program := "ytkejhbcpogkcgaa", sum := "1242347d2b8449ae8353881aa4da6fc82c43a09196f0b56c538bab354b118073", func := "loop.example/g01336/laws.FnExactIsWholeCity", spec := "fnExactIsWholeCity", unfollowed := true, recurses := true, plainKeys := false, apart := false, narrowed := true }
def FnExactIsWholeCityUptoSaid : Prop := fnExactIsWholeCityUptoRow.holds Try.pinned (OpenSpec.upto fnExactIsWholeCitySpec)

/-- 'laws.FnExactFarthestCorner', WHERE WHAT IT READS IS OF BULK AT MOST 1048576: true; the input reads as it did. -/
def fnExactFarthestCornerUptoRow : OpenClaim := { program := "ytkejhbcpogkcgaa", sum := "1242347d2b8449ae8353881aa4da6fc82c43a09196f0b56c538bab354b118073", func := "loop.example/g01336/laws.FnExactFarthestCorner", spec := "fnExactFarthestCorner", unfollowed := true, recurses := true, plainKeys := false, apart := false, narrowed := true }
def FnExactFarthestCornerUptoSaid : Prop := fnExactFarthestCornerUptoRow.holds Try.pinned (OpenSpec.upto fnExactFarthestCornerSpec)

/-- 'laws.FnExactBestToOpen', WHERE WHAT IT READS IS OF BULK AT MOST 1048576: true; the input reads as it did. -/
def fnExactBestToOpenUptoRow : OpenClaim := { program := "ytkejhbcpogkcgaa", sum := "1242347d2b8449ae8353881aa4da6fc82c43a09196f0b56c538bab354b118073", func := "loop.example/g01336/laws.FnExactBestToOpen", spec := "fnExactBestToOpen", unfollowed := true, recurses := true, plainKeys := false, apart := false, narrowed := true }
def FnExactBestToOpenUptoSaid : Prop := fnExactBestToOpenUptoRow.holds Try.pinned (OpenSpec.upto fnExactBestToOpenSpec)

/-- 'laws.FnExactNeededBlocks', WHERE WHAT IT READS IS OF BULK AT MOST 1048576: true; the input reads as it did. -/
def fnExactNeededBlocksUptoRow : OpenClaim := { program := "ytkejhbcpogkcgaa", sum := "1242347d2b8449ae8353881aa4da6fc82c43a09196f0b56c538bab354b118073", func := "loop.example/g01336/laws.FnExactNeededBlocks", spec := "fnExactNeededBlocks", inPlace := ["slices.overlaps[loop.example/g01336/impl.Block]"], unfollowed := true, recurses := true, plainKeys := false, apart := false, narrowed := true }
def FnExactNeededBlocksUptoSaid : Prop := fnExactNeededBlocksUptoRow.holds Try.pinned (OpenSpec.upto fnExactNeededBlocksSpec)

/-- 'laws.FnExactBackWay', WHERE WHAT IT READS IS OF BULK AT MOST 1048576: true; the input reads as it did. -/
def fnExactBackWayUptoRow : OpenClaim := { program := "ytkejhbcpogkcgaa", sum := "1242347d2b8449ae8353881aa4da6fc82c43a09196f0b56c538bab354b118073", func := "loop.example/g01336/laws.FnExactBackWay", spec := "fnExactBackWay", inPlace := ["internal/bytealg.IndexByteString", "internal/bytealg.IndexString"], named := ["internal/bytealg.MaxLen"], plainKeys := false, apart := false, narrowed := true }
def FnExactBackWayUptoSaid : Prop := fnExactBackWayUptoRow.holds Try.pinned (OpenSpec.upto fnExactBackWaySpec)

/-- 'laws.FnExactWalkWord', WHERE WHAT IT READS IS OF BULK AT MOST 1048576: true; the input reads as it did. -/
def fnExactWalkWordUptoRow : OpenClaim := { program := "ytkejhbcpogkcgaa", sum := "1242347d2b8449ae8353881aa4da6fc82c43a09196f0b56c538bab354b118073", func := "loop.example/g01336/laws.FnExactWalkWord", spec := "fnExactWalkWord", unfollowed := true, recurses := true, plainKeys := false, apart := false, narrowed := true }
def FnExactWalkWordUptoSaid : Prop := fnExactWalkWordUptoRow.holds Try.pinned (OpenSpec.upto fnExactWalkWordSpec)

/-- 'laws.FnExactCloseBlock', WHERE WHAT IT READS IS OF BULK AT MOST 1048576: true; the input reads as it did. -/
def fnExactCloseBlockUptoRow : OpenClaim := { program := "ytkejhbcpogkcgaa", sum := "1242347d2b8449ae8353881aa4da6fc82c43a09196f0b56c538bab354b118073", func := "loop.example/g01336/laws.FnExactCloseBlock", spec := "fnExactCloseBlock", inPlace := ["slices.overlaps[loop.example/g01336/impl.Block]"], unfollowed := true, recurses := true, plainKeys := false, apart := false, narrowed := true }
def FnExactCloseBlockUptoSaid : Prop := fnExactCloseBlockUptoRow.holds Try.pinned (OpenSpec.upto fnExactCloseBlockSpec)

end Rows
end Go.Proofs.Ytkejhbcpogkcgaa
