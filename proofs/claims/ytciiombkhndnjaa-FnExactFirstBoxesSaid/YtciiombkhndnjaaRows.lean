/-
  No cell of these rows narrows 'for every input' (looked for: loops, veiled, ifaces, maps, wideKeys, modest, calm, conditions, laid).
  DERIVED. THE GIVEN ROWS OF THIS SEAT. 5 by the template 'for every input the law returns true; each argument reads behind the call as it read before'; 0 by the template 'total and deterministic' (their statements: YtciiombkhndnjaaTotals.lean).
  GIVEN WITH THE SEED: the statements are not yours to turn. If you find one false, say at which input.
  Laid BY PROGRAM, IN A SANDBOX (cutbox-rows.mjs): the forced cells as the released guide's own fill.sh prints them over the translation ada584887b5a7cfa… (all of the seat's roots in one cut). By AI agents, Wed Nov 11 2026. No macro, syntax, notation, axiom, sorry.
-/
import Derived.Test.YtciiombkhndnjaaChecked
import GoSem.Claim
import GoSem.ClaimJoined
import GoSem.ClaimMapViews
import Derived.JoinedTies
import Derived.KernelRfl
namespace Go.Proofs.Ytciiombkhndnjaa
/- THE CELL 'sum', in the pinned program and in every row, IS THE sha256 OF THE DUMP (.gsa) THAT YtciiombkhndnjaaProg.lean LOADS. Nothing in Lean hashes anything: it is a label: what it is worth is what the hold of that sum in a sandbox is worth. -/
noncomputable def Try.pinned : Pinned := { name := "ytciiombkhndnjaa", sum := "ada584887b5a7cfa26b842fcafc6ca0effb5c92a8081dc9d554a32879e12e714", checked := Try.checked }
namespace Rows
def none {H : Type} : Left H := { results := [], args := [] }

/-- 'laws.FnExactFarthestCorner': WHATEVER THE INPUT: true; the input reads as it did. -/
def fnExactFarthestCornerSpec : ChangeSpec := { name := "fnExactFarthestCorner", fn := fun _ => fun
  | [d1, d2] => { results := [.lit (.bool true)], args := [d1, d2] }
  | _ => none }
def fnExactFarthestCornerRow : OpenClaim := { program := "ytciiombkhndnjaa", sum := "ada584887b5a7cfa26b842fcafc6ca0effb5c92a8081dc9d554a32879e12e714", func := "loop.example/g01336/laws.FnExactFarthestCorner", spec := "fnExactFarthestCorner", unfollowed := true, recurses := true, plainKeys := false, apart := false }
def FnExactFarthestCornerSaid : Prop := fnExactFarthestCornerRow.holds Try.pinned (OpenSpec.ofChange fnExactFarthestCornerSpec)

/-- ITS FALSE NEIGHBOUR: 'it returns false'. Refute it at one input. -/
def fnExactFarthestCornerWrong : ChangeSpec := { name := "fnExactFarthestCorner", fn := fun _ => fun
  | [d1, d2] => { results := [.lit (.bool false)], args := [d1, d2] }
  | _ => none }
def FnExactFarthestCornerWrongFalsely : Prop := fnExactFarthestCornerRow.holds Try.pinned (OpenSpec.ofChange fnExactFarthestCornerWrong)

/-- 'laws.FnExactCloseBlock': WHATEVER THE INPUT: true; the input reads as it did. -/
def fnExactCloseBlockSpec : ChangeSpec := { name := "fnExactCloseBlock", fn := fun _ => fun
  | [d1, d2] => { results := [.lit (.bool true)], args := [d1, d2] }
  | _ => none }
def fnExactCloseBlockRow : OpenClaim := { program := "ytciiombkhndnjaa", sum := "ada584887b5a7cfa26b842fcafc6ca0effb5c92a8081dc9d554a32879e12e714", func := "loop.example/g01336/laws.FnExactCloseBlock", spec := "fnExactCloseBlock", inPlace := ["slices.overlaps[loop.example/g01336/impl.Block]"], unfollowed := true, recurses := true, plainKeys := false, apart := false }
def FnExactCloseBlockSaid : Prop := fnExactCloseBlockRow.holds Try.pinned (OpenSpec.ofChange fnExactCloseBlockSpec)

/-- ITS FALSE NEIGHBOUR: 'it returns false'. Refute it at one input. -/
def fnExactCloseBlockWrong : ChangeSpec := { name := "fnExactCloseBlock", fn := fun _ => fun
  | [d1, d2] => { results := [.lit (.bool false)], args := [d1, d2] }
  | _ => none }
def FnExactCloseBlockWrongFalsely : Prop := fnExactCloseBlockRow.holds Try.pinned (OpenSpec.ofChange fnExactCloseBlockWrong)

/-- 'laws.FnExactOpenBlock': WHATEVER THE INPUT: true; the input reads as it did. -/
def fnExactOpenBlockSpec : ChangeSpec := { name := "fnExactOpenBlock", fn := fun _ => fun
  | [d1, d2] => { results := [.lit (.bool true)], args := [d1, d2] }
  | _ => none }
def fnExactOpenBlockRow : OpenClaim := { program := "ytciiombkhndnjaa", sum := "ada584887b5a7cfa26b842fcafc6ca0effb5c92a8081dc9d554a32879e12e714", func := "loop.example/g01336/laws.FnExactOpenBlock", spec := "fnExactOpenBlock", unfollowed := true, recurses := true, plainKeys := false, apart := false }
def FnExactOpenBlockSaid : Prop := fnExactOpenBlockRow.holds Try.pinned (OpenSpec.ofChange fnExactOpenBlockSpec)

/-- ITS FALSE NEIGHBOUR: 'it returns false'. Refute it at one input. -/
def fnExactOpenBlockWrong : ChangeSpec := { name := "fnExactOpenBlock", fn := fun _ => fun
  | [d1, d2] => { results := [.lit (.bool false)], args := [d1, d2] }
  | _ => none }
def FnExactOpenBlockWrongFalsely : Prop := fnExactOpenBlockRow.holds Try.pinned (OpenSpec.ofChange fnExactOpenBlockWrong)

/-- 'laws.FnExactLeastBoxesSum': WHATEVER THE INPUT: true; the input reads as it did. -/
def fnExactLeastBoxesSumSpec : ChangeSpec := { name := "fnExactLeastBoxesSum", fn := fun _ => fun
  | [d1, d2] => { results := [.lit (.bool true)], args := [d1, d2] }
  | _ => none }
def fnExactLeastBoxesSumRow : OpenClaim := { program := "ytciiombkhndnjaa", sum := "ada584887b5a7cfa26b842fcafc6ca0effb5c92a8081dc9d554a32879e12e714", func := "loop.example/g01336/laws.FnExactLeastBoxesSum", spec := "fnExactLeastBoxesSum", unfollowed := true, recurses := true, plainKeys := false, apart := false }
def FnExactLeastBoxesSumSaid : Prop := fnExactLeastBoxesSumRow.holds Try.pinned (OpenSpec.ofChange fnExactLeastBoxesSumSpec)

/-- ITS FALSE NEIGHBOUR: 'it returns false'. Refute it at one input. -/
def fnExactLeastBoxesSumWrong : ChangeSpec := { name := "fnExactLeastBoxesSum", fn := fun _ => fun
  | [d1, d2] => { results := [.lit (.bool false)], args := [d1, d2] }
  | _ => none }
def FnExactLeastBoxesSumWrongFalsely : Prop := fnExactLeastBoxesSumRow.holds Try.pinned (OpenSpec.ofChange fnExactLeastBoxesSumWrong)

/-- 'laws.FnExactFirstBoxes': WHATEVER THE INPUT: true; the input reads as it did. -/
def fnExactFirstBoxesSpec : ChangeSpec := { name := "fnExactFirstBoxes", fn := fun _ => fun
  | [d1, d2] => { results := [.lit (.bool true)], args := [d1, d2] }
  | _ => none }
def fnExactFirstBoxesRow : OpenClaim := { program := "ytciiombkhndnjaa", sum := "ada584887b5a7cfa26b842fcafc6ca0effb5c92a8081dc9d554a32879e12e714", func := "loop.example/g01336/laws.FnExactFirstBoxes", spec := "fnExactFirstBoxes", unfollowed := true, recurses := true, plainKeys := false, apart := false }
def FnExactFirstBoxesSaid : Prop := fnExactFirstBoxesRow.holds Try.pinned (OpenSpec.ofChange fnExactFirstBoxesSpec)

/-- ITS FALSE NEIGHBOUR: 'it returns false'. Refute it at one input. -/
def fnExactFirstBoxesWrong : ChangeSpec := { name := "fnExactFirstBoxes", fn := fun _ => fun
  | [d1, d2] => { results := [.lit (.bool false)], args := [d1, d2] }
  | _ => none }
def FnExactFirstBoxesWrongFalsely : Prop := fnExactFirstBoxesRow.holds Try.pinned (OpenSpec.ofChange fnExactFirstBoxesWrong)

/- THE SECOND FORM. 'bulk': how many values and letters a reading holds, each counted each time it is reached (what is shared counts as often as it is met; a slice's spare places count too). A statement '..UptoSaid' is the law's where the arguments, and the package variables that the reading takes, are together of bulk at most 1048576: NARROWER than '..Said'. Prove '..Said' where nothing that the law and all that it calls make is longer than what came in: it says more and counts as full. Else prove '..UptoSaid'. A law counts once. -/
mutual
def uptoBulk {H : Type} : DataW H → Nat
  | .lit (.string bytes) => bytes.length + 1
  | .lit _ => 1
  | .nil => 1
  | .ptr d => uptoBulk d + 1
  | .slice elems spare => uptoBulkAll elems + uptoBulkAll spare + 1
  | .agg parts => uptoBulkAll parts + 1
  | .iface _ d => uptoBulk d + 1
  | .map entries => uptoBulkEntries entries + 1
  | .held _ => 1
def uptoBulkAll {H : Type} : List (DataW H) → Nat
  | [] => 0
  | d :: r => uptoBulk d + uptoBulkAll r
def uptoBulkEntries {H : Type} : List (Lit × DataW H) → Nat
  | [] => 0
  | x :: r => uptoBulkEntry x + uptoBulkEntries r
def uptoBulkEntry {H : Type} : Lit × DataW H → Nat
  | (.string bytes, d) => bytes.length + uptoBulk d + 1
  | (_, d) => uptoBulk d + 1
 end
def uptoSmall : (H : Type) → List (DataW H) → Bool := fun _ ds => decide (uptoBulkAll ds ≤ 1048576)
def OpenSpec.upto (s : _root_.Go.ChangeSpec) : _root_.Go.OpenSpec := { _root_.Go.OpenSpec.ofChange s with cond := some uptoSmall }

/-- 'laws.FnExactFarthestCorner', WHERE WHAT IT READS IS OF BULK AT MOST 1048576: true; the input reads as it did. -/
def fnExactFarthestCornerUptoRow : OpenClaim := { program := "ytciiombkhndnjaa", sum := "ada584887b5a7cfa26b842fcafc6ca0effb5c92a8081dc9d554a32879e12e714", func := "loop.example/g01336/laws.FnExactFarthestCorner", spec := "fnExactFarthestCorner", unfollowed := true, recurses := true, plainKeys := false, apart := false, narrowed := true }
def FnExactFarthestCornerUptoSaid : Prop := fnExactFarthestCornerUptoRow.holds Try.pinned (OpenSpec.upto fnExactFarthestCornerSpec)

/-- 'laws.FnExactCloseBlock', WHERE WHAT IT READS IS OF BULK AT MOST 1048576: true; the input reads as it did. -/
def fnExactCloseBlockUptoRow : OpenClaim := { program := "ytciiombkhndnjaa", sum := "ada584887b5a7cfa26b842fcafc6ca0effb5c92a8081dc9d554a32879e12e714", func := "loop.example/g01336/laws.FnExactCloseBlock", spec := "fnExactCloseBlock", inPlace := ["slices.overlaps[loop.example/g01336/impl.Block]"], unfollowed := true, recurses := true, plainKeys := false, apart := false, narrowed := true }
def FnExactCloseBlockUptoSaid : Prop := fnExactCloseBlockUptoRow.holds Try.pinned (OpenSpec.upto fnExactCloseBlockSpec)

/-- 'laws.FnExactOpenBlock', WHERE WHAT IT READS IS OF BULK AT MOST 1048576: true; the input reads as it did. -/
def fnExactOpenBlockUptoRow : OpenClaim := { program := "ytciiombkhndnjaa", sum := "ada584887b5a7cfa26b842fcafc6ca0effb5c92a8081dc9d554a32879e12e714", func := "loop.example/g01336/laws.FnExactOpenBlock", spec := "fnExactOpenBlock", unfollowed := true, recurses := true, plainKeys := false, apart := false, narrowed := true }
def FnExactOpenBlockUptoSaid : Prop := fnExactOpenBlockUptoRow.holds Try.pinned (OpenSpec.upto fnExactOpenBlockSpec)

/-- 'laws.FnExactLeastBoxesSum', WHERE WHAT IT READS IS OF BULK AT MOST 1048576: true; the input reads as it did. -/
def fnExactLeastBoxesSumUptoRow : OpenClaim := { program := "ytciiombkhndnjaa", sum := "ada584887b5a7cfa26b842fcafc6ca0effb5c92a8081dc9d554a32879e12e714", func := "loop.example/g01336/laws.FnExactLeastBoxesSum", spec := "fnExactLeastBoxesSum", unfollowed := true, recurses := true, plainKeys := false, apart := false, narrowed := true }
def FnExactLeastBoxesSumUptoSaid : Prop := fnExactLeastBoxesSumUptoRow.holds Try.pinned (OpenSpec.upto fnExactLeastBoxesSumSpec)

/-- 'laws.FnExactFirstBoxes', WHERE WHAT IT READS IS OF BULK AT MOST 1048576: true; the input reads as it did. -/
def fnExactFirstBoxesUptoRow : OpenClaim := { program := "ytciiombkhndnjaa", sum := "ada584887b5a7cfa26b842fcafc6ca0effb5c92a8081dc9d554a32879e12e714", func := "loop.example/g01336/laws.FnExactFirstBoxes", spec := "fnExactFirstBoxes", unfollowed := true, recurses := true, plainKeys := false, apart := false, narrowed := true }
def FnExactFirstBoxesUptoSaid : Prop := fnExactFirstBoxesUptoRow.holds Try.pinned (OpenSpec.upto fnExactFirstBoxesSpec)

end Rows
end Go.Proofs.Ytciiombkhndnjaa
