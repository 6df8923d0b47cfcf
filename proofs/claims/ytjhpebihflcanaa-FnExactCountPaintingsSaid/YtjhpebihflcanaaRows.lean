/-
  No cell of these rows narrows 'for every input' (looked for: loops, veiled, ifaces, maps, wideKeys, modest, calm, conditions, laid).
  DERIVED. THE GIVEN ROWS OF THIS SEAT. 7 by the template 'for every input the law returns true; each argument reads behind the call as it read before'; 0 by the template 'total and deterministic' (their statements: YtjhpebihflcanaaTotals.lean).
  GIVEN WITH THE SEED: the statements are not yours to turn. If you find one false, say at which input.
  Laid BY PROGRAM, IN A SANDBOX (cutbox-rows.mjs): the forced cells as the released guide's own fill.sh prints them over the translation 3c2b5773658c18ef… (all of the seat's roots in one cut). By AI agents, Wed Nov 11 2026. No macro, syntax, notation, axiom, sorry.
-/
import Derived.Test.YtjhpebihflcanaaChecked
import GoSem.Claim
import GoSem.ClaimJoined
import GoSem.ClaimMapViews
import Derived.JoinedTies
import Derived.KernelRfl
namespace Go.Proofs.Ytjhpebihflcanaa
/- THE CELL 'sum', in the pinned program and in every row, IS THE sha256 OF THE DUMP (.gsa) THAT YtjhpebihflcanaaProg.lean LOADS. Nothing in Lean hashes anything: it is a label: what it is worth is what the hold of that sum in a sandbox is worth. -/
noncomputable def Try.pinned : Pinned := { name := "ytjhpebihflcanaa", sum := "3c2b5773658c18ef50b0bdab544b27fb3a2416c2bd24facb4ea20742893116b9", checked := Try.checked }
namespace Rows
def none {H : Type} : Left H := { results := [], args := [] }

/-- 'laws.FnExactLeastPaint': WHATEVER THE INPUT: true; the input reads as it did. -/
def fnExactLeastPaintSpec : ChangeSpec := { name := "fnExactLeastPaint", fn := fun _ => fun
  | [d1, d2] => { results := [.lit (.bool true)], args := [d1, d2] }
  | _ => none }
def fnExactLeastPaintRow : OpenClaim := { program := "ytjhpebihflcanaa", sum := "3c2b5773658c18ef50b0bdab544b27fb3a2416c2bd24facb4ea20742893116b9", func := "loop.example/g01336/laws.FnExactLeastPaint", spec := "fnExactLeastPaint", unfollowed := true, recurses := true, plainKeys := false, apart := false }
def FnExactLeastPaintSaid : Prop := fnExactLeastPaintRow.holds Try.pinned (OpenSpec.ofChange fnExactLeastPaintSpec)

/-- ITS FALSE NEIGHBOUR: 'it returns false'. Refute it at one input. -/
def fnExactLeastPaintWrong : ChangeSpec := { name := "fnExactLeastPaint", fn := fun _ => fun
  | [d1, d2] => { results := [.lit (.bool false)], args := [d1, d2] }
  | _ => none }
def FnExactLeastPaintWrongFalsely : Prop := fnExactLeastPaintRow.holds Try.pinned (OpenSpec.ofChange fnExactLeastPaintWrong)

/-- 'laws.FnExactFirstPaint': WHATEVER THE INPUT: true; the input reads as it did. -/
def fnExactFirstPaintSpec : ChangeSpec := { name := "fnExactFirstPaint", fn := fun _ => fun
  | [d1, d2] => { results := [.lit (.bool true)], args := [d1, d2] }
  | _ => none }
def fnExactFirstPaintRow : OpenClaim := { program := "ytjhpebihflcanaa", sum := "3c2b5773658c18ef50b0bdab544b27fb3a2416c2bd24facb4ea20742893116b9", func := "loop.example/g01336/laws.FnExactFirstPaint", spec := "fnExactFirstPaint", unfollowed := true, recurses := true, plainKeys := false, apart := false }
def FnExactFirstPaintSaid : Prop := fnExactFirstPaintRow.holds Try.pinned (OpenSpec.ofChange fnExactFirstPaintSpec)

/-- ITS FALSE NEIGHBOUR: 'it returns false'. Refute it at one input. -/
def fnExactFirstPaintWrong : ChangeSpec := { name := "fnExactFirstPaint", fn := fun _ => fun
  | [d1, d2] => { results := [.lit (.bool false)], args := [d1, d2] }
  | _ => none }
def FnExactFirstPaintWrongFalsely : Prop := fnExactFirstPaintRow.holds Try.pinned (OpenSpec.ofChange fnExactFirstPaintWrong)

/-- 'laws.FnExactCountPaint': WHATEVER THE INPUT: true; the input reads as it did. -/
def fnExactCountPaintSpec : ChangeSpec := { name := "fnExactCountPaint", fn := fun _ => fun
  | [d1, d2] => { results := [.lit (.bool true)], args := [d1, d2] }
  | _ => none }
def fnExactCountPaintRow : OpenClaim := { program := "ytjhpebihflcanaa", sum := "3c2b5773658c18ef50b0bdab544b27fb3a2416c2bd24facb4ea20742893116b9", func := "loop.example/g01336/laws.FnExactCountPaint", spec := "fnExactCountPaint", unfollowed := true, recurses := true, plainKeys := false, apart := false }
def FnExactCountPaintSaid : Prop := fnExactCountPaintRow.holds Try.pinned (OpenSpec.ofChange fnExactCountPaintSpec)

/-- ITS FALSE NEIGHBOUR: 'it returns false'. Refute it at one input. -/
def fnExactCountPaintWrong : ChangeSpec := { name := "fnExactCountPaint", fn := fun _ => fun
  | [d1, d2] => { results := [.lit (.bool false)], args := [d1, d2] }
  | _ => none }
def FnExactCountPaintWrongFalsely : Prop := fnExactCountPaintRow.holds Try.pinned (OpenSpec.ofChange fnExactCountPaintWrong)

/-- 'laws.FnExactCountPaintings': WHATEVER THE INPUT: true; the input reads as it did. -/
def fnExactCountPaintingsSpec : ChangeSpec := { name := "fnExactCountPaintings", fn := fun _ => fun
  | [d1, d2, d3] => { results := [.lit (.bool true)], args := [d1, d2, d3] }
  | _ => none }
def fnExactCountPaintingsRow : OpenClaim := { program := "ytjhpebihflcanaa", sum := "3c2b5773658c18ef50b0bdab544b27fb3a2416c2bd24facb4ea20742893116b9", func := "loop.example/g01336/laws.FnExactCountPaintings", spec := "fnExactCountPaintings", unfollowed := true, recurses := true, plainKeys := false, apart := false }
def FnExactCountPaintingsSaid : Prop := fnExactCountPaintingsRow.holds Try.pinned (OpenSpec.ofChange fnExactCountPaintingsSpec)

/-- ITS FALSE NEIGHBOUR: 'it returns false'. Refute it at one input. -/
def fnExactCountPaintingsWrong : ChangeSpec := { name := "fnExactCountPaintings", fn := fun _ => fun
  | [d1, d2, d3] => { results := [.lit (.bool false)], args := [d1, d2, d3] }
  | _ => none }
def FnExactCountPaintingsWrongFalsely : Prop := fnExactCountPaintingsRow.holds Try.pinned (OpenSpec.ofChange fnExactCountPaintingsWrong)

/-- 'laws.FnExactBestLoot': WHATEVER THE INPUT: true; the input reads as it did. -/
def fnExactBestLootSpec : ChangeSpec := { name := "fnExactBestLoot", fn := fun _ => fun
  | [d1, d2] => { results := [.lit (.bool true)], args := [d1, d2] }
  | _ => none }
def fnExactBestLootRow : OpenClaim := { program := "ytjhpebihflcanaa", sum := "3c2b5773658c18ef50b0bdab544b27fb3a2416c2bd24facb4ea20742893116b9", func := "loop.example/g01336/laws.FnExactBestLoot", spec := "fnExactBestLoot", unfollowed := true, recurses := true, plainKeys := false, apart := false }
def FnExactBestLootSaid : Prop := fnExactBestLootRow.holds Try.pinned (OpenSpec.ofChange fnExactBestLootSpec)

/-- ITS FALSE NEIGHBOUR: 'it returns false'. Refute it at one input. -/
def fnExactBestLootWrong : ChangeSpec := { name := "fnExactBestLoot", fn := fun _ => fun
  | [d1, d2] => { results := [.lit (.bool false)], args := [d1, d2] }
  | _ => none }
def FnExactBestLootWrongFalsely : Prop := fnExactBestLootRow.holds Try.pinned (OpenSpec.ofChange fnExactBestLootWrong)

/-- 'laws.FnExactFirstLoot': WHATEVER THE INPUT: true; the input reads as it did. -/
def fnExactFirstLootSpec : ChangeSpec := { name := "fnExactFirstLoot", fn := fun _ => fun
  | [d1, d2] => { results := [.lit (.bool true)], args := [d1, d2] }
  | _ => none }
def fnExactFirstLootRow : OpenClaim := { program := "ytjhpebihflcanaa", sum := "3c2b5773658c18ef50b0bdab544b27fb3a2416c2bd24facb4ea20742893116b9", func := "loop.example/g01336/laws.FnExactFirstLoot", spec := "fnExactFirstLoot", unfollowed := true, recurses := true, plainKeys := false, apart := false }
def FnExactFirstLootSaid : Prop := fnExactFirstLootRow.holds Try.pinned (OpenSpec.ofChange fnExactFirstLootSpec)

/-- ITS FALSE NEIGHBOUR: 'it returns false'. Refute it at one input. -/
def fnExactFirstLootWrong : ChangeSpec := { name := "fnExactFirstLoot", fn := fun _ => fun
  | [d1, d2] => { results := [.lit (.bool false)], args := [d1, d2] }
  | _ => none }
def FnExactFirstLootWrongFalsely : Prop := fnExactFirstLootRow.holds Try.pinned (OpenSpec.ofChange fnExactFirstLootWrong)

/-- 'laws.FnExactCountLoots': WHATEVER THE INPUT: true; the input reads as it did. -/
def fnExactCountLootsSpec : ChangeSpec := { name := "fnExactCountLoots", fn := fun _ => fun
  | [d1, d2] => { results := [.lit (.bool true)], args := [d1, d2] }
  | _ => none }
def fnExactCountLootsRow : OpenClaim := { program := "ytjhpebihflcanaa", sum := "3c2b5773658c18ef50b0bdab544b27fb3a2416c2bd24facb4ea20742893116b9", func := "loop.example/g01336/laws.FnExactCountLoots", spec := "fnExactCountLoots", unfollowed := true, recurses := true, plainKeys := false, apart := false }
def FnExactCountLootsSaid : Prop := fnExactCountLootsRow.holds Try.pinned (OpenSpec.ofChange fnExactCountLootsSpec)

/-- ITS FALSE NEIGHBOUR: 'it returns false'. Refute it at one input. -/
def fnExactCountLootsWrong : ChangeSpec := { name := "fnExactCountLoots", fn := fun _ => fun
  | [d1, d2] => { results := [.lit (.bool false)], args := [d1, d2] }
  | _ => none }
def FnExactCountLootsWrongFalsely : Prop := fnExactCountLootsRow.holds Try.pinned (OpenSpec.ofChange fnExactCountLootsWrong)

/- THE SECOND FORM. 'bulk': how many values and letters a reading holds, each counted each time it is reached (what is shared counts as often as it is met; a slice's spare places count too). A statement '..UptoSaid' is the law's where the arguments, and the package variables that the reading takes, are together of bulk at most 1048576: NARROWER than '..Said'. Prove '..Said' where nothing that the law and all that it calls make is longer than what came in: it says more and counts as full. Else prove '..UptoSaid'. A law counts once. -/
mutual
def uptoBulk {H : Type} : DataW H → Nat
  | .lit (.string bytes) => bytes.length + 1
  | .lit _ => 1
  | .nil => 1
  | .ptr d => uptoBulk d + 1
  | .slice elems spare => uptoBulkAll elems + uptoBulkAll spare + 1
  | .agg parts => uptoBulkAll parts + 1
  | .iface _ d => uptoBulk d + 1
  | .map entries => uptoBulkEntries entries + 1
  | .held _ => 1
def uptoBulkAll {H : Type} : List (DataW H) → Nat
  | [] => 0
  | d :: r => uptoBulk d + uptoBulkAll r
def uptoBulkEntries {H : Type} : List (Lit × DataW H) → Nat
  | [] => 0
  | x :: r => uptoBulkEntry x + uptoBulkEntries r
def uptoBulkEntry {H : Type} : Lit × DataW H → Nat
  | (.string bytes, d) => bytes.length + uptoBulk d + 1
  | (_, d) => uptoBulk d + 1
 end
def uptoSmall : (H : Type) → List (DataW H) → Bool := fun _ ds => decide (uptoBulkAll ds ≤ 1048576)
def OpenSpec.upto (s : _root_.Go.ChangeSpec) : _root_.Go.OpenSpec := { _root_.Go.OpenSpec.ofChange s with cond := some uptoSmall }

/-- 'laws.FnExactLeastPaint', WHERE WHAT IT READS IS OF BULK AT MOST 1048576: true; the input reads as it did. -/
def fnExactLeastPaintUptoRow : OpenClaim := { program := "ytjhpebihflcanaa", sum := "3c2b5773658c18ef50b0bdab544b27fb3a2416c2bd24facb4ea20742893116b9", func := "loop.example/g01336/laws.FnExactLeastPaint", spec := "fnExactLeastPaint", unfollowed := true, recurses := true, plainKeys := false, apart := false, narrowed := true }
def FnExactLeastPaintUptoSaid : Prop := fnExactLeastPaintUptoRow.holds Try.pinned (OpenSpec.upto fnExactLeastPaintSpec)

/-- 'laws.FnExactFirstPaint', WHERE WHAT IT READS IS OF BULK AT MOST 1048576: true; the input reads as it did. -/
def fnExactFirstPaintUptoRow : OpenClaim := { program := "ytjhpebihflcanaa", sum := "3c2b5773658c18ef50b0bdab544b27fb3a2416c2bd24facb4ea20742893116b9", func := "loop.example/g01336/laws.FnExactFirstPaint", spec := "fnExactFirstPaint", unfollowed := true, recurses := true, plainKeys := false, apart := false, narrowed := true }
def FnExactFirstPaintUptoSaid : Prop := fnExactFirstPaintUptoRow.holds Try.pinned (OpenSpec.upto fnExactFirstPaintSpec)

/-- 'laws.FnExactCountPaint', WHERE WHAT IT READS IS OF BULK AT MOST 1048576: true; the input reads as it did. -/
def fnExactCountPaintUptoRow : OpenClaim := { program := "ytjhpebihflcanaa", sum := "3c2b5773658c18ef50b0bdab544b27fb3a2416c2bd24facb4ea20742893116b9", func := "loop.example/g01336/laws.FnExactCountPaint", spec := "fnExactCountPaint", unfollowed := true, recurses := true, plainKeys := false, apart := false, narrowed := true }
def FnExactCountPaintUptoSaid : Prop := fnExactCountPaintUptoRow.holds Try.pinned (OpenSpec.upto fnExactCountPaintSpec)

/-- 'laws.FnExactCountPaintings', WHERE WHAT IT READS IS OF BULK AT MOST 1048576: true; the input reads as it did. -/
def fnExactCountPaintingsUptoRow : OpenClaim := { program := "ytjhpebihflcanaa", sum := "3c2b5773658c18ef50b0bdab544b27fb3a2416c2bd24facb4ea20742893116b9", func := "loop.example/g01336/laws.FnExactCountPaintings", spec := "fnExactCountPaintings", unfollowed := true, recurses := true, plainKeys := false, apart := false, narrowed := true }
def FnExactCountPaintingsUptoSaid : Prop := fnExactCountPaintingsUptoRow.holds Try.pinned (OpenSpec.upto fnExactCountPaintingsSpec)

/-- 'laws.FnExactBestLoot', WHERE WHAT IT READS IS OF BULK AT MOST 1048576: true; the input reads as it did. -/
def fnExactBestLootUptoRow : OpenClaim := { program := "ytjhpebihflcanaa", sum := "3c2b5773658c18ef50b0bdab544b27fb3a2416c2bd24facb4ea20742893116b9", func := "loop.example/g01336/laws.FnExactBestLoot", spec := "fnExactBestLoot", unfollowed := true, recurses := true, plainKeys := false, apart := false, narrowed := true }
def FnExactBestLootUptoSaid : Prop := fnExactBestLootUptoRow.holds Try.pinned (OpenSpec.upto fnExactBestLootSpec)

/-- 'laws.FnExactFirstLoot', WHERE WHAT IT READS IS OF BULK AT MOST 1048576: true; the input reads as it did. -/
def fnExactFirstLootUptoRow : OpenClaim := { program := "ytjhpebihflcanaa", sum := "3c2b5773658c18ef50b0bdab544b27fb3a2416c2bd24facb4ea20742893116b9", func := "loop.example/g01336/laws.FnExactFirstLoot", spec := "fnExactFirstLoot", unfollowed := true, recurses := true, plainKeys := false, apart := false, narrowed := true }
def FnExactFirstLootUptoSaid : Prop := fnExactFirstLootUptoRow.holds Try.pinned (OpenSpec.upto fnExactFirstLootSpec)

/-- 'laws.FnExactCountLoots', WHERE WHAT IT READS IS OF BULK AT MOST 1048576: true; the input reads as it did. -/
def fnExactCountLootsUptoRow : OpenClaim := { program := "ytjhpebihflcanaa", sum := "3c2b5773658c18ef50b0bdab544b27fb3a2416c2bd24facb4ea20742893116b9", func := "loop.example/g01336/laws.FnExactCountLoots", spec := "fnExactCountLoots", unfollowed := true, recurses := true, plainKeys := false, apart := false, narrowed := true }
def FnExactCountLootsUptoSaid : Prop := fnExactCountLootsUptoRow.holds Try.pinned (OpenSpec.upto fnExactCountLootsSpec)

end Rows
end Go.Proofs.Ytjhpebihflcanaa
