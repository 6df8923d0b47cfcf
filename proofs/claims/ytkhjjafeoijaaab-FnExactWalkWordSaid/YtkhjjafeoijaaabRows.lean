/-
  No cell of these rows narrows 'for every input' (looked for: loops, veiled, ifaces, maps, wideKeys, modest, calm, conditions, laid).
  DERIVED. THE GIVEN ROWS OF THIS SEAT. 3 by the template 'for every input the law returns true; each argument reads behind the call as it read before'; 0 by the template 'total and deterministic' (their statements: YtkhjjafeoijaaabTotals.lean).
  GIVEN WITH THE SEED: the statements are not yours to turn. If you find one false, say at which input.
  Laid BY PROGRAM, IN A SANDBOX (cutbox-rows.mjs): the forced cells as the released guide's own fill.sh prints them over the translation dfa2c905f3f0c59a… (all of the seat's roots in one cut). By AI agents, Wed Nov 11 2026. No macro, syntax, notation, axiom, sorry.
-/
import Derived.Test.YtkhjjafeoijaaabChecked
import GoSem.Claim
import GoSem.ClaimJoined
import GoSem.ClaimMapViews
import Derived.JoinedTies
import Derived.KernelRfl
namespace Go.Proofs.Ytkhjjafeoijaaab
/- THE CELL 'sum', in the pinned program and in every row, IS THE sha256 OF THE DUMP (.gsa) THAT YtkhjjafeoijaaabProg.lean LOADS. Nothing in Lean hashes anything: it is a label: what it is worth is what the hold of that sum in a sandbox is worth. -/
noncomputable def Try.pinned : Pinned := { name := "ytkhjjafeoijaaab", sum := "dfa2c905f3f0c59a90fa34c17b0d4d518481c3714431136c2caf3eb6b36711de", checked := Try.checked }
namespace Rows
def none {H : Type} : Left H := { results := [], args := [] }

/-- 'laws.FnExactTurnsOfWord': WHATEVER THE INPUT: true; the input reads as it did. -/
def fnExactTurnsOfWordSpec : ChangeSpec := { name := "fnExactTurnsOfWord", fn := fun _ => fun
  | [d] => { results := [.lit (.bool true)], args := [d] }
  | _ => none }
def fnExactTurnsOfWordRow : OpenClaim := { program := "ytkhjjafeoijaaab", sum := "dfa2c905f3f0c59a90fa34c17b0d4d518481c3714431136c2caf3eb6b36711de", func := "loop.example/g01336/laws.FnExactTurnsOfWord", spec := "fnExactTurnsOfWord", inPlace := ["internal/bytealg.IndexByteString", "internal/bytealg.IndexString"], named := ["internal/bytealg.MaxLen"], apart := false }
def FnExactTurnsOfWordSaid : Prop := fnExactTurnsOfWordRow.holds Try.pinned (OpenSpec.ofChange fnExactTurnsOfWordSpec)

/-- ITS FALSE NEIGHBOUR: 'it returns false'. Refute it at one input. -/
def fnExactTurnsOfWordWrong : ChangeSpec := { name := "fnExactTurnsOfWord", fn := fun _ => fun
  | [d] => { results := [.lit (.bool false)], args := [d] }
  | _ => none }
def FnExactTurnsOfWordWrongFalsely : Prop := fnExactTurnsOfWordRow.holds Try.pinned (OpenSpec.ofChange fnExactTurnsOfWordWrong)

/-- 'laws.FnExactWalkWord': WHATEVER THE INPUT: true; the input reads as it did. -/
def fnExactWalkWordSpec : ChangeSpec := { name := "fnExactWalkWord", fn := fun _ => fun
  | [d1, d2, d3] => { results := [.lit (.bool true)], args := [d1, d2, d3] }
  | _ => none }
def fnExactWalkWordRow : OpenClaim := { program := "ytkhjjafeoijaaab", sum := "dfa2c905f3f0c59a90fa34c17b0d4d518481c3714431136c2caf3eb6b36711de", func := "loop.example/g01336/laws.FnExactWalkWord", spec := "fnExactWalkWord", unfollowed := true, recurses := true, apart := false }
def FnExactWalkWordSaid : Prop := fnExactWalkWordRow.holds Try.pinned (OpenSpec.ofChange fnExactWalkWordSpec)

/-- ITS FALSE NEIGHBOUR: 'it returns false'. Refute it at one input. -/
def fnExactWalkWordWrong : ChangeSpec := { name := "fnExactWalkWord", fn := fun _ => fun
  | [d1, d2, d3] => { results := [.lit (.bool false)], args := [d1, d2, d3] }
  | _ => none }
def FnExactWalkWordWrongFalsely : Prop := fnExactWalkWordRow.holds Try.pinned (OpenSpec.ofChange fnExactWalkWordWrong)

/-- 'laws.FnExactBackWay': WHATEVER THE INPUT: true; the input reads as it did. -/
def fnExactBackWaySpec : ChangeSpec := { name := "fnExactBackWay", fn := fun _ => fun
  | [d] => { results := [.lit (.bool true)], args := [d] }
  | _ => none }
def fnExactBackWayRow : OpenClaim := { program := "ytkhjjafeoijaaab", sum := "dfa2c905f3f0c59a90fa34c17b0d4d518481c3714431136c2caf3eb6b36711de", func := "loop.example/g01336/laws.FnExactBackWay", spec := "fnExactBackWay", inPlace := ["internal/bytealg.IndexByteString", "internal/bytealg.IndexString"], named := ["internal/bytealg.MaxLen"], apart := false }
def FnExactBackWaySaid : Prop := fnExactBackWayRow.holds Try.pinned (OpenSpec.ofChange fnExactBackWaySpec)

/-- ITS FALSE NEIGHBOUR: 'it returns false'. Refute it at one input. -/
def fnExactBackWayWrong : ChangeSpec := { name := "fnExactBackWay", fn := fun _ => fun
  | [d] => { results := [.lit (.bool false)], args := [d] }
  | _ => none }
def FnExactBackWayWrongFalsely : Prop := fnExactBackWayRow.holds Try.pinned (OpenSpec.ofChange fnExactBackWayWrong)

/- THE SECOND FORM. 'bulk': how many values and letters a reading holds, each counted each time it is reached (what is shared counts as often as it is met; a slice's spare places count too). A statement '..UptoSaid' is the law's where the arguments, and the package variables that the reading takes, are together of bulk at most 1048576: NARROWER than '..Said'. Prove '..Said' where nothing that the law and all that it calls make is longer than what came in: it says more and counts as full. Else prove '..UptoSaid'. A law counts once. -/
mutual
def uptoBulk {H : Type} : DataW H → Nat
  | .lit (.string bytes) => bytes.length + 1
  | .lit _ => 1
  | .nil => 1
  | .ptr d => uptoBulk d + 1
  | .slice elems spare => uptoBulkAll elems + uptoBulkAll spare + 1
  | .agg parts => uptoBulkAll parts + 1
  | .iface _ d => uptoBulk d + 1
  | .map entries => uptoBulkEntries entries + 1
  | .held _ => 1
def uptoBulkAll {H : Type} : List (DataW H) → Nat
  | [] => 0
  | d :: r => uptoBulk d + uptoBulkAll r
def uptoBulkEntries {H : Type} : List (Lit × DataW H) → Nat
  | [] => 0
  | x :: r => uptoBulkEntry x + uptoBulkEntries r
def uptoBulkEntry {H : Type} : Lit × DataW H → Nat
  | (.string bytes, d) => bytes.length + uptoBulk d + 1
  | (_, d) => uptoBulk d + 1
 end
def uptoSmall : (H : Type) → List (DataW H) → Bool := fun _ ds => decide (uptoBulkAll ds ≤ 1048576)
def OpenSpec.upto (s : _root_.Go.ChangeSpec) : _root_.Go.OpenSpec := { _root_.Go.OpenSpec.ofChange s with cond := some uptoSmall }

/-- 'laws.FnExactTurnsOfWord', WHERE WHAT IT READS IS OF BULK AT MOST 1048576: true; the input reads as it did. -/
def fnExactTurnsOfWordUptoRow : OpenClaim := { program := "ytkhjjafeoijaaab", sum := "dfa2c905f3f0c59a90fa34c17b0d4d518481c3714431136c2caf3eb6b36711de", func := "loop.example/g01336/laws.FnExactTurnsOfWord", spec := "fnExactTurnsOfWord", inPlace := ["internal/bytealg.IndexByteString", "internal/bytealg.IndexString"], named := ["internal/bytealg.MaxLen"], apart := false, narrowed := true }
def FnExactTurnsOfWordUptoSaid : Prop := fnExactTurnsOfWordUptoRow.holds Try.pinned (OpenSpec.upto fnExactTurnsOfWordSpec)

/-- 'laws.FnExactWalkWord', WHERE WHAT IT READS IS OF BULK AT MOST 1048576: true; the input reads as it did. -/
def fnExactWalkWordUptoRow : OpenClaim := { program := "ytkhjjafeoijaaab", sum := "dfa2c905f3f0c59a90fa34c17b0d4d518481c3714431136c2caf3eb6b36711de", func := "loop.example/g01336/laws.FnExactWalkWord", spec := "fnExactWalkWord", unfollowed := true, recurses := true, apart := false, narrowed := true }
def FnExactWalkWordUptoSaid : Prop := fnExactWalkWordUptoRow.holds Try.pinned (OpenSpec.upto fnExactWalkWordSpec)

/-- 'laws.FnExactBackWay', WHERE WHAT IT READS IS OF BULK AT MOST 1048576: true; the input reads as it did. -/
def fnExactBackWayUptoRow : OpenClaim := { program := "ytkhjjafeoijaaab", sum := "dfa2c905f3f0c59a90fa34c17b0d4d518481c3714431136c2caf3eb6b36711de", func := "loop.example/g01336/laws.FnExactBackWay", spec := "fnExactBackWay", inPlace := ["internal/bytealg.IndexByteString", "internal/bytealg.IndexString"], named := ["internal/bytealg.MaxLen"], apart := false, narrowed := true }
def FnExactBackWayUptoSaid : Prop := fnExactBackWayUptoRow.holds Try.pinned (OpenSpec.upto fnExactBackWaySpec)

end Rows
end Go.Proofs.Ytkhjjafeoijaaab
