/-
  NARROWER THAN 'FOR EVERY INPUT', by the rows' own cells (each row's printed sentence says how): FnExactFewestLamps: laid · FnExactFirstLamps: laid · FnExactCountLamps: laid · FnExactLitBy: laid · FnExactFewestGuards: laid · FnExactTurnRow: laid · FnExactIsLitRow: laid.
  DERIVED. THE GIVEN ROWS OF THIS SEAT. 7 by the template 'for every input the law returns true; each argument reads behind the call as it read before'; 0 by the template 'total and deterministic' (their statements: YtaimpeajeppaiaaDoorTotals.lean).
  GIVEN WITH THE SEED: the statements are not yours to turn. If you find one false, say at which input.
  Laid BY PROGRAM, IN A SANDBOX (cutbox-rows.mjs): the forced cells as the released guide's own fill.sh prints them over the translation a06fa85536850991… (all of the seat's roots in one cut). By AI agents, Wed Nov 11 2026. No macro, syntax, notation, axiom, sorry.
-/
import Derived.Test.YtaimpeajeppaiaaDoorChecked
import GoSem.PinnedTables
import GoSem.Claim
import GoSem.ClaimJoined
import GoSem.ClaimMapViews
import Derived.JoinedTies
import Derived.KernelRfl
namespace Go.Proofs.YtaimpeajeppaiaaDoor
/- THE CELL 'sum', in the pinned program and in every row, IS THE sha256 OF THE DUMP (.gsa) THAT YtaimpeajeppaiaaDoorProg.lean LOADS. Nothing in Lean hashes anything: it is a label: what it is worth is what the hold of that sum in a sandbox is worth. -/
noncomputable def Tryd.pinned : Pinned := { name := "ytaimpeajeppaiaadoor", sum := "a06fa855368509917bf80ed6135be1d5b0c8e3f08f99c76e5113d23a7f1c1961", checked := Tryd.checked }
namespace Rows
def none {H : Type} : Left H := { results := [], args := [] }

/- WHAT THE LISTED PACKAGE-LEVEL VARIABLES READ AS WHEN THE CALL BEGINS. Each datum BY PROGRAM (the guide's laid-datum.mjs) off the statement by which the dump's own 'gosem.cut.vars' lays the variable. In a bare row this is a premise. The card (YtaimpeajeppaiaaDoorCards.lean) ties it to the program's text. -/
def laid_unicode_utf8_acceptRanges {H : Type} : DataW H := .agg [.agg [.lit (.int .u8 128), .lit (.int .u8 191)], .agg [.lit (.int .u8 160), .lit (.int .u8 191)], .agg [.lit (.int .u8 128), .lit (.int .u8 159)], .agg [.lit (.int .u8 144), .lit (.int .u8 191)], .agg [.lit (.int .u8 128), .lit (.int .u8 143)], .agg [.lit (.int .u8 0), .lit (.int .u8 0)], .agg [.lit (.int .u8 0), .lit (.int .u8 0)], .agg [.lit (.int .u8 0), .lit (.int .u8 0)], .agg [.lit (.int .u8 0), .lit (.int .u8 0)], .agg [.lit (.int .u8 0), .lit (.int .u8 0)], .agg [.lit (.int .u8 0), .lit (.int .u8 0)], .agg [.lit (.int .u8 0), .lit (.int .u8 0)], .agg [.lit (.int .u8 0), .lit (.int .u8 0)], .agg [.lit (.int .u8 0), .lit (.int .u8 0)], .agg [.lit (.int .u8 0), .lit (.int .u8 0)], .agg [.lit (.int .u8 0), .lit (.int .u8 0)]]
/-- One of Go's own tables, pinned by name: the form's constant. -/
def laid_unicode_utf8_first : DataW Unit := Go.Pinned.utf8First

/-- 'laws.FnExactFewestLamps': WHATEVER THE INPUT: true; the input reads as it did. -/
def fnExactFewestLampsSpec : ChangeSpec := { name := "fnExactFewestLamps", fn := fun _ => fun
  | [d1, d2] => { results := [.lit (.bool true)], args := [d1, d2] }
  | _ => none }
def fnExactFewestLampsRow : OpenClaim := { program := "ytaimpeajeppaiaadoor", sum := "a06fa855368509917bf80ed6135be1d5b0c8e3f08f99c76e5113d23a7f1c1961", func := "loop.example/g01336/laws.FnExactFewestLamps", spec := "fnExactFewestLamps", inPlace := ["internal/bytealg.IndexByteString", "internal/bytealg.IndexString"], unfollowed := true, recurses := true, named := ["unicode/utf8.first", "unicode/utf8.acceptRanges", "internal/bytealg.MaxLen"], plainKeys := false, apart := false, laid := [("unicode/utf8.acceptRanges", laid_unicode_utf8_acceptRanges), ("unicode/utf8.first", laid_unicode_utf8_first)] }
def FnExactFewestLampsSaid : Prop := fnExactFewestLampsRow.holds Tryd.pinned (OpenSpec.ofChange fnExactFewestLampsSpec)

/-- ITS FALSE NEIGHBOUR: 'it returns false'. Refute it at one input. -/
def fnExactFewestLampsWrong : ChangeSpec := { name := "fnExactFewestLamps", fn := fun _ => fun
  | [d1, d2] => { results := [.lit (.bool false)], args := [d1, d2] }
  | _ => none }
def FnExactFewestLampsWrongFalsely : Prop := fnExactFewestLampsRow.holds Tryd.pinned (OpenSpec.ofChange fnExactFewestLampsWrong)

/-- 'laws.FnExactFirstLamps': WHATEVER THE INPUT: true; the input reads as it did. -/
def fnExactFirstLampsSpec : ChangeSpec := { name := "fnExactFirstLamps", fn := fun _ => fun
  | [d1, d2] => { results := [.lit (.bool true)], args := [d1, d2] }
  | _ => none }
def fnExactFirstLampsRow : OpenClaim := { program := "ytaimpeajeppaiaadoor", sum := "a06fa855368509917bf80ed6135be1d5b0c8e3f08f99c76e5113d23a7f1c1961", func := "loop.example/g01336/laws.FnExactFirstLamps", spec := "fnExactFirstLamps", inPlace := ["internal/bytealg.IndexByteString", "internal/bytealg.IndexString"], unfollowed := true, recurses := true, named := ["unicode/utf8.first", "unicode/utf8.acceptRanges", "internal/bytealg.MaxLen"], plainKeys := false, apart := false, laid := [("unicode/utf8.acceptRanges", laid_unicode_utf8_acceptRanges), ("unicode/utf8.first", laid_unicode_utf8_first)] }
def FnExactFirstLampsSaid : Prop := fnExactFirstLampsRow.holds Tryd.pinned (OpenSpec.ofChange fnExactFirstLampsSpec)

/-- ITS FALSE NEIGHBOUR: 'it returns false'. Refute it at one input. -/
def fnExactFirstLampsWrong : ChangeSpec := { name := "fnExactFirstLamps", fn := fun _ => fun
  | [d1, d2] => { results := [.lit (.bool false)], args := [d1, d2] }
  | _ => none }
def FnExactFirstLampsWrongFalsely : Prop := fnExactFirstLampsRow.holds Tryd.pinned (OpenSpec.ofChange fnExactFirstLampsWrong)

/-- 'laws.FnExactCountLamps': WHATEVER THE INPUT: true; the input reads as it did. -/
def fnExactCountLampsSpec : ChangeSpec := { name := "fnExactCountLamps", fn := fun _ => fun
  | [d1, d2] => { results := [.lit (.bool true)], args := [d1, d2] }
  | _ => none }
def fnExactCountLampsRow : OpenClaim := { program := "ytaimpeajeppaiaadoor", sum := "a06fa855368509917bf80ed6135be1d5b0c8e3f08f99c76e5113d23a7f1c1961", func := "loop.example/g01336/laws.FnExactCountLamps", spec := "fnExactCountLamps", inPlace := ["internal/bytealg.IndexByteString", "internal/bytealg.IndexString"], unfollowed := true, recurses := true, named := ["unicode/utf8.first", "unicode/utf8.acceptRanges", "internal/bytealg.MaxLen"], plainKeys := false, apart := false, laid := [("unicode/utf8.acceptRanges", laid_unicode_utf8_acceptRanges), ("unicode/utf8.first", laid_unicode_utf8_first)] }
def FnExactCountLampsSaid : Prop := fnExactCountLampsRow.holds Tryd.pinned (OpenSpec.ofChange fnExactCountLampsSpec)

/-- ITS FALSE NEIGHBOUR: 'it returns false'. Refute it at one input. -/
def fnExactCountLampsWrong : ChangeSpec := { name := "fnExactCountLamps", fn := fun _ => fun
  | [d1, d2] => { results := [.lit (.bool false)], args := [d1, d2] }
  | _ => none }
def FnExactCountLampsWrongFalsely : Prop := fnExactCountLampsRow.holds Tryd.pinned (OpenSpec.ofChange fnExactCountLampsWrong)

/-- 'laws.FnExactLitBy': WHATEVER THE INPUT: true; the input reads as it did. -/
def fnExactLitBySpec : ChangeSpec := { name := "fnExactLitBy", fn := fun _ => fun
  | [d1, d2, d3] => { results := [.lit (.bool true)], args := [d1, d2, d3] }
  | _ => none }
def fnExactLitByRow : OpenClaim := { program := "ytaimpeajeppaiaadoor", sum := "a06fa855368509917bf80ed6135be1d5b0c8e3f08f99c76e5113d23a7f1c1961", func := "loop.example/g01336/laws.FnExactLitBy", spec := "fnExactLitBy", inPlace := ["internal/bytealg.IndexByteString", "internal/bytealg.IndexString"], named := ["unicode/utf8.first", "unicode/utf8.acceptRanges", "internal/bytealg.MaxLen"], plainKeys := false, apart := false, laid := [("unicode/utf8.acceptRanges", laid_unicode_utf8_acceptRanges), ("unicode/utf8.first", laid_unicode_utf8_first)] }
def FnExactLitBySaid : Prop := fnExactLitByRow.holds Tryd.pinned (OpenSpec.ofChange fnExactLitBySpec)

/-- ITS FALSE NEIGHBOUR: 'it returns false'. Refute it at one input. -/
def fnExactLitByWrong : ChangeSpec := { name := "fnExactLitBy", fn := fun _ => fun
  | [d1, d2, d3] => { results := [.lit (.bool false)], args := [d1, d2, d3] }
  | _ => none }
def FnExactLitByWrongFalsely : Prop := fnExactLitByRow.holds Tryd.pinned (OpenSpec.ofChange fnExactLitByWrong)

/-- 'laws.FnExactFewestGuards': WHATEVER THE INPUT: true; the input reads as it did. -/
def fnExactFewestGuardsSpec : ChangeSpec := { name := "fnExactFewestGuards", fn := fun _ => fun
  | [d1, d2] => { results := [.lit (.bool true)], args := [d1, d2] }
  | _ => none }
def fnExactFewestGuardsRow : OpenClaim := { program := "ytaimpeajeppaiaadoor", sum := "a06fa855368509917bf80ed6135be1d5b0c8e3f08f99c76e5113d23a7f1c1961", func := "loop.example/g01336/laws.FnExactFewestGuards", spec := "fnExactFewestGuards", inPlace := ["internal/abi.NoEscape", "internal/bytealg.MakeNoZero", "internal/bytealg.IndexByteString", "internal/bytealg.IndexString"], unfollowed := true, recurses := true, named := ["unicode/utf8.first", "unicode/utf8.acceptRanges", "internal/bytealg.MaxLen"], plainKeys := false, apart := false, laid := [("unicode/utf8.acceptRanges", laid_unicode_utf8_acceptRanges), ("unicode/utf8.first", laid_unicode_utf8_first)] }
def FnExactFewestGuardsSaid : Prop := fnExactFewestGuardsRow.holds Tryd.pinned (OpenSpec.ofChange fnExactFewestGuardsSpec)

/-- ITS FALSE NEIGHBOUR: 'it returns false'. Refute it at one input. -/
def fnExactFewestGuardsWrong : ChangeSpec := { name := "fnExactFewestGuards", fn := fun _ => fun
  | [d1, d2] => { results := [.lit (.bool false)], args := [d1, d2] }
  | _ => none }
def FnExactFewestGuardsWrongFalsely : Prop := fnExactFewestGuardsRow.holds Tryd.pinned (OpenSpec.ofChange fnExactFewestGuardsWrong)

/-- 'laws.FnExactTurnRow': WHATEVER THE INPUT: true; the input reads as it did. -/
def fnExactTurnRowSpec : ChangeSpec := { name := "fnExactTurnRow", fn := fun _ => fun
  | [d1, d2] => { results := [.lit (.bool true)], args := [d1, d2] }
  | _ => none }
def fnExactTurnRowRow : OpenClaim := { program := "ytaimpeajeppaiaadoor", sum := "a06fa855368509917bf80ed6135be1d5b0c8e3f08f99c76e5113d23a7f1c1961", func := "loop.example/g01336/laws.FnExactTurnRow", spec := "fnExactTurnRow", inPlace := ["internal/bytealg.IndexByteString", "internal/bytealg.IndexString"], named := ["unicode/utf8.first", "unicode/utf8.acceptRanges", "internal/bytealg.MaxLen"], plainKeys := false, apart := false, laid := [("unicode/utf8.acceptRanges", laid_unicode_utf8_acceptRanges), ("unicode/utf8.first", laid_unicode_utf8_first)] }
def FnExactTurnRowSaid : Prop := fnExactTurnRowRow.holds Tryd.pinned (OpenSpec.ofChange fnExactTurnRowSpec)

/-- ITS FALSE NEIGHBOUR: 'it returns false'. Refute it at one input. -/
def fnExactTurnRowWrong : ChangeSpec := { name := "fnExactTurnRow", fn := fun _ => fun
  | [d1, d2] => { results := [.lit (.bool false)], args := [d1, d2] }
  | _ => none }
def FnExactTurnRowWrongFalsely : Prop := fnExactTurnRowRow.holds Tryd.pinned (OpenSpec.ofChange fnExactTurnRowWrong)

/-- 'laws.FnExactIsLitRow': WHATEVER THE INPUT: true; the input reads as it did. -/
def fnExactIsLitRowSpec : ChangeSpec := { name := "fnExactIsLitRow", fn := fun _ => fun
  | [d] => { results := [.lit (.bool true)], args := [d] }
  | _ => none }
def fnExactIsLitRowRow : OpenClaim := { program := "ytaimpeajeppaiaadoor", sum := "a06fa855368509917bf80ed6135be1d5b0c8e3f08f99c76e5113d23a7f1c1961", func := "loop.example/g01336/laws.FnExactIsLitRow", spec := "fnExactIsLitRow", inPlace := ["internal/bytealg.IndexByteString", "internal/bytealg.IndexString"], named := ["unicode/utf8.first", "unicode/utf8.acceptRanges", "internal/bytealg.MaxLen"], plainKeys := false, apart := false, laid := [("unicode/utf8.acceptRanges", laid_unicode_utf8_acceptRanges), ("unicode/utf8.first", laid_unicode_utf8_first)] }
def FnExactIsLitRowSaid : Prop := fnExactIsLitRowRow.holds Tryd.pinned (OpenSpec.ofChange fnExactIsLitRowSpec)

/-- ITS FALSE NEIGHBOUR: 'it returns false'. Refute it at one input. -/
def fnExactIsLitRowWrong : ChangeSpec := { name := "fnExactIsLitRow", fn := fun _ => fun
  | [d] => { results := [.lit (.bool false)], args := [d] }
  | _ => none }
def FnExactIsLitRowWrongFalsely : Prop := fnExactIsLitRowRow.holds Tryd.pinned (OpenSpec.ofChange fnExactIsLitRowWrong)

/- THE SECOND FORM. 'bulk': how many values and letters a reading holds, each counted each time it is reached (what is shared counts as often as it is met; a slice's spare places count too). A statement '..UptoSaid' is the law's where the arguments, and the package variables that the reading takes, are together of bulk at most 1048576: NARROWER than '..Said'. Prove '..Said' where nothing that the law and all that it calls make is longer than what came in: it says more and counts as full. Else prove '..UptoSaid'. A law counts once. -/
mutual
def uptoBulk {H : Type} : DataW H → Nat
  | .lit (.string bytes) => bytes.length + 1
  | .lit _ => 1
  | .nil => 1
  | .ptr d => uptoBulk d + 1
  | .slice elems spare => uptoBulkAll elems + uptoBulkAll spare + 1
  | .agg parts => uptoBulkAll parts + 1
  | .iface _ d => uptoBulk d + 1
  | .map entries => uptoBulkEntries entries + 1
  | .held _ => 1
def uptoBulkAll {H : Type} : List (DataW H) → Nat
  | [] => 0
  | d :: r => uptoBulk d + uptoBulkAll r
def uptoBulkEntries {H : Type} : List (Lit × DataW H) → Nat
  | [] => 0
  | x :: r => uptoBulkEntry x + uptoBulkEntries r
def uptoBulkEntry {H : Type} : Lit × DataW H → Nat
  | (.string bytes, d) => bytes.length + uptoBulk d + 1
  | (_, d) => uptoBulk d + 1
 end
def uptoSmall : (H : Type) → List (DataW H) → Bool := fun _ ds => decide (uptoBulkAll ds ≤ 1048576)
def OpenSpec.upto (s : _root_.Go.ChangeSpec) : _root_.Go.OpenSpec := { _root_.Go.OpenSpec.ofChange s with cond := some uptoSmall }

/-- 'laws.FnExactFewestLamps', WHERE WHAT IT READS IS OF BULK AT MOST 1048576: true; the input reads as it did. -/
def fnExactFewestLampsUptoRow : OpenClaim := { program := "ytaimpeajeppaiaadoor", sum := "a06fa855368509917bf80ed6135be1d5b0c8e3f08f99c76e5113d23a7f1c1961", func := "loop.example/g01336/laws.FnExactFewestLamps", spec := "fnExactFewestLamps", inPlace := ["internal/bytealg.IndexByteString", "internal/bytealg.IndexString"], unfollowed := true, recurses := true, named := ["unicode/utf8.first", "unicode/utf8.acceptRanges", "internal/bytealg.MaxLen"], plainKeys := false, apart := false, laid := [("unicode/utf8.acceptRanges", laid_unicode_utf8_acceptRanges), ("unicode/utf8.first", laid_unicode_utf8_first)], narrowed := true }
def FnExactFewestLampsUptoSaid : Prop := fnExactFewestLampsUptoRow.holds Tryd.pinned (OpenSpec.upto fnExactFewestLampsSpec)

/-- 'laws.FnExactFirstLamps', WHERE WHAT IT READS IS OF BULK AT MOST 1048576: true; the input reads as it did. -/
def fnExactFirstLampsUptoRow : OpenClaim := { program := "ytaimpeajeppaiaadoor", sum := "a06fa855368509917bf80ed6135be1d5b0c8e3f08f99c76e5113d23a7f1c1961", func := "loop.example/g01336/laws.FnExactFirstLamps", spec := "fnExactFirstLamps", inPlace := ["internal/bytealg.IndexByteString", "internal/bytealg.IndexString"], unfollowed := true, recurses := true, named := ["unicode/utf8.first", "unicode/utf8.acceptRanges", "internal/bytealg.MaxLen"], plainKeys := false, apart := false, laid := [("unicode/utf8.acceptRanges", laid_unicode_utf8_acceptRanges), ("unicode/utf8.first", laid_unicode_utf8_first)], narrowed := true }
def FnExactFirstLampsUptoSaid : Prop := fnExactFirstLampsUptoRow.holds Tryd.pinned (OpenSpec.upto fnExactFirstLampsSpec)

/-- 'laws.FnExactCountLamps', WHERE WHAT IT READS IS OF BULK AT MOST 1048576: true; the input reads as it did. -/
def fnExactCountLampsUptoRow : OpenClaim := { program := "ytaimpeajeppaiaadoor", sum := "a06fa855368509917bf80ed6135be1d5b0c8e3f08f99c76e5113d23a7f1c1961", func := "loop.example/g01336/laws.FnExactCountLamps", spec := "fnExactCountLamps", inPlace := ["internal/bytealg.IndexByteString", "internal/bytealg.IndexString"], unfollowed := true, recurses := true, named := ["unicode/utf8.first", "unicode/utf8.acceptRanges", "internal/bytealg.MaxLen"], plainKeys := false, apart := false, laid := [("unicode/utf8.acceptRanges", laid_unicode_utf8_acceptRanges), ("unicode/utf8.first", laid_unicode_utf8_first)], narrowed := true }
def FnExactCountLampsUptoSaid : Prop := fnExactCountLampsUptoRow.holds Tryd.pinned (OpenSpec.upto fnExactCountLampsSpec)

/-- 'laws.FnExactLitBy', WHERE WHAT IT READS IS OF BULK AT MOST 1048576: true; the input reads as it did. -/
def fnExactLitByUptoRow : OpenClaim := { program := "ytaimpeajeppaiaadoor", sum := "a06fa855368509917bf80ed6135be1d5b0c8e3f08f99c76e5113d23a7f1c1961", func := "loop.example/g01336/laws.FnExactLitBy", spec := "fnExactLitBy", inPlace := ["internal/bytealg.IndexByteString", "internal/bytealg.IndexString"], named := ["unicode/utf8.first", "unicode/utf8.acceptRanges", "internal/bytealg.MaxLen"], plainKeys := false, apart := false, laid := [("unicode/utf8.acceptRanges", laid_unicode_utf8_acceptRanges), ("unicode/utf8.first", laid_unicode_utf8_first)], narrowed := true }
def FnExactLitByUptoSaid : Prop := fnExactLitByUptoRow.holds Tryd.pinned (OpenSpec.upto fnExactLitBySpec)

/-- 'laws.FnExactFewestGuards', WHERE WHAT IT READS IS OF BULK AT MOST 1048576: true; the input reads as it did. -/
def fnExactFewestGuardsUptoRow : OpenClaim := { program := "ytaimpeajeppaiaadoor", sum := "a06fa855368509917bf80ed6135be1d5b0c8e3f08f99c76e5113d23a7f1c1961", func := "loop.example/g01336/laws.FnExactFewestGuards", spec := "fnExactFewestGuards", inPlace := ["internal/abi.NoEscape", "internal/bytealg.MakeNoZero", "internal/bytealg.IndexByteString", "internal/bytealg.IndexString"], unfollowed := true, recurses := true, named := ["unicode/utf8.first", "unicode/utf8.acceptRanges", "internal/bytealg.MaxLen"], plainKeys := false, apart := false, laid := [("unicode/utf8.acceptRanges", laid_unicode_utf8_acceptRanges), ("unicode/utf8.first", laid_unicode_utf8_first)], narrowed := true }
def FnExactFewestGuardsUptoSaid : Prop := fnExactFewestGuardsUptoRow.holds Tryd.pinned (OpenSpec.upto fnExactFewestGuardsSpec)

/-- 'laws.FnExactTurnRow', WHERE WHAT IT READS IS OF BULK AT MOST 1048576: true; the input reads as it did. -/
def fnExactTurnRowUptoRow : OpenClaim := { program := "ytaimpeajeppaiaadoor", sum := "a06fa855368509917bf80ed6135be1d5b0c8e3f08f99c76e5113d23a7f1c1961", func := "loop.example/g01336/laws.FnExactTurnRow", spec := "fnExactTurnRow", inPlace := ["internal/bytealg.IndexByteString", "internal/bytealg.IndexString"], named := ["unicode/utf8.first", "unicode/utf8.acceptRanges", "internal/bytealg.MaxLen"], plainKeys := false, apart := false, laid := [("unicode/utf8.acceptRanges", laid_unicode_utf8_acceptRanges), ("unicode/utf8.first", laid_unicode_utf8_first)], narrowed := true }
def FnExactTurnRowUptoSaid : Prop := fnExactTurnRowUptoRow.holds Tryd.pinned (OpenSpec.upto fnExactTurnRowSpec)

/-- 'laws.FnExactIsLitRow', WHERE WHAT IT READS IS OF BULK AT MOST 1048576: true; the input reads as it did. -/
def fnExactIsLitRowUptoRow : OpenClaim := { program := "ytaimpeajeppaiaadoor", sum := "a06fa855368509917bf80ed6135be1d5b0c8e3f08f99c76e5113d23a7f1c1961", func := "loop.example/g01336/laws.FnExactIsLitRow", spec := "fnExactIsLitRow", inPlace := ["internal/bytealg.IndexByteString", "internal/bytealg.IndexString"], named := ["unicode/utf8.first", "unicode/utf8.acceptRanges", "internal/bytealg.MaxLen"], plainKeys := false, apart := false, laid := [("unicode/utf8.acceptRanges", laid_unicode_utf8_acceptRanges), ("unicode/utf8.first", laid_unicode_utf8_first)], narrowed := true }
def FnExactIsLitRowUptoSaid : Prop := fnExactIsLitRowUptoRow.holds Tryd.pinned (OpenSpec.upto fnExactIsLitRowSpec)

end Rows
end Go.Proofs.YtaimpeajeppaiaaDoor
