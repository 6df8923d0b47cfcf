/-
  NARROWER THAN 'FOR EVERY INPUT', by the rows' own cells (each row's printed sentence says how): FnExactAreWays: laid · FnExactCanDrive: laid · FnExactDriveWord: laid · FnExactHasRing: laid · FnExactRoundOfBlock: laid · FnExactCountRounds: laid · FnExactTurnWay: laid · FnExactBackWays: laid · FnExactWaysText: laid · FnExactParseWays: laid.
  DERIVED. THE GIVEN ROWS OF THIS SEAT. 10 by the template 'for every input the law returns true; each argument reads behind the call as it read before'; 0 by the template 'total and deterministic' (their statements: YtcmjckipicmmeaaDoorTotals.lean).
  GIVEN WITH THE SEED: the statements are not yours to turn. If you find one false, say at which input.
  Laid BY PROGRAM, IN A SANDBOX (cutbox-rows.mjs): the forced cells as the released guide's own fill.sh prints them over the translation fa951e59e1627ac0… (all of the seat's roots in one cut). By AI agents, Wed Nov 11 2026. No macro, syntax, notation, axiom, sorry.
-/
import Derived.Test.YtcmjckipicmmeaaDoorChecked
import GoSem.PinnedTables
import GoSem.Claim
import GoSem.ClaimJoined
import GoSem.ClaimMapViews
import Derived.JoinedTies
import Derived.KernelRfl
namespace Go.Proofs.YtcmjckipicmmeaaDoor
/- THE CELL 'sum', in the pinned program and in every row, IS THE sha256 OF THE DUMP (.gsa) THAT YtcmjckipicmmeaaDoorProg.lean LOADS. Nothing in Lean hashes anything: it is a label: what it is worth is what the hold of that sum in a sandbox is worth. -/
noncomputable def Tryd.pinned : Pinned := { name := "ytcmjckipicmmeaadoor", sum := "fa951e59e1627ac0065823a9a05a19f06b9b63f13db7801fb1141c48335bb814", checked := Tryd.checked }
namespace Rows
def none {H : Type} : Left H := { results := [], args := [] }

/- WHAT THE LISTED PACKAGE-LEVEL VARIABLES READ AS WHEN THE CALL BEGINS. Each datum BY PROGRAM (the guide's laid-datum.mjs) off the statement by which the dump's own 'gosem.cut.vars' lays the variable. In a bare row this is a premise. The card (YtcmjckipicmmeaaDoorCards.lean) ties it to the program's text. -/
def laid_unicode_utf8_acceptRanges {H : Type} : DataW H := .agg [.agg [.lit (.int .u8 128), .lit (.int .u8 191)], .agg [.lit (.int .u8 160), .lit (.int .u8 191)], .agg [.lit (.int .u8 128), .lit (.int .u8 159)], .agg [.lit (.int .u8 144), .lit (.int .u8 191)], .agg [.lit (.int .u8 128), .lit (.int .u8 143)], .agg [.lit (.int .u8 0), .lit (.int .u8 0)], .agg [.lit (.int .u8 0), .lit (.int .u8 0)], .agg [.lit (.int .u8 0), .lit (.int .u8 0)], .agg [.lit (.int .u8 0), .lit (.int .u8 0)], .agg [.lit (.int .u8 0), .lit (.int .u8 0)], .agg [.lit (.int .u8 0), .lit (.int .u8 0)], .agg [.lit (.int .u8 0), .lit (.int .u8 0)], .agg [.lit (.int .u8 0), .lit (.int .u8 0)], .agg [.lit (.int .u8 0), .lit (.int .u8 0)], .agg [.lit (.int .u8 0), .lit (.int .u8 0)], .agg [.lit (.int .u8 0), .lit (.int .u8 0)]]
/-- One of Go's own tables, pinned by name: the form's constant. -/
def laid_unicode_utf8_first : DataW Unit := Go.Pinned.utf8First

/-- 'laws.FnExactAreWays': WHATEVER THE INPUT: true; the input reads as it did. -/
def fnExactAreWaysSpec : ChangeSpec := { name := "fnExactAreWays", fn := fun _ => fun
  | [d] => { results := [.lit (.bool true)], args := [d] }
  | _ => none }
def fnExactAreWaysRow : OpenClaim := { program := "ytcmjckipicmmeaadoor", sum := "fa951e59e1627ac0065823a9a05a19f06b9b63f13db7801fb1141c48335bb814", func := "loop.example/g01336/laws.FnExactAreWays", spec := "fnExactAreWays", inPlace := ["internal/bytealg.IndexByteString", "internal/bytealg.IndexString"], named := ["unicode/utf8.first", "unicode/utf8.acceptRanges", "internal/bytealg.MaxLen"], apart := false, laid := [("unicode/utf8.acceptRanges", laid_unicode_utf8_acceptRanges), ("unicode/utf8.first", laid_unicode_utf8_first)] }
def FnExactAreWaysSaid : Prop := fnExactAreWaysRow.holds Tryd.pinned (OpenSpec.ofChange fnExactAreWaysSpec)

/-- ITS FALSE NEIGHBOUR: 'it returns false'. Refute it at one input. -/
def fnExactAreWaysWrong : ChangeSpec := { name := "fnExactAreWays", fn := fun _ => fun
  | [d] => { results := [.lit (.bool false)], args := [d] }
  | _ => none }
def FnExactAreWaysWrongFalsely : Prop := fnExactAreWaysRow.holds Tryd.pinned (OpenSpec.ofChange fnExactAreWaysWrong)

/-- 'laws.FnExactCanDrive': WHATEVER THE INPUT: true; the input reads as it did. -/
def fnExactCanDriveSpec : ChangeSpec := { name := "fnExactCanDrive", fn := fun _ => fun
  | [d1, d2, d3] => { results := [.lit (.bool true)], args := [d1, d2, d3] }
  | _ => none }
def fnExactCanDriveRow : OpenClaim := { program := "ytcmjckipicmmeaadoor", sum := "fa951e59e1627ac0065823a9a05a19f06b9b63f13db7801fb1141c48335bb814", func := "loop.example/g01336/laws.FnExactCanDrive", spec := "fnExactCanDrive", inPlace := ["internal/bytealg.IndexByteString", "internal/bytealg.IndexString"], unfollowed := true, recurses := true, named := ["unicode/utf8.first", "unicode/utf8.acceptRanges", "internal/bytealg.MaxLen"], apart := false, laid := [("unicode/utf8.acceptRanges", laid_unicode_utf8_acceptRanges), ("unicode/utf8.first", laid_unicode_utf8_first)] }
def FnExactCanDriveSaid : Prop := fnExactCanDriveRow.holds Tryd.pinned (OpenSpec.ofChange fnExactCanDriveSpec)

/-- ITS FALSE NEIGHBOUR: 'it returns false'. Refute it at one input. -/
def fnExactCanDriveWrong : ChangeSpec := { name := "fnExactCanDrive", fn := fun _ => fun
  | [d1, d2, d3] => { results := [.lit (.bool false)], args := [d1, d2, d3] }
  | _ => none }
def FnExactCanDriveWrongFalsely : Prop := fnExactCanDriveRow.holds Tryd.pinned (OpenSpec.ofChange fnExactCanDriveWrong)

/-- 'laws.FnExactDriveWord': WHATEVER THE INPUT: true; the input reads as it did. -/
def fnExactDriveWordSpec : ChangeSpec := { name := "fnExactDriveWord", fn := fun _ => fun
  | [d1, d2, d3] => { results := [.lit (.bool true)], args := [d1, d2, d3] }
  | _ => none }
def fnExactDriveWordRow : OpenClaim := { program := "ytcmjckipicmmeaadoor", sum := "fa951e59e1627ac0065823a9a05a19f06b9b63f13db7801fb1141c48335bb814", func := "loop.example/g01336/laws.FnExactDriveWord", spec := "fnExactDriveWord", inPlace := ["internal/bytealg.IndexByteString", "internal/bytealg.IndexString"], unfollowed := true, recurses := true, named := ["unicode/utf8.first", "unicode/utf8.acceptRanges", "internal/bytealg.MaxLen"], apart := false, laid := [("unicode/utf8.acceptRanges", laid_unicode_utf8_acceptRanges), ("unicode/utf8.first", laid_unicode_utf8_first)] }
def FnExactDriveWordSaid : Prop := fnExactDriveWordRow.holds Tryd.pinned (OpenSpec.ofChange fnExactDriveWordSpec)

/-- ITS FALSE NEIGHBOUR: 'it returns false'. Refute it at one input. -/
def fnExactDriveWordWrong : ChangeSpec := { name := "fnExactDriveWord", fn := fun _ => fun
  | [d1, d2, d3] => { results := [.lit (.bool false)], args := [d1, d2, d3] }
  | _ => none }
def FnExactDriveWordWrongFalsely : Prop := fnExactDriveWordRow.holds Tryd.pinned (OpenSpec.ofChange fnExactDriveWordWrong)

/-- 'laws.FnExactHasRing': WHATEVER THE INPUT: true; the input reads as it did. -/
def fnExactHasRingSpec : ChangeSpec := { name := "fnExactHasRing", fn := fun _ => fun
  | [d] => { results := [.lit (.bool true)], args := [d] }
  | _ => none }
def fnExactHasRingRow : OpenClaim := { program := "ytcmjckipicmmeaadoor", sum := "fa951e59e1627ac0065823a9a05a19f06b9b63f13db7801fb1141c48335bb814", func := "loop.example/g01336/laws.FnExactHasRing", spec := "fnExactHasRing", inPlace := ["internal/bytealg.IndexByteString", "internal/bytealg.IndexString"], named := ["unicode/utf8.first", "unicode/utf8.acceptRanges", "internal/bytealg.MaxLen"], apart := false, laid := [("unicode/utf8.acceptRanges", laid_unicode_utf8_acceptRanges), ("unicode/utf8.first", laid_unicode_utf8_first)] }
def FnExactHasRingSaid : Prop := fnExactHasRingRow.holds Tryd.pinned (OpenSpec.ofChange fnExactHasRingSpec)

/-- ITS FALSE NEIGHBOUR: 'it returns false'. Refute it at one input. -/
def fnExactHasRingWrong : ChangeSpec := { name := "fnExactHasRing", fn := fun _ => fun
  | [d] => { results := [.lit (.bool false)], args := [d] }
  | _ => none }
def FnExactHasRingWrongFalsely : Prop := fnExactHasRingRow.holds Tryd.pinned (OpenSpec.ofChange fnExactHasRingWrong)

/-- 'laws.FnExactRoundOfBlock': WHATEVER THE INPUT: true; the input reads as it did. -/
def fnExactRoundOfBlockSpec : ChangeSpec := { name := "fnExactRoundOfBlock", fn := fun _ => fun
  | [d1, d2, d3] => { results := [.lit (.bool true)], args := [d1, d2, d3] }
  | _ => none }
def fnExactRoundOfBlockRow : OpenClaim := { program := "ytcmjckipicmmeaadoor", sum := "fa951e59e1627ac0065823a9a05a19f06b9b63f13db7801fb1141c48335bb814", func := "loop.example/g01336/laws.FnExactRoundOfBlock", spec := "fnExactRoundOfBlock", inPlace := ["internal/bytealg.IndexByteString", "internal/bytealg.IndexString"], named := ["unicode/utf8.first", "unicode/utf8.acceptRanges", "internal/bytealg.MaxLen"], apart := false, laid := [("unicode/utf8.acceptRanges", laid_unicode_utf8_acceptRanges), ("unicode/utf8.first", laid_unicode_utf8_first)] }
def FnExactRoundOfBlockSaid : Prop := fnExactRoundOfBlockRow.holds Tryd.pinned (OpenSpec.ofChange fnExactRoundOfBlockSpec)

/-- ITS FALSE NEIGHBOUR: 'it returns false'. Refute it at one input. -/
def fnExactRoundOfBlockWrong : ChangeSpec := { name := "fnExactRoundOfBlock", fn := fun _ => fun
  | [d1, d2, d3] => { results := [.lit (.bool false)], args := [d1, d2, d3] }
  | _ => none }
def FnExactRoundOfBlockWrongFalsely : Prop := fnExactRoundOfBlockRow.holds Tryd.pinned (OpenSpec.ofChange fnExactRoundOfBlockWrong)

/-- 'laws.FnExactCountRounds': WHATEVER THE INPUT: true; the input reads as it did. -/
def fnExactCountRoundsSpec : ChangeSpec := { name := "fnExactCountRounds", fn := fun _ => fun
  | [d] => { results := [.lit (.bool true)], args := [d] }
  | _ => none }
def fnExactCountRoundsRow : OpenClaim := { program := "ytcmjckipicmmeaadoor", sum := "fa951e59e1627ac0065823a9a05a19f06b9b63f13db7801fb1141c48335bb814", func := "loop.example/g01336/laws.FnExactCountRounds", spec := "fnExactCountRounds", inPlace := ["internal/bytealg.IndexByteString", "internal/bytealg.IndexString"], named := ["unicode/utf8.first", "unicode/utf8.acceptRanges", "internal/bytealg.MaxLen"], apart := false, laid := [("unicode/utf8.acceptRanges", laid_unicode_utf8_acceptRanges), ("unicode/utf8.first", laid_unicode_utf8_first)] }
def FnExactCountRoundsSaid : Prop := fnExactCountRoundsRow.holds Tryd.pinned (OpenSpec.ofChange fnExactCountRoundsSpec)

/-- ITS FALSE NEIGHBOUR: 'it returns false'. Refute it at one input. -/
def fnExactCountRoundsWrong : ChangeSpec := { name := "fnExactCountRounds", fn := fun _ => fun
  | [d] => { results := [.lit (.bool false)], args := [d] }
  | _ => none }
def FnExactCountRoundsWrongFalsely : Prop := fnExactCountRoundsRow.holds Tryd.pinned (OpenSpec.ofChange fnExactCountRoundsWrong)

/-- 'laws.FnExactTurnWay': WHATEVER THE INPUT: true; the input reads as it did. -/
def fnExactTurnWaySpec : ChangeSpec := { name := "fnExactTurnWay", fn := fun _ => fun
  | [d1, d2] => { results := [.lit (.bool true)], args := [d1, d2] }
  | _ => none }
def fnExactTurnWayRow : OpenClaim := { program := "ytcmjckipicmmeaadoor", sum := "fa951e59e1627ac0065823a9a05a19f06b9b63f13db7801fb1141c48335bb814", func := "loop.example/g01336/laws.FnExactTurnWay", spec := "fnExactTurnWay", inPlace := ["internal/bytealg.IndexByteString", "internal/bytealg.IndexString"], named := ["unicode/utf8.first", "unicode/utf8.acceptRanges", "internal/bytealg.MaxLen"], apart := false, laid := [("unicode/utf8.acceptRanges", laid_unicode_utf8_acceptRanges), ("unicode/utf8.first", laid_unicode_utf8_first)] }
def FnExactTurnWaySaid : Prop := fnExactTurnWayRow.holds Tryd.pinned (OpenSpec.ofChange fnExactTurnWaySpec)

/-- ITS FALSE NEIGHBOUR: 'it returns false'. Refute it at one input. -/
def fnExactTurnWayWrong : ChangeSpec := { name := "fnExactTurnWay", fn := fun _ => fun
  | [d1, d2] => { results := [.lit (.bool false)], args := [d1, d2] }
  | _ => none }
def FnExactTurnWayWrongFalsely : Prop := fnExactTurnWayRow.holds Tryd.pinned (OpenSpec.ofChange fnExactTurnWayWrong)

/-- 'laws.FnExactBackWays': WHATEVER THE INPUT: true; the input reads as it did. -/
def fnExactBackWaysSpec : ChangeSpec := { name := "fnExactBackWays", fn := fun _ => fun
  | [d] => { results := [.lit (.bool true)], args := [d] }
  | _ => none }
def fnExactBackWaysRow : OpenClaim := { program := "ytcmjckipicmmeaadoor", sum := "fa951e59e1627ac0065823a9a05a19f06b9b63f13db7801fb1141c48335bb814", func := "loop.example/g01336/laws.FnExactBackWays", spec := "fnExactBackWays", inPlace := ["internal/bytealg.IndexByteString", "internal/bytealg.IndexString"], named := ["unicode/utf8.first", "unicode/utf8.acceptRanges", "internal/bytealg.MaxLen"], apart := false, laid := [("unicode/utf8.acceptRanges", laid_unicode_utf8_acceptRanges), ("unicode/utf8.first", laid_unicode_utf8_first)] }
def FnExactBackWaysSaid : Prop := fnExactBackWaysRow.holds Tryd.pinned (OpenSpec.ofChange fnExactBackWaysSpec)

/-- ITS FALSE NEIGHBOUR: 'it returns false'. Refute it at one input. -/
def fnExactBackWaysWrong : ChangeSpec := { name := "fnExactBackWays", fn := fun _ => fun
  | [d] => { results := [.lit (.bool false)], args := [d] }
  | _ => none }
def FnExactBackWaysWrongFalsely : Prop := fnExactBackWaysRow.holds Tryd.pinned (OpenSpec.ofChange fnExactBackWaysWrong)

/-- 'laws.FnExactWaysText': WHATEVER THE INPUT: true; the input reads as it did. -/
def fnExactWaysTextSpec : ChangeSpec := { name := "fnExactWaysText", fn := fun _ => fun
  | [d] => { results := [.lit (.bool true)], args := [d] }
  | _ => none }
def fnExactWaysTextRow : OpenClaim := { program := "ytcmjckipicmmeaadoor", sum := "fa951e59e1627ac0065823a9a05a19f06b9b63f13db7801fb1141c48335bb814", func := "loop.example/g01336/laws.FnExactWaysText", spec := "fnExactWaysText", inPlace := ["internal/bytealg.IndexByteString", "internal/bytealg.IndexString"], named := ["unicode/utf8.first", "unicode/utf8.acceptRanges", "internal/bytealg.MaxLen"], apart := false, laid := [("unicode/utf8.acceptRanges", laid_unicode_utf8_acceptRanges), ("unicode/utf8.first", laid_unicode_utf8_first)] }
def FnExactWaysTextSaid : Prop := fnExactWaysTextRow.holds Tryd.pinned (OpenSpec.ofChange fnExactWaysTextSpec)

/-- ITS FALSE NEIGHBOUR: 'it returns false'. Refute it at one input. -/
def fnExactWaysTextWrong : ChangeSpec := { name := "fnExactWaysText", fn := fun _ => fun
  | [d] => { results := [.lit (.bool false)], args := [d] }
  | _ => none }
def FnExactWaysTextWrongFalsely : Prop := fnExactWaysTextRow.holds Tryd.pinned (OpenSpec.ofChange fnExactWaysTextWrong)

/-- 'laws.FnExactParseWays': WHATEVER THE INPUT: true; the input reads as it did. -/
def fnExactParseWaysSpec : ChangeSpec := { name := "fnExactParseWays", fn := fun _ => fun
  | [d] => { results := [.lit (.bool true)], args := [d] }
  | _ => none }
def fnExactParseWaysRow : OpenClaim := { program := "ytcmjckipicmmeaadoor", sum := "fa951e59e1627ac0065823a9a05a19f06b9b63f13db7801fb1141c48335bb814", func := "loop.example/g01336/laws.FnExactParseWays", spec := "fnExactParseWays", inPlace := ["internal/bytealg.IndexByteString", "internal/bytealg.IndexString"], named := ["internal/bytealg.MaxLen", "unicode/utf8.first", "unicode/utf8.acceptRanges"], apart := false, laid := [("unicode/utf8.acceptRanges", laid_unicode_utf8_acceptRanges), ("unicode/utf8.first", laid_unicode_utf8_first)] }
def FnExactParseWaysSaid : Prop := fnExactParseWaysRow.holds Tryd.pinned (OpenSpec.ofChange fnExactParseWaysSpec)

/-- ITS FALSE NEIGHBOUR: 'it returns false'. Refute it at one input. -/
def fnExactParseWaysWrong : ChangeSpec := { name := "fnExactParseWays", fn := fun _ => fun
  | [d] => { results := [.lit (.bool false)], args := [d] }
  | _ => none }
def FnExactParseWaysWrongFalsely : Prop := fnExactParseWaysRow.holds Tryd.pinned (OpenSpec.ofChange fnExactParseWaysWrong)

/- THE SECOND FORM. 'bulk': how many values and letters a reading holds, each counted each time it is reached (what is shared counts as often as it is met; a slice's spare places count too). A statement '..UptoSaid' is the law's where the arguments, and the package variables that the reading takes, are together of bulk at most 1048576: NARROWER than '..Said'. Prove '..Said' where nothing that the law and all that it calls make is longer than what came in: it says more and counts as full. Else prove '..UptoSaid'. A law counts once. -/
mutual
def uptoBulk {H : Type} : DataW H → Nat
  | .lit (.string bytes) => bytes.length + 1
  | .lit _ => 1
  | .nil => 1
  | .ptr d => uptoBulk d + 1
  | .slice elems spare => uptoBulkAll elems + uptoBulkAll spare + 1
  | .agg parts => uptoBulkAll parts + 1
  | .iface _ d => uptoBulk d + 1
  | .map entries => uptoBulkEntries entries + 1
  | .held _ => 1
def uptoBulkAll {H : Type} : List (DataW H) → Nat
  | [] => 0
  | d :: r => uptoBulk d + uptoBulkAll r
def uptoBulkEntries {H : Type} : List (Lit × DataW H) → Nat
  | [] => 0
  | x :: r => uptoBulkEntry x + uptoBulkEntries r
def uptoBulkEntry {H : Type} : Lit × DataW H → Nat
  | (.string bytes, d) => bytes.length + uptoBulk d + 1
  | (_, d) => uptoBulk d + 1
 end
def uptoSmall : (H : Type) → List (DataW H) → Bool := fun _ ds => decide (uptoBulkAll ds ≤ 1048576)
def OpenSpec.upto (s : _root_.Go.ChangeSpec) : _root_.Go.OpenSpec := { _root_.Go.OpenSpec.ofChange s with cond := some uptoSmall }

/-- 'laws.FnExactAreWays', WHERE WHAT IT READS IS OF BULK AT MOST 1048576: true; the input reads as it did. -/
def fnExactAreWaysUptoRow : OpenClaim := { program := "ytcmjckipicmmeaadoor", sum := "fa951e59e1627ac0065823a9a05a19f06b9b63f13db7801fb1141c48335bb814", func := "loop.example/g01336/laws.FnExactAreWays", spec := "fnExactAreWays", inPlace := ["internal/bytealg.IndexByteString", "internal/bytealg.IndexString"], named := ["unicode/utf8.first", "unicode/utf8.acceptRanges", "internal/bytealg.MaxLen"], apart := false, laid := [("unicode/utf8.acceptRanges", laid_unicode_utf8_acceptRanges), ("unicode/utf8.first", laid_unicode_utf8_first)], narrowed := true }
def FnExactAreWaysUptoSaid : Prop := fnExactAreWaysUptoRow.holds Tryd.pinned (OpenSpec.upto fnExactAreWaysSpec)

/-- 'laws.FnExactCanDrive', WHERE WHAT IT READS IS OF BULK AT MOST 1048576: true; the input reads as it did. -/
def fnExactCanDriveUptoRow : OpenClaim := { program := "ytcmjckipicmmeaadoor", sum := "fa951e59e1627ac0065823a9a05a19f06b9b63f13db7801fb1141c48335bb814", func := "loop.example/g01336/laws.FnExactCanDrive", spec := "fnExactCanDrive", inPlace := ["internal/bytealg.IndexByteString", "internal/bytealg.IndexString"], unfollowed := true, recurses := true, named := ["unicode/utf8.first", "unicode/utf8.acceptRanges", "internal/bytealg.MaxLen"], apart := false, laid := [("unicode/utf8.acceptRanges", laid_unicode_utf8_acceptRanges), ("unicode/utf8.first", laid_unicode_utf8_first)], narrowed := true }
def FnExactCanDriveUptoSaid : Prop := fnExactCanDriveUptoRow.holds Tryd.pinned (OpenSpec.upto fnExactCanDriveSpec)

/-- 'laws.FnExactDriveWord', WHERE WHAT IT READS IS OF BULK AT MOST 1048576: true; the input reads as it did. -/
def fnExactDriveWordUptoRow : OpenClaim := { program := "ytcmjckipicmmeaadoor", sum := "fa951e59e1627ac0065823a9a05a19f06b9b63f13db7801fb1141c48335bb814", func := "loop.example/g01336/laws.FnExactDriveWord", spec := "fnExactDriveWord", inPlace := ["internal/bytealg.IndexByteString", "internal/bytealg.IndexString"], unfollowed := true, recurses := true, named := ["unicode/utf8.first", "unicode/utf8.acceptRanges", "internal/bytealg.MaxLen"], apart := false, laid := [("unicode/utf8.acceptRanges", laid_unicode_utf8_acceptRanges), ("unicode/utf8.first", laid_unicode_utf8_first)], narrowed := true }
def FnExactDriveWordUptoSaid : Prop := fnExactDriveWordUptoRow.holds Tryd.pinned (OpenSpec.upto fnExactDriveWordSpec)

/-- 'laws.FnExactHasRing', WHERE WHAT IT READS IS OF BULK AT MOST 1048576: true; the input reads as it did. -/
def fnExactHasRingUptoRow : OpenClaim := { program := "ytcmjckipicmmeaadoor", sum := "fa951e59e1627ac0065823a9a05a19f06b9b63f13db7801fb1141c48335bb814", func := "loop.example/g01336/laws.FnExactHasRing", spec := "fnExactHasRing", inPlace := ["internal/bytealg.IndexByteString", "internal/bytealg.IndexString"], named := ["unicode/utf8.first", "unicode/utf8.acceptRanges", "internal/bytealg.MaxLen"], apart := false, laid := [("unicode/utf8.acceptRanges", laid_unicode_utf8_acceptRanges), ("unicode/utf8.first", laid_unicode_utf8_first)], narrowed := true }
def FnExactHasRingUptoSaid : Prop := fnExactHasRingUptoRow.holds Tryd.pinned (OpenSpec.upto fnExactHasRingSpec)

/-- 'laws.FnExactRoundOfBlock', WHERE WHAT IT READS IS OF BULK AT MOST 1048576: true; the input reads as it did. -/
def fnExactRoundOfBlockUptoRow : OpenClaim := { program := "ytcmjckipicmmeaadoor", sum := "fa951e59e1627ac0065823a9a05a19f06b9b63f13db7801fb1141c48335bb814", func := "loop.example/g01336/laws.FnExactRoundOfBlock", spec := "fnExactRoundOfBlock", inPlace := ["internal/bytealg.IndexByteString", "internal/bytealg.IndexString"], named := ["unicode/utf8.first", "unicode/utf8.acceptRanges", "internal/bytealg.MaxLen"], apart := false, laid := [("unicode/utf8.acceptRanges", laid_unicode_utf8_acceptRanges), ("unicode/utf8.first", laid_unicode_utf8_first)], narrowed := true }
def FnExactRoundOfBlockUptoSaid : Prop := fnExactRoundOfBlockUptoRow.holds Tryd.pinned (OpenSpec.upto fnExactRoundOfBlockSpec)

/-- 'laws.FnExactCountRounds', WHERE WHAT IT READS IS OF BULK AT MOST 1048576: true; the input reads as it did. -/
def fnExactCountRoundsUptoRow : OpenClaim := { program := "ytcmjckipicmmeaadoor", sum := "fa951e59e1627ac0065823a9a05a19f06b9b63f13db7801fb1141c48335bb814", func := "loop.example/g01336/laws.FnExactCountRounds", spec := "fnExactCountRounds", inPlace := ["internal/bytealg.IndexByteString", "internal/bytealg.IndexString"], named := ["unicode/utf8.first", "unicode/utf8.acceptRanges", "internal/bytealg.MaxLen"], apart := false, laid := [("unicode/utf8.acceptRanges", laid_unicode_utf8_acceptRanges), ("unicode/utf8.first", laid_unicode_utf8_first)], narrowed := true }
def FnExactCountRoundsUptoSaid : Prop := fnExactCountRoundsUptoRow.holds Tryd.pinned (OpenSpec.upto fnExactCountRoundsSpec)

/-- 'laws.FnExactTurnWay', WHERE WHAT IT READS IS OF BULK AT MOST 1048576: true; the input reads as it did. -/
def fnExactTurnWayUptoRow : OpenClaim := { program := "ytcmjckipicmmeaadoor", sum := "fa951e59e1627ac0065823a9a05a19f06b9b63f13db7801fb1141c48335bb814", func := "loop.example/g01336/laws.FnExactTurnWay", spec := "fnExactTurnWay", inPlace := ["internal/bytealg.IndexByteString", "internal/bytealg.IndexString"], named := ["unicode/utf8.first", "unicode/utf8.acceptRanges", "internal/bytealg.MaxLen"], apart := false, laid := [("unicode/utf8.acceptRanges", laid_unicode_utf8_acceptRanges), ("unicode/utf8.first", laid_unicode_utf8_first)], narrowed := true }
def FnExactTurnWayUptoSaid : Prop := fnExactTurnWayUptoRow.holds Tryd.pinned (OpenSpec.upto fnExactTurnWaySpec)

/-- 'laws.FnExactBackWays', WHERE WHAT IT READS IS OF BULK AT MOST 1048576: true; the input reads as it did. -/
def fnExactBackWaysUptoRow : OpenClaim := { program := "ytcmjckipicmmeaadoor", sum := "fa951e59e1627ac0065823a9a05a19f06b9b63f13db7801fb1141c48335bb814", func := "loop.example/g01336/laws.FnExactBackWays", spec := "fnExactBackWays", inPlace := ["internal/bytealg.IndexByteString", "internal/bytealg.IndexString"], named := ["unicode/utf8.first", "unicode/utf8.acceptRanges", "internal/bytealg.MaxLen"], apart := false, laid := [("unicode/utf8.acceptRanges", laid_unicode_utf8_acceptRanges), ("unicode/utf8.first", laid_unicode_utf8_first)], narrowed := true }
def FnExactBackWaysUptoSaid : Prop := fnExactBackWaysUptoRow.holds Tryd.pinned (OpenSpec.upto fnExactBackWaysSpec)

/-- 'laws.FnExactWaysText', WHERE WHAT IT READS IS OF BULK AT MOST 1048576: true; the input reads as it did. -/
def fnExactWaysTextUptoRow : OpenClaim := { program := "ytcmjckipicmmeaadoor", sum := "fa951e59e1627ac0065823a9a05a19f06b9b63f13db7801fb1141c48335bb814", func := "loop.example/g01336/laws.FnExactWaysText", spec := "fnExactWaysText", inPlace := ["internal/bytealg.IndexByteString", "internal/bytealg.IndexString"], named := ["unicode/utf8.first", "unicode/utf8.acceptRanges", "internal/bytealg.MaxLen"], apart := false, laid := [("unicode/utf8.acceptRanges", laid_unicode_utf8_acceptRanges), ("unicode/utf8.first", laid_unicode_utf8_first)], narrowed := true }
def FnExactWaysTextUptoSaid : Prop := fnExactWaysTextUptoRow.holds Tryd.pinned (OpenSpec.upto fnExactWaysTextSpec)

/-- 'laws.FnExactParseWays', WHERE WHAT IT READS IS OF BULK AT MOST 1048576: true; the input reads as it did. -/
def fnExactParseWaysUptoRow : OpenClaim := { program := "ytcmjckipicmmeaadoor", sum := "fa951e59e1627ac0065823a9a05a19f06b9b63f13db7801fb1141c48335bb814", func := "loop.example/g01336/laws.FnExactParseWays", spec := "fnExactParseWays", inPlace := ["internal/bytealg.IndexByteString", "internal/bytealg.IndexString"], named := ["internal/bytealg.MaxLen", "unicode/utf8.first", "unicode/utf8.acceptRanges"], apart := false, laid := [("unicode/utf8.acceptRanges", laid_unicode_utf8_acceptRanges), ("unicode/utf8.first", laid_unicode_utf8_first)], narrowed := true }
def FnExactParseWaysUptoSaid : Prop := fnExactParseWaysUptoRow.holds Tryd.pinned (OpenSpec.upto fnExactParseWaysSpec)

end Rows
end Go.Proofs.YtcmjckipicmmeaaDoor
