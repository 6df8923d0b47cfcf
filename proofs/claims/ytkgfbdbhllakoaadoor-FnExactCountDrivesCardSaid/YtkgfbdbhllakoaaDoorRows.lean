/-
  NARROWER THAN 'FOR EVERY INPUT', by the rows' own cells (each row's printed sentence says how): FnExactDriveDistance: laid · FnExactFirstDrive: laid · FnExactCountDrives: laid · FnExactFewestTurns: laid · FnExactThereAndBack: laid · FnExactDrivenFrom: laid · FnExactIsWholeWays: laid · FnExactLongestDrive: laid.
  DERIVED. THE GIVEN ROWS OF THIS SEAT. 8 by the template 'for every input the law returns true; each argument reads behind the call as it read before'; 0 by the template 'total and deterministic' (their statements: YtkgfbdbhllakoaaDoorTotals.lean).
  GIVEN WITH THE SEED: the statements are not yours to turn. If you find one false, say at which input.
  Laid BY PROGRAM, IN A SANDBOX (cutbox-rows.mjs): the forced cells as the released guide's own fill.sh prints them over the translation 677e41a705a20359… (all of the seat's roots in one cut). By AI agents, Wed Nov 11 2026. No macro, syntax, notation, axiom, sorry.
-/
import Derived.Test.YtkgfbdbhllakoaaDoorChecked
import GoSem.PinnedTables
import GoSem.Claim
import GoSem.ClaimJoined
import GoSem.ClaimMapViews
import Derived.JoinedTies
import Derived.KernelRfl
namespace Go.Proofs.YtkgfbdbhllakoaaDoor
/- THE CELL 'sum', in the pinned program and in every row, IS THE sha256 OF THE DUMP (.gsa) THAT YtkgfbdbhllakoaaDoorProg.lean LOADS. Nothing in Lean hashes anything: it is a label: what it is worth is what the hold of that sum in a sandbox is worth. -/
noncomputable def Tryd.pinned : Pinned := { name := "ytkgfbdbhllakoaadoor", sum := "677e41a705a2035985738cdf41feba4fb1a2bfcb97d5e24f14606095111aab17", checked := Tryd.checked }
namespace Rows
def none {H : Type} : Left H := { results := [], args := [] }

/- WHAT THE LISTED PACKAGE-LEVEL VARIABLES READ AS WHEN THE CALL BEGINS. Each datum BY PROGRAM (the guide's laid-datum.mjs) off the statement by which the dump's own 'gosem.cut.vars' lays the variable. In a bare row this is a premise. The card (YtkgfbdbhllakoaaDoorCards.lean) ties it to the program's text. -/
def laid_unicode_utf8_acceptRanges {H : Type} : DataW H := .agg [.agg [.lit (.int .u8 128), .lit (.int .u8 191)], .agg [.lit (.int .u8 160), .lit (.int .u8 191)], .agg [.lit (.int .u8 128), .lit (.int .u8 159)], .agg [.lit (.int .u8 144), .lit (.int .u8 191)], .agg [.lit (.int .u8 128), .lit (.int .u8 143)], .agg [.lit (.int .u8 0), .lit (.int .u8 0)], .agg [.lit (.int .u8 0), .lit (.int .u8 0)], .agg [.lit (.int .u8 0), .lit (.int .u8 0)], .agg [.lit (.int .u8 0), .lit (.int .u8 0)], .agg [.lit (.int .u8 0), .lit (.int .u8 0)], .agg [.lit (.int .u8 0), .lit (.int .u8 0)], .agg [.lit (.int .u8 0), .lit (.int .u8 0)], .agg [.lit (.int .u8 0), .lit (.int .u8 0)], .agg [.lit (.int .u8 0), .lit (.int .u8 0)], .agg [.lit (.int .u8 0), .lit (.int .u8 0)], .agg [.lit (.int .u8 0), .lit (.int .u8 0)]]
/-- One of Go's own tables, pinned by name: the form's constant. -/
def laid_unicode_utf8_first : DataW Unit := Go.Pinned.utf8First

/-- 'laws.FnExactDriveDistance': WHATEVER THE INPUT: true; the input reads as it did. -/
def fnExactDriveDistanceSpec : ChangeSpec := { name := "fnExactDriveDistance", fn := fun _ => fun
  | [d1, d2, d3] => { results := [.lit (.bool true)], args := [d1, d2, d3] }
  | _ => none }
def fnExactDriveDistanceRow : OpenClaim := { program := "ytkgfbdbhllakoaadoor", sum := "677e41a705a2035985738cdf41feba4fb1a2bfcb97d5e24f14606095111aab17", func := "loop.example/g01336/laws.FnExactDriveDistance", spec := "fnExactDriveDistance", inPlace := ["internal/bytealg.IndexByteString", "internal/bytealg.IndexString"], unfollowed := true, recurses := true, named := ["unicode/utf8.first", "unicode/utf8.acceptRanges", "internal/bytealg.MaxLen"], plainKeys := false, apart := false, laid := [("unicode/utf8.acceptRanges", laid_unicode_utf8_acceptRanges), ("unicode/utf8.first", laid_unicode_utf8_first)] }
def FnExactDriveDistanceSaid : Prop := fnExactDriveDistanceRow.holds Tryd.pinned (OpenSpec.ofChange fnExactDriveDistanceSpec)

/-- ITS FALSE NEIGHBOUR: 'it returns false'. Refute it at one input. -/
def fnExactDriveDistanceWrong : ChangeSpec := { name := "fnExactDriveDistance", fn := fun _ => fun
  | [d1, d2, d3] => { results := [.lit (.bool false)], args := [d1, d2, d3] }
  | _ => none }
def FnExactDriveDistanceWrongFalsely : Prop := fnExactDriveDistanceRow.holds Tryd.pinned (OpenSpec.ofChange fnExactDriveDistanceWrong)

/-- 'laws.FnExactFirstDrive': WHATEVER THE INPUT: true; the input reads as it did. -/
def fnExactFirstDriveSpec : ChangeSpec := { name := "fnExactFirstDrive", fn := fun _ => fun
  | [d1, d2, d3] => { results := [.lit (.bool true)], args := [d1, d2, d3] }
  | _ => none }
def fnExactFirstDriveRow : OpenClaim := { program := "ytkgfbdbhllakoaadoor", sum := "677e41a705a2035985738cdf41feba4fb1a2bfcb97d5e24f14606095111aab17", func := "loop.example/g01336/laws.FnExactFirstDrive", spec := "fnExactFirstDrive", inPlace := ["internal/bytealg.IndexByteString", "internal/bytealg.IndexString"], unfollowed := true, recurses := true, named := ["unicode/utf8.first", "unicode/utf8.acceptRanges", "internal/bytealg.MaxLen"], plainKeys := false, apart := false, laid := [("unicode/utf8.acceptRanges", laid_unicode_utf8_acceptRanges), ("unicode/utf8.first", laid_unicode_utf8_first)] }
def FnExactFirstDriveSaid : Prop := fnExactFirstDriveRow.holds Tryd.pinned (OpenSpec.ofChange fnExactFirstDriveSpec)

/-- ITS FALSE NEIGHBOUR: 'it returns false'. Refute it at one input. -/
def fnExactFirstDriveWrong : ChangeSpec := { name := "fnExactFirstDrive", fn := fun _ => fun
  | [d1, d2, d3] => { results := [.lit (.bool false)], args := [d1, d2, d3] }
  | _ => none }
def FnExactFirstDriveWrongFalsely : Prop := fnExactFirstDriveRow.holds Tryd.pinned (OpenSpec.ofChange fnExactFirstDriveWrong)

/-- 'laws.FnExactCountDrives': WHATEVER THE INPUT: true; the input reads as it did. -/
def fnExactCountDrivesSpec : ChangeSpec := { name := "fnExactCountDrives", fn := fun _ => fun
  | [d1, d2, d3] => { results := [.lit (.bool true)], args := [d1, d2, d3] }
  | _ => none }
def fnExactCountDrivesRow : OpenClaim := { program := "ytkgfbdbhllakoaadoor", sum := "677e41a705a2035985738cdf41feba4fb1a2bfcb97d5e24f14606095111aab17", func := "loop.example/g01336/laws.FnExactCountDrives", spec := "fnExactCountDrives", inPlace := ["internal/bytealg.IndexByteString", "internal/bytealg.IndexString"], unfollowed := true, recurses := true, named := ["unicode/utf8.first", "unicode/utf8.acceptRanges", "internal/bytealg.MaxLen"], plainKeys := false, apart := false, laid := [("unicode/utf8.acceptRanges", laid_unicode_utf8_acceptRanges), ("unicode/utf8.first", laid_unicode_utf8_first)] }
def FnExactCountDrivesSaid : Prop := fnExactCountDrivesRow.holds Tryd.pinned (OpenSpec.ofChange fnExactCountDrivesSpec)

/-- ITS FALSE NEIGHBOUR: 'it returns false'. Refute it at one input. -/
def fnExactCountDrivesWrong : ChangeSpec := { name := "fnExactCountDrives", fn := fun _ => fun
  | [d1, d2, d3] => { results := [.lit (.bool false)], args := [d1, d2, d3] }
  | _ => none }
def FnExactCountDrivesWrongFalsely : Prop := fnExactCountDrivesRow.holds Tryd.pinned (OpenSpec.ofChange fnExactCountDrivesWrong)

/-- 'laws.FnExactFewestTurns': WHATEVER THE INPUT: true; the input reads as it did. -/
def fnExactFewestTurnsSpec : ChangeSpec := { name := "fnExactFewestTurns", fn := fun _ => fun
  | [d1, d2, d3] => { results := [.lit (.bool true)], args := [d1, d2, d3] }
  | _ => none }
def fnExactFewestTurnsRow : OpenClaim := { program := "ytkgfbdbhllakoaadoor", sum := "677e41a705a2035985738cdf41feba4fb1a2bfcb97d5e24f14606095111aab17", func := "loop.example/g01336/laws.FnExactFewestTurns", spec := "fnExactFewestTurns", inPlace := ["internal/bytealg.IndexByteString", "internal/bytealg.IndexString"], unfollowed := true, recurses := true, named := ["unicode/utf8.first", "unicode/utf8.acceptRanges", "internal/bytealg.MaxLen"], plainKeys := false, apart := false, laid := [("unicode/utf8.acceptRanges", laid_unicode_utf8_acceptRanges), ("unicode/utf8.first", laid_unicode_utf8_first)] }
def FnExactFewestTurnsSaid : Prop := fnExactFewestTurnsRow.holds Tryd.pinned (OpenSpec.ofChange fnExactFewestTurnsSpec)

/-- ITS FALSE NEIGHBOUR: 'it returns false'. Refute it at one input. -/
def fnExactFewestTurnsWrong : ChangeSpec := { name := "fnExactFewestTurns", fn := fun _ => fun
  | [d1, d2, d3] => { results := [.lit (.bool false)], args := [d1, d2, d3] }
  | _ => none }
def FnExactFewestTurnsWrongFalsely : Prop := fnExactFewestTurnsRow.holds Tryd.pinned (OpenSpec.ofChange fnExactFewestTurnsWrong)

/-- 'laws.FnExactThereAndBack': WHATEVER THE INPUT: true; the input reads as it did. -/
def fnExactThereAndBackSpec : ChangeSpec := { name := "fnExactThereAndBack", fn := fun _ => fun
  | [d1, d2, d3] => { results := [.lit (.bool true)], args := [d1, d2, d3] }
  | _ => none }
def fnExactThereAndBackRow : OpenClaim := { program := "ytkgfbdbhllakoaadoor", sum := "677e41a705a2035985738cdf41feba4fb1a2bfcb97d5e24f14606095111aab17", func := "loop.example/g01336/laws.FnExactThereAndBack", spec := "fnExactThereAndBack", inPlace := ["internal/bytealg.IndexByteString", "internal/bytealg.IndexString"], unfollowed := true, recurses := true, named := ["unicode/utf8.first", "unicode/utf8.acceptRanges", "internal/bytealg.MaxLen"], plainKeys := false, apart := false, laid := [("unicode/utf8.acceptRanges", laid_unicode_utf8_acceptRanges), ("unicode/utf8.first", laid_unicode_utf8_first)] }
def FnExactThereAndBackSaid : Prop := fnExactThereAndBackRow.holds Tryd.pinned (OpenSpec.ofChange fnExactThereAndBackSpec)

/-- ITS FALSE NEIGHBOUR: 'it returns false'. Refute it at one input. -/
def fnExactThereAndBackWrong : ChangeSpec := { name := "fnExactThereAndBack", fn := fun _ => fun
  | [d1, d2, d3] => { results := [.lit (.bool false)], args := [d1, d2, d3] }
  | _ => none }
def FnExactThereAndBackWrongFalsely : Prop := fnExactThereAndBackRow.holds Tryd.pinned (OpenSpec.ofChange fnExactThereAndBackWrong)

/-- 'laws.FnExactDrivenFrom': WHATEVER THE INPUT: true; the input reads as it did. -/
def fnExactDrivenFromSpec : ChangeSpec := { name := "fnExactDrivenFrom", fn := fun _ => fun
  | [d1, d2] => { results := [.lit (.bool true)], args := [d1, d2] }
  | _ => none }
def fnExactDrivenFromRow : OpenClaim := { program := "ytkgfbdbhllakoaadoor", sum := "677e41a705a2035985738cdf41feba4fb1a2bfcb97d5e24f14606095111aab17", func := "loop.example/g01336/laws.FnExactDrivenFrom", spec := "fnExactDrivenFrom", inPlace := ["internal/bytealg.IndexByteString", "internal/bytealg.IndexString"], unfollowed := true, recurses := true, named := ["unicode/utf8.first", "unicode/utf8.acceptRanges", "internal/bytealg.MaxLen"], plainKeys := false, apart := false, laid := [("unicode/utf8.acceptRanges", laid_unicode_utf8_acceptRanges), ("unicode/utf8.first", laid_unicode_utf8_first)] }
def FnExactDrivenFromSaid : Prop := fnExactDrivenFromRow.holds Tryd.pinned (OpenSpec.ofChange fnExactDrivenFromSpec)

/-- ITS FALSE NEIGHBOUR: 'it returns false'. Refute it at one input. -/
def fnExactDrivenFromWrong : ChangeSpec := { name := "fnExactDrivenFrom", fn := fun _ => fun
  | [d1, d2] => { results := [.lit (.bool false)], args := [d1, d2] }
  | _ => none }
def FnExactDrivenFromWrongFalsely : Prop := fnExactDrivenFromRow.holds Tryd.pinned (OpenSpec.ofChange fnExactDrivenFromWrong)

/-- 'laws.FnExactIsWholeWays': WHATEVER THE INPUT: true; the input reads as it did. -/
def fnExactIsWholeWaysSpec : ChangeSpec := { name := "fnExactIsWholeWays", fn := fun _ => fun
  | [d] => { results := [.lit (.bool true)], args := [d] }
  | _ => none }
def fnExactIsWholeWaysRow : OpenClaim := { program := "ytkgfbdbhllakoaadoor", sum := "677e41a705a2035985738cdf41feba4fb1a2bfcb97d5e24f14606095111aab17", func := "loop.example/g01336/laws.FnExactIsWholeWays", spec := "fnExactIsWholeWays", inPlace := ["internal/bytealg.IndexByteString", "internal/bytealg.IndexString"], unfollowed := true, recurses := true, named := ["unicode/utf8.first", "unicode/utf8.acceptRanges", "internal/bytealg.MaxLen"], plainKeys := false, apart := false, laid := [("unicode/utf8.acceptRanges", laid_unicode_utf8_acceptRanges), ("unicode/utf8.first", laid_unicode_utf8_first)] }
def FnExactIsWholeWaysSaid : Prop := fnExactIsWholeWaysRow.holds Tryd.pinned (OpenSpec.ofChange fnExactIsWholeWaysSpec)

/-- ITS FALSE NEIGHBOUR: 'it returns false'. Refute it at one input. -/
def fnExactIsWholeWaysWrong : ChangeSpec := { name := "fnExactIsWholeWays", fn := fun _ => fun
  | [d] => { results := [.lit (.bool false)], args := [d] }
  | _ => none }
def FnExactIsWholeWaysWrongFalsely : Prop := fnExactIsWholeWaysRow.holds Tryd.pinned (OpenSpec.ofChange fnExactIsWholeWaysWrong)

/-- 'laws.FnExactLongestDrive': WHATEVER THE INPUT: true; the input reads as it did. -/
def fnExactLongestDriveSpec : ChangeSpec := { name := "fnExactLongestDrive", fn := fun _ => fun
  | [d] => { results := [.lit (.bool true)], args := [d] }
  | _ => none }
def fnExactLongestDriveRow : OpenClaim := { program := "ytkgfbdbhllakoaadoor", sum := "677e41a705a2035985738cdf41feba4fb1a2bfcb97d5e24f14606095111aab17", func := "loop.example/g01336/laws.FnExactLongestDrive", spec := "fnExactLongestDrive", inPlace := ["internal/bytealg.IndexByteString", "internal/bytealg.IndexString"], unfollowed := true, recurses := true, named := ["unicode/utf8.first", "unicode/utf8.acceptRanges", "internal/bytealg.MaxLen"], plainKeys := false, apart := false, laid := [("unicode/utf8.acceptRanges", laid_unicode_utf8_acceptRanges), ("unicode/utf8.first", laid_unicode_utf8_first)] }
def FnExactLongestDriveSaid : Prop := fnExactLongestDriveRow.holds Tryd.pinned (OpenSpec.ofChange fnExactLongestDriveSpec)

/-- ITS FALSE NEIGHBOUR: 'it returns false'. Refute it at one input. -/
def fnExactLongestDriveWrong : ChangeSpec := { name := "fnExactLongestDrive", fn := fun _ => fun
  | [d] => { results := [.lit (.bool false)], args := [d] }
  | _ => none }
def FnExactLongestDriveWrongFalsely : Prop := fnExactLongestDriveRow.holds Tryd.pinned (OpenSpec.ofChange fnExactLongestDriveWrong)

/- THE SECOND FORM. 'bulk': how many values and letters a reading holds, each counted each time it is reached (what is shared counts as often as it is met; a slice's spare places count too). A statement '..UptoSaid' is the law's where the arguments, and the package variables that the reading takes, are together of bulk at most 1048576: NARROWER than '..Said'. Prove '..Said' where nothing that the law and all that it calls make is longer than what came in: it says more and counts as full. Else prove '..UptoSaid'. A law counts once. -/
mutual
def uptoBulk {H : Type} : DataW H → Nat
  | .lit (.string bytes) => bytes.length + 1
  | .lit _ => 1
  | .nil => 1
  | .ptr d => uptoBulk d + 1
  | .slice elems spare => uptoBulkAll elems + uptoBulkAll spare + 1
  | .agg parts => uptoBulkAll parts + 1
  | .iface _ d => uptoBulk d + 1
  | .map entries => uptoBulkEntries entries + 1
  | .held _ => 1
def uptoBulkAll {H : Type} : List (DataW H) → Nat
  | [] => 0
  | d :: r => uptoBulk d + uptoBulkAll r
def uptoBulkEntries {H : Type} : List (Lit × DataW H) → Nat
  | [] => 0
  | x :: r => uptoBulkEntry x + uptoBulkEntries r
def uptoBulkEntry {H : Type} : Lit × DataW H → Nat
  | (.string bytes, d) => bytes.length + uptoBulk d + 1
  | (_, d) => uptoBulk d + 1
 end
def uptoSmall : (H : Type) → List (DataW H) → Bool := fun _ ds => decide (uptoBulkAll ds ≤ 1048576)
def OpenSpec.upto (s : _root_.Go.ChangeSpec) : _root_.Go.OpenSpec := { _root_.Go.OpenSpec.ofChange s with cond := some uptoSmall }

/-- 'laws.FnExactDriveDistance', WHERE WHAT IT READS IS OF BULK AT MOST 1048576: true; the input reads as it did. -/
def fnExactDriveDistanceUptoRow : OpenClaim := { program := "ytkgfbdbhllakoaadoor", sum := "677e41a705a2035985738cdf41feba4fb1a2bfcb97d5e24f14606095111aab17", func := "loop.example/g01336/laws.FnExactDriveDistance", spec := "fnExactDriveDistance", inPlace := ["internal/bytealg.IndexByteString", "internal/bytealg.IndexString"], unfollowed := true, recurses := true, named := ["unicode/utf8.first", "unicode/utf8.acceptRanges", "internal/bytealg.MaxLen"], plainKeys := false, apart := false, laid := [("unicode/utf8.acceptRanges", laid_unicode_utf8_acceptRanges), ("unicode/utf8.first", laid_unicode_utf8_first)], narrowed := true }
def FnExactDriveDistanceUptoSaid : Prop := fnExactDriveDistanceUptoRow.holds Tryd.pinned (OpenSpec.upto fnExactDriveDistanceSpec)

/-- 'laws.FnExactFirstDrive', WHERE WHAT IT READS IS OF BULK AT MOST 1048576: true; the input reads as it did. -/
def fnExactFirstDriveUptoRow : OpenClaim := { program := "ytkgfbdbhllakoaadoor", sum := "677e41a705a2035985738cdf41feba4fb1a2bfcb97d5e24f14606095111aab17", func := "loop.example/g01336/laws.FnExactFirstDrive", spec := "fnExactFirstDrive", inPlace := ["internal/bytealg.IndexByteString", "internal/bytealg.IndexString"], unfollowed := true, recurses := true, named := ["unicode/utf8.first", "unicode/utf8.acceptRanges", "internal/bytealg.MaxLen"], plainKeys := false, apart := false, laid := [("unicode/utf8.acceptRanges", laid_unicode_utf8_acceptRanges), ("unicode/utf8.first", laid_unicode_utf8_first)], narrowed := true }
def FnExactFirstDriveUptoSaid : Prop := fnExactFirstDriveUptoRow.holds Tryd.pinned (OpenSpec.upto fnExactFirstDriveSpec)

/-- 'laws.FnExactCountDrives', WHERE WHAT IT READS IS OF BULK AT MOST 1048576: true; the input reads as it did. -/
def fnExactCountDrivesUptoRow : OpenClaim := { program := "ytkgfbdbhllakoaadoor", sum := "677e41a705a2035985738cdf41feba4fb1a2bfcb97d5e24f14606095111aab17", func := "loop.example/g01336/laws.FnExactCountDrives", spec := "fnExactCountDrives", inPlace := ["internal/bytealg.IndexByteString", "internal/bytealg.IndexString"], unfollowed := true, recurses := true, named := ["unicode/utf8.first", "unicode/utf8.acceptRanges", "internal/bytealg.MaxLen"], plainKeys := false, apart := false, laid := [("unicode/utf8.acceptRanges", laid_unicode_utf8_acceptRanges), ("unicode/utf8.first", laid_unicode_utf8_first)], narrowed := true }
def FnExactCountDrivesUptoSaid : Prop := fnExactCountDrivesUptoRow.holds Tryd.pinned (OpenSpec.upto fnExactCountDrivesSpec)

/-- 'laws.FnExactFewestTurns', WHERE WHAT IT READS IS OF BULK AT MOST 1048576: true; the input reads as it did. -/
def fnExactFewestTurnsUptoRow : OpenClaim := { program := "ytkgfbdbhllakoaadoor", sum := "677e41a705a2035985738cdf41feba4fb1a2bfcb97d5e24f14606095111aab17", func := "loop.example/g01336/laws.FnExactFewestTurns", spec := "fnExactFewestTurns", inPlace := ["internal/bytealg.IndexByteString", "internal/bytealg.IndexString"], unfollowed := true, recurses := true, named := ["unicode/utf8.first", "unicode/utf8.acceptRanges", "internal/bytealg.MaxLen"], plainKeys := false, apart := false, laid := [("unicode/utf8.acceptRanges", laid_unicode_utf8_acceptRanges), ("unicode/utf8.first", laid_unicode_utf8_first)], narrowed := true }
def FnExactFewestTurnsUptoSaid : Prop := fnExactFewestTurnsUptoRow.holds Tryd.pinned (OpenSpec.upto fnExactFewestTurnsSpec)

/-- 'laws.FnExactThereAndBack', WHERE WHAT IT READS IS OF BULK AT MOST 1048576: true; the input reads as it did. -/
def fnExactThereAndBackUptoRow : OpenClaim := { program := "ytkgfbdbhllakoaadoor", sum := "677e41a705a2035985738cdf41feba4fb1a2bfcb97d5e24f14606095111aab17", func := "loop.example/g01336/laws.FnExactThereAndBack", spec := "fnExactThereAndBack", inPlace := ["internal/bytealg.IndexByteString", "internal/bytealg.IndexString"], unfollowed := true, recurses := true, named := ["unicode/utf8.first", "unicode/utf8.acceptRanges", "internal/bytealg.MaxLen"], plainKeys := false, apart := false, laid := [("unicode/utf8.acceptRanges", laid_unicode_utf8_acceptRanges), ("unicode/utf8.first", laid_unicode_utf8_first)], narrowed := true }
def FnExactThereAndBackUptoSaid : Prop := fnExactThereAndBackUptoRow.holds Tryd.pinned (OpenSpec.upto fnExactThereAndBackSpec)

/-- 'laws.FnExactDrivenFrom', WHERE WHAT IT READS IS OF BULK AT MOST 1048576: true; the input reads as it did. -/
def fnExactDrivenFromUptoRow : OpenClaim := { program := "ytkgfbdbhllakoaadoor", sum := "677e41a705a2035985738cdf41feba4fb1a2bfcb97d5e24f14606095111aab17", func := "loop.example/g01336/laws.FnExactDrivenFrom", spec := "fnExactDrivenFrom", inPlace := ["internal/bytealg.IndexByteString", "internal/bytealg.IndexString"], unfollowed := true, recurses := true, named := ["unicode/utf8.first", "unicode/utf8.acceptRanges", "internal/bytealg.MaxLen"], plainKeys := false, apart := false, laid := [("unicode/utf8.acceptRanges", laid_unicode_utf8_acceptRanges), ("unicode/utf8.first", laid_unicode_utf8_first)], narrowed := true }
def FnExactDrivenFromUptoSaid : Prop := fnExactDrivenFromUptoRow.holds Tryd.pinned (OpenSpec.upto fnExactDrivenFromSpec)

/-- 'laws.FnExactIsWholeWays', WHERE WHAT IT READS IS OF BULK AT MOST 1048576: true; the input reads as it did. -/
def fnExactIsWholeWaysUptoRow : OpenClaim := { program := "ytkgfbdbhllakoaadoor", sum := "677e41a705a2035985738cdf41feba4fb1a2bfcb97d5e24f14606095111aab17", func := "loop.example/g01336/laws.FnExactIsWholeWays", spec := "fnExactIsWholeWays", inPlace := ["internal/bytealg.IndexByteString", "internal/bytealg.IndexString"], unfollowed := true, recurses := true, named := ["unicode/utf8.first", "unicode/utf8.acceptRanges", "internal/bytealg.MaxLen"], plainKeys := false, apart := false, laid := [("unicode/utf8.acceptRanges", laid_unicode_utf8_acceptRanges), ("unicode/utf8.first", laid_unicode_utf8_first)], narrowed := true }
def FnExactIsWholeWaysUptoSaid : Prop := fnExactIsWholeWaysUptoRow.holds Tryd.pinned (OpenSpec.upto fnExactIsWholeWaysSpec)

/-- 'laws.FnExactLongestDrive', WHERE WHAT IT READS IS OF BULK AT MOST 1048576: true; the input reads as it did. -/
def fnExactLongestDriveUptoRow : OpenClaim := { program := "ytkgfbdbhllakoaadoor", sum := "677e41a705a2035985738cdf41feba4fb1a2bfcb97d5e24f14606095111aab17", func := "loop.example/g01336/laws.FnExactLongestDrive", spec := "fnExactLongestDrive", inPlace := ["internal/bytealg.IndexByteString", "internal/bytealg.IndexString"], unfollowed := true, recurses := true, named := ["unicode/utf8.first", "unicode/utf8.acceptRanges", "internal/bytealg.MaxLen"], plainKeys := false, apart := false, laid := [("unicode/utf8.acceptRanges", laid_unicode_utf8_acceptRanges), ("unicode/utf8.first", laid_unicode_utf8_first)], narrowed := true }
def FnExactLongestDriveUptoSaid : Prop := fnExactLongestDriveUptoRow.holds Tryd.pinned (OpenSpec.upto fnExactLongestDriveSpec)

end Rows
end Go.Proofs.YtkgfbdbhllakoaaDoor
