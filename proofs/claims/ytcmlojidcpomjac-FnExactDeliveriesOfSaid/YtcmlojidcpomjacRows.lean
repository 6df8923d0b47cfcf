/-
  NARROWER THAN 'FOR EVERY INPUT', by the rows' own cells (each row's printed sentence says how): FnExactMirrorDeliveries: calm.
  DERIVED. THE GIVEN ROWS OF THIS SEAT. 8 by the template 'for every input the law returns true; each argument reads behind the call as it read before'; 0 by the template 'total and deterministic' (their statements: YtcmlojidcpomjacTotals.lean).
  GIVEN WITH THE SEED: the statements are not yours to turn. If you find one false, say at which input.
  Laid BY PROGRAM, IN A SANDBOX (cutbox-rows.mjs): the forced cells as the released guide's own fill.sh prints them over the translation 01069c5203fa7842… (all of the seat's roots in one cut). By AI agents, Wed Nov 11 2026. No macro, syntax, notation, axiom, sorry.
-/
import Derived.Test.YtcmlojidcpomjacChecked
import GoSem.Claim
import GoSem.ClaimJoined
import GoSem.ClaimMapViews
import Derived.JoinedTies
import Derived.KernelRfl
namespace Go.Proofs.Ytcmlojidcpomjac
/- THE CELL 'sum', in the pinned program and in every row, IS THE sha256 OF THE DUMP (.gsa) THAT YtcmlojidcpomjacProg.lean LOADS. Nothing in Lean hashes anything: it is a label: what it is worth is what the hold of that sum in a sandbox is worth. -/
noncomputable def Try.pinned : Pinned := { name := "ytcmlojidcpomjac", sum := "01069c5203fa78429b98c1531f82d01f9db2dfa800439c67645b0170526df4df", checked := Try.checked }
namespace Rows
def none {H : Type} : Left H := { results := [], args := [] }

/-- 'laws.FnExactMirrorDeliveries': WHATEVER THE INPUT: true; the input reads as it did. -/
def fnExactMirrorDeliveriesSpec : ChangeSpec := { name := "fnExactMirrorDeliveries", fn := fun _ => fun
  | [d] => { results := [.lit (.bool true)], args := [d] }
  | _ => none }
def fnExactMirrorDeliveriesRow : OpenClaim := { program := "ytcmlojidcpomjac", sum := "01069c5203fa78429b98c1531f82d01f9db2dfa800439c67645b0170526df4df", func := "loop.example/g01336/laws.FnExactMirrorDeliveries", spec := "fnExactMirrorDeliveries", inPlace := ["internal/bytealg.IndexByteString", "sync/atomic.LoadUint32", "(*internal/sync.Mutex).Lock", "internal/race.Disable", "sync/atomic.CompareAndSwapInt32", "internal/race.Enable", "internal/race.Acquire", "(*internal/sync.Mutex).lockSlow", "internal/sync.runtime_canSpin", "internal/sync.runtime_doSpin", "internal/sync.throw", "internal/sync.runtime_nanotime", "internal/sync.runtime_SemacquireMutex", "sync/atomic.AddInt32", "(*internal/sync.Mutex).Unlock", "internal/race.ReleaseMerge", "(*internal/sync.Mutex).unlockSlow", "internal/sync.fatal", "internal/sync.runtime_Semrelease", "sync/atomic.StoreUint32"], unfollowed := true, recurses := true, leaving := true, apart := false, calm := true, outside := [.timePasses] }
def FnExactMirrorDeliveriesSaid : Prop := fnExactMirrorDeliveriesRow.holds Try.pinned (OpenSpec.ofChange fnExactMirrorDeliveriesSpec)

/-- ITS FALSE NEIGHBOUR: 'it returns false'. Refute it at one input. -/
def fnExactMirrorDeliveriesWrong : ChangeSpec := { name := "fnExactMirrorDeliveries", fn := fun _ => fun
  | [d] => { results := [.lit (.bool false)], args := [d] }
  | _ => none }
def FnExactMirrorDeliveriesWrongFalsely : Prop := fnExactMirrorDeliveriesRow.holds Try.pinned (OpenSpec.ofChange fnExactMirrorDeliveriesWrong)

/-- 'laws.FnExactBackDeliveries': WHATEVER THE INPUT: true; the input reads as it did. -/
def fnExactBackDeliveriesSpec : ChangeSpec := { name := "fnExactBackDeliveries", fn := fun _ => fun
  | [d] => { results := [.lit (.bool true)], args := [d] }
  | _ => none }
def fnExactBackDeliveriesRow : OpenClaim := { program := "ytcmlojidcpomjac", sum := "01069c5203fa78429b98c1531f82d01f9db2dfa800439c67645b0170526df4df", func := "loop.example/g01336/laws.FnExactBackDeliveries", spec := "fnExactBackDeliveries", inPlace := ["internal/bytealg.IndexByteString"], unfollowed := true, recurses := true, leaving := true, apart := false }
def FnExactBackDeliveriesSaid : Prop := fnExactBackDeliveriesRow.holds Try.pinned (OpenSpec.ofChange fnExactBackDeliveriesSpec)

/-- ITS FALSE NEIGHBOUR: 'it returns false'. Refute it at one input. -/
def fnExactBackDeliveriesWrong : ChangeSpec := { name := "fnExactBackDeliveries", fn := fun _ => fun
  | [d] => { results := [.lit (.bool false)], args := [d] }
  | _ => none }
def FnExactBackDeliveriesWrongFalsely : Prop := fnExactBackDeliveriesRow.holds Try.pinned (OpenSpec.ofChange fnExactBackDeliveriesWrong)

/-- 'laws.FnExactJoinDeliveries': WHATEVER THE INPUT: true; the input reads as it did. -/
def fnExactJoinDeliveriesSpec : ChangeSpec := { name := "fnExactJoinDeliveries", fn := fun _ => fun
  | [d1, d2] => { results := [.lit (.bool true)], args := [d1, d2] }
  | _ => none }
def fnExactJoinDeliveriesRow : OpenClaim := { program := "ytcmlojidcpomjac", sum := "01069c5203fa78429b98c1531f82d01f9db2dfa800439c67645b0170526df4df", func := "loop.example/g01336/laws.FnExactJoinDeliveries", spec := "fnExactJoinDeliveries", inPlace := ["internal/bytealg.IndexByteString"], unfollowed := true, recurses := true, leaving := true, apart := false }
def FnExactJoinDeliveriesSaid : Prop := fnExactJoinDeliveriesRow.holds Try.pinned (OpenSpec.ofChange fnExactJoinDeliveriesSpec)

/-- ITS FALSE NEIGHBOUR: 'it returns false'. Refute it at one input. -/
def fnExactJoinDeliveriesWrong : ChangeSpec := { name := "fnExactJoinDeliveries", fn := fun _ => fun
  | [d1, d2] => { results := [.lit (.bool false)], args := [d1, d2] }
  | _ => none }
def FnExactJoinDeliveriesWrongFalsely : Prop := fnExactJoinDeliveriesRow.holds Try.pinned (OpenSpec.ofChange fnExactJoinDeliveriesWrong)

/-- 'laws.FnExactBusiestPart': WHATEVER THE INPUT: true; the input reads as it did. -/
def fnExactBusiestPartSpec : ChangeSpec := { name := "fnExactBusiestPart", fn := fun _ => fun
  | [d1, d2] => { results := [.lit (.bool true)], args := [d1, d2] }
  | _ => none }
def fnExactBusiestPartRow : OpenClaim := { program := "ytcmlojidcpomjac", sum := "01069c5203fa78429b98c1531f82d01f9db2dfa800439c67645b0170526df4df", func := "loop.example/g01336/laws.FnExactBusiestPart", spec := "fnExactBusiestPart", inPlace := ["internal/bytealg.IndexByteString", "internal/bytealg.CountString", "internal/bytealg.IndexString"], unfollowed := true, recurses := true, named := ["internal/bytealg.MaxLen"], leaving := true, apart := false }
def FnExactBusiestPartSaid : Prop := fnExactBusiestPartRow.holds Try.pinned (OpenSpec.ofChange fnExactBusiestPartSpec)

/-- ITS FALSE NEIGHBOUR: 'it returns false'. Refute it at one input. -/
def fnExactBusiestPartWrong : ChangeSpec := { name := "fnExactBusiestPart", fn := fun _ => fun
  | [d1, d2] => { results := [.lit (.bool false)], args := [d1, d2] }
  | _ => none }
def FnExactBusiestPartWrongFalsely : Prop := fnExactBusiestPartRow.holds Try.pinned (OpenSpec.ofChange fnExactBusiestPartWrong)

/-- 'laws.FnExactLongestFree': WHATEVER THE INPUT: true; the input reads as it did. -/
def fnExactLongestFreeSpec : ChangeSpec := { name := "fnExactLongestFree", fn := fun _ => fun
  | [d] => { results := [.lit (.bool true)], args := [d] }
  | _ => none }
def fnExactLongestFreeRow : OpenClaim := { program := "ytcmlojidcpomjac", sum := "01069c5203fa78429b98c1531f82d01f9db2dfa800439c67645b0170526df4df", func := "loop.example/g01336/laws.FnExactLongestFree", spec := "fnExactLongestFree", inPlace := ["internal/bytealg.IndexByteString", "internal/abi.NoEscape", "internal/bytealg.MakeNoZero", "internal/bytealg.IndexString"], unfollowed := true, recurses := true, named := ["internal/bytealg.MaxLen"], leaving := true, apart := false }
def FnExactLongestFreeSaid : Prop := fnExactLongestFreeRow.holds Try.pinned (OpenSpec.ofChange fnExactLongestFreeSpec)

/-- ITS FALSE NEIGHBOUR: 'it returns false'. Refute it at one input. -/
def fnExactLongestFreeWrong : ChangeSpec := { name := "fnExactLongestFree", fn := fun _ => fun
  | [d] => { results := [.lit (.bool false)], args := [d] }
  | _ => none }
def FnExactLongestFreeWrongFalsely : Prop := fnExactLongestFreeRow.holds Try.pinned (OpenSpec.ofChange fnExactLongestFreeWrong)

/-- 'laws.FnExactDeliveriesOf': WHATEVER THE INPUT: true; the input reads as it did. -/
def fnExactDeliveriesOfSpec : ChangeSpec := { name := "fnExactDeliveriesOf", fn := fun _ => fun
  | [d1, d2] => { results := [.lit (.bool true)], args := [d1, d2] }
  | _ => none }
def fnExactDeliveriesOfRow : OpenClaim := { program := "ytcmlojidcpomjac", sum := "01069c5203fa78429b98c1531f82d01f9db2dfa800439c67645b0170526df4df", func := "loop.example/g01336/laws.FnExactDeliveriesOf", spec := "fnExactDeliveriesOf", apart := false }
def FnExactDeliveriesOfSaid : Prop := fnExactDeliveriesOfRow.holds Try.pinned (OpenSpec.ofChange fnExactDeliveriesOfSpec)

/-- ITS FALSE NEIGHBOUR: 'it returns false'. Refute it at one input. -/
def fnExactDeliveriesOfWrong : ChangeSpec := { name := "fnExactDeliveriesOf", fn := fun _ => fun
  | [d1, d2] => { results := [.lit (.bool false)], args := [d1, d2] }
  | _ => none }
def FnExactDeliveriesOfWrongFalsely : Prop := fnExactDeliveriesOfRow.holds Try.pinned (OpenSpec.ofChange fnExactDeliveriesOfWrong)

/-- 'laws.FnExactNumbersOf': WHATEVER THE INPUT: true; the input reads as it did. -/
def fnExactNumbersOfSpec : ChangeSpec := { name := "fnExactNumbersOf", fn := fun _ => fun
  | [d1, d2] => { results := [.lit (.bool true)], args := [d1, d2] }
  | _ => none }
def fnExactNumbersOfRow : OpenClaim := { program := "ytcmlojidcpomjac", sum := "01069c5203fa78429b98c1531f82d01f9db2dfa800439c67645b0170526df4df", func := "loop.example/g01336/laws.FnExactNumbersOf", spec := "fnExactNumbersOf", inPlace := ["internal/bytealg.IndexByteString"], unfollowed := true, recurses := true, leaving := true, apart := false }
def FnExactNumbersOfSaid : Prop := fnExactNumbersOfRow.holds Try.pinned (OpenSpec.ofChange fnExactNumbersOfSpec)

/-- ITS FALSE NEIGHBOUR: 'it returns false'. Refute it at one input. -/
def fnExactNumbersOfWrong : ChangeSpec := { name := "fnExactNumbersOf", fn := fun _ => fun
  | [d1, d2] => { results := [.lit (.bool false)], args := [d1, d2] }
  | _ => none }
def FnExactNumbersOfWrongFalsely : Prop := fnExactNumbersOfRow.holds Try.pinned (OpenSpec.ofChange fnExactNumbersOfWrong)

/-- 'laws.FnExactRouteNumbers': WHATEVER THE INPUT: true; the input reads as it did. -/
def fnExactRouteNumbersSpec : ChangeSpec := { name := "fnExactRouteNumbers", fn := fun _ => fun
  | [d1, d2, d3] => { results := [.lit (.bool true)], args := [d1, d2, d3] }
  | _ => none }
def fnExactRouteNumbersRow : OpenClaim := { program := "ytcmlojidcpomjac", sum := "01069c5203fa78429b98c1531f82d01f9db2dfa800439c67645b0170526df4df", func := "loop.example/g01336/laws.FnExactRouteNumbers", spec := "fnExactRouteNumbers", inPlace := ["internal/bytealg.IndexByteString"], unfollowed := true, recurses := true, leaving := true, apart := false }
def FnExactRouteNumbersSaid : Prop := fnExactRouteNumbersRow.holds Try.pinned (OpenSpec.ofChange fnExactRouteNumbersSpec)

/-- ITS FALSE NEIGHBOUR: 'it returns false'. Refute it at one input. -/
def fnExactRouteNumbersWrong : ChangeSpec := { name := "fnExactRouteNumbers", fn := fun _ => fun
  | [d1, d2, d3] => { results := [.lit (.bool false)], args := [d1, d2, d3] }
  | _ => none }
def FnExactRouteNumbersWrongFalsely : Prop := fnExactRouteNumbersRow.holds Try.pinned (OpenSpec.ofChange fnExactRouteNumbersWrong)

/- THE SECOND FORM. 'bulk': how many values and letters a reading holds, each counted each time it is reached (what is shared counts as often as it is met; a slice's spare places count too). A statement '..UptoSaid' is the law's where the arguments, and the package variables that the reading takes, are together of bulk at most 1048576: NARROWER than '..Said'. Prove '..Said' where nothing that the law and all that it calls make is longer than what came in: it says more and counts as full. Else prove '..UptoSaid'. A law counts once. -/
mutual
def uptoBulk {H : Type} : DataW H → Nat
  | .lit (.string bytes) => bytes.length + 1
  | .lit _ => 1
  | .nil => 1
  | .ptr d => uptoBulk d + 1
  | .slice elems spare => uptoBulkAll elems + uptoBulkAll spare + 1
  | .agg parts => uptoBulkAll parts + 1
  | .iface _ d => uptoBulk d + 1
  | .map entries => uptoBulkEntries entries + 1
  | .held _ => 1
def uptoBulkAll {H : Type} : List (DataW H) → Nat
  | [] => 0
  | d :: r => uptoBulk d + uptoBulkAll r
def uptoBulkEntries {H : Type} : List (Lit × DataW H) → Nat
  | [] => 0
  | x :: r => uptoBulkEntry x + uptoBulkEntries r
def uptoBulkEntry {H : Type} : Lit × DataW H → Nat
  | (.string bytes, d) => bytes.length + uptoBulk d + 1
  | (_, d) => uptoBulk d + 1
 end
def uptoSmall : (H : Type) → List (DataW H) → Bool := fun _ ds => decide (uptoBulkAll ds ≤ 1048576)
def OpenSpec.upto (s : _root_.Go.ChangeSpec) : _root_.Go.OpenSpec := { _root_.Go.OpenSpec.ofChange s with cond := some uptoSmall }

/-- 'laws.FnExactMirrorDeliveries', WHERE WHAT IT READS IS OF BULK AT MOST 1048576: true; the input reads as it did. -/
def fnExactMirrorDeliveriesUptoRow : OpenClaim := { program := "ytcmlojidcpomjac", sum := "01069c5203fa78429b98c1531f82d01f9db2dfa800439c67645b0170526df4df", func := "loop.example/g01336/laws.FnExactMirrorDeliveries", spec := "fnExactMirrorDeliveries", inPlace := ["internal/bytealg.IndexByteString", "sync/atomic.LoadUint32", "(*internal/sync.Mutex).Lock", "internal/race.Disable", "sync/atomic.CompareAndSwapInt32", "internal/race.Enable", "internal/race.Acquire", "(*internal/sync.Mutex).lockSlow", "internal/sync.runtime_canSpin", "internal/sync.runtime_doSpin", "internal/sync.throw", "internal/sync.runtime_nanotime", "internal/sync.runtime_SemacquireMutex", "sync/atomic.AddInt32", "(*internal/sync.Mutex).Unlock", "internal/race.ReleaseMerge", "(*internal/sync.Mutex).unlockSlow", "internal/sync.fatal", "internal/sync.runtime_Semrelease", "sync/atomic.StoreUint32"], unfollowed := true, recurses := true, leaving := true, apart := false, calm := true, outside := [.timePasses], narrowed := true }
def FnExactMirrorDeliveriesUptoSaid : Prop := fnExactMirrorDeliveriesUptoRow.holds Try.pinned (OpenSpec.upto fnExactMirrorDeliveriesSpec)

/-- 'laws.FnExactBackDeliveries', WHERE WHAT IT READS IS OF BULK AT MOST 1048576: true; the input reads as it did. -/
def fnExactBackDeliveriesUptoRow : OpenClaim := { program := "ytcmlojidcpomjac", sum := "01069c5203fa78429b98c1531f82d01f9db2dfa800439c67645b0170526df4df", func := "loop.example/g01336/laws.FnExactBackDeliveries", spec := "fnExactBackDeliveries", inPlace := ["internal/bytealg.IndexByteString"], unfollowed := true, recurses := true, leaving := true, apart := false, narrowed := true }
def FnExactBackDeliveriesUptoSaid : Prop := fnExactBackDeliveriesUptoRow.holds Try.pinned (OpenSpec.upto fnExactBackDeliveriesSpec)

/-- 'laws.FnExactJoinDeliveries', WHERE WHAT IT READS IS OF BULK AT MOST 1048576: true; the input reads as it did. -/
def fnExactJoinDeliveriesUptoRow : OpenClaim := { program := "ytcmlojidcpomjac", sum := "01069c5203fa78429b98c1531f82d01f9db2dfa800439c67645b0170526df4df", func := "loop.example/g01336/laws.FnExactJoinDeliveries", spec := "fnExactJoinDeliveries", inPlace := ["internal/bytealg.IndexByteString"], unfollowed := true, recurses := true, leaving := true, apart := false, narrowed := true }
def FnExactJoinDeliveriesUptoSaid : Prop := fnExactJoinDeliveriesUptoRow.holds Try.pinned (OpenSpec.upto fnExactJoinDeliveriesSpec)

/-- 'laws.FnExactBusiestPart', WHERE WHAT IT READS IS OF BULK AT MOST 1048576: true; the input reads as it did. -/
def fnExactBusiestPartUptoRow : OpenClaim := { program := "ytcmlojidcpomjac", sum := "01069c5203fa78429b98c1531f82d01f9db2dfa800439c67645b0170526df4df", func := "loop.example/g01336/laws.FnExactBusiestPart", spec := "fnExactBusiestPart", inPlace := ["internal/bytealg.IndexByteString", "internal/bytealg.CountString", "internal/bytealg.IndexString"], unfollowed := true, recurses := true, named := ["internal/bytealg.MaxLen"], leaving := true, apart := false, narrowed := true }
def FnExactBusiestPartUptoSaid : Prop := fnExactBusiestPartUptoRow.holds Try.pinned (OpenSpec.upto fnExactBusiestPartSpec)

/-- 'laws.FnExactLongestFree', WHERE WHAT IT READS IS OF BULK AT MOST 1048576: true; the input reads as it did. -/
def fnExactLongestFreeUptoRow : OpenClaim := { program := "ytcmlojidcpomjac", sum := "01069c5203fa78429b98c1531f82d01f9db2dfa800439c67645b0170526df4df", func := "loop.example/g01336/laws.FnExactLongestFree", spec := "fnExactLongestFree", inPlace := ["internal/bytealg.IndexByteString", "internal/abi.NoEscape", "internal/bytealg.MakeNoZero", "internal/bytealg.IndexString"], unfollowed := true, recurses := true, named := ["internal/bytealg.MaxLen"], leaving := true, apart := false, narrowed := true }
def FnExactLongestFreeUptoSaid : Prop := fnExactLongestFreeUptoRow.holds Try.pinned (OpenSpec.upto fnExactLongestFreeSpec)

/-- 'laws.FnExactDeliveriesOf', WHERE WHAT IT READS IS OF BULK AT MOST 1048576: true; the input reads as it did. -/
def fnExactDeliveriesOfUptoRow : OpenClaim := { program := "ytcmlojidcpomjac", sum := "01069c5203fa78429b98c1531f82d01f9db2dfa800439c67645b0170526df4df", func := "loop.example/g01336/laws.FnExactDeliveriesOf", spec := "fnExactDeliveriesOf", apart := false, narrowed := true }
def FnExactDeliveriesOfUptoSaid : Prop := fnExactDeliveriesOfUptoRow.holds Try.pinned (OpenSpec.upto fnExactDeliveriesOfSpec)

/-- 'laws.FnExactNumbersOf', WHERE WHAT IT READS IS OF BULK AT MOST 1048576: true; the input reads as it did. -/
def fnExactNumbersOfUptoRow : OpenClaim := { program := "ytcmlojidcpomjac", sum := "01069c5203fa78429b98c1531f82d01f9db2dfa800439c67645b0170526df4df", func := "loop.example/g01336/laws.FnExactNumbersOf", spec := "fnExactNumbersOf", inPlace := ["internal/bytealg.IndexByteString"], unfollowed := true, recurses := true, leaving := true, apart := false, narrowed := true }
def FnExactNumbersOfUptoSaid : Prop := fnExactNumbersOfUptoRow.holds Try.pinned (OpenSpec.upto fnExactNumbersOfSpec)

/-- 'laws.FnExactRouteNumbers', WHERE WHAT IT READS IS OF BULK AT MOST 1048576: true; the input reads as it did. -/
def fnExactRouteNumbersUptoRow : OpenClaim := { program := "ytcmlojidcpomjac", sum := "01069c5203fa78429b98c1531f82d01f9db2dfa800439c67645b0170526df4df", func := "loop.example/g01336/laws.FnExactRouteNumbers", spec := "fnExactRouteNumbers", inPlace := ["internal/bytealg.IndexByteString"], unfollowed := true, recurses := true, leaving := true, apart := false, narrowed := true }
def FnExactRouteNumbersUptoSaid : Prop := fnExactRouteNumbersUptoRow.holds Try.pinned (OpenSpec.upto fnExactRouteNumbersSpec)

end Rows
end Go.Proofs.Ytcmlojidcpomjac
