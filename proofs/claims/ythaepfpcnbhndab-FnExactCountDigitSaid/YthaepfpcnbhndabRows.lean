/-
  No cell of these rows narrows 'for every input' (looked for: loops, veiled, ifaces, maps, wideKeys, modest, calm, conditions, laid).
  DERIVED. THE GIVEN ROWS OF THIS SEAT. 7 by the template 'for every input the law returns true; each argument reads behind the call as it read before'; 0 by the template 'total and deterministic' (their statements: YthaepfpcnbhndabTotals.lean).
  GIVEN WITH THE SEED: the statements are not yours to turn. If you find one false, say at which input.
  Laid BY PROGRAM, IN A SANDBOX (cutbox-rows.mjs): the forced cells as the released guide's own fill.sh prints them over the translation d43575ba7ee4b241… (all of the seat's roots in one cut). By AI agents, Wed Nov 11 2026. No macro, syntax, notation, axiom, sorry.
-/
import Derived.Test.YthaepfpcnbhndabChecked
import GoSem.Claim
import GoSem.ClaimJoined
import GoSem.ClaimMapViews
import Derived.JoinedTies
import Derived.KernelRfl
namespace Go.Proofs.Ythaepfpcnbhndab
/- THE CELL 'sum', in the pinned program and in every row, IS THE sha256 OF THE DUMP (.gsa) THAT YthaepfpcnbhndabProg.lean LOADS. Nothing in Lean hashes anything: it is a label: what it is worth is what the hold of that sum in a sandbox is worth. -/
noncomputable def Try.pinned : Pinned := { name := "ythaepfpcnbhndab", sum := "d43575ba7ee4b2418b2636405b14770cf6a033acd265c912ff5a6bb1d2a04c3e", checked := Try.checked }
namespace Rows
def none {H : Type} : Left H := { results := [], args := [] }

/-- 'laws.FnExactCountDigit': WHATEVER THE INPUT: true; the input reads as it did. -/
def fnExactCountDigitSpec : ChangeSpec := { name := "fnExactCountDigit", fn := fun _ => fun
  | [d1, d2] => { results := [.lit (.bool true)], args := [d1, d2] }
  | _ => none }
def fnExactCountDigitRow : OpenClaim := { program := "ythaepfpcnbhndab", sum := "d43575ba7ee4b2418b2636405b14770cf6a033acd265c912ff5a6bb1d2a04c3e", func := "loop.example/g01336/laws.FnExactCountDigit", spec := "fnExactCountDigit", apart := false }
def FnExactCountDigitSaid : Prop := fnExactCountDigitRow.holds Try.pinned (OpenSpec.ofChange fnExactCountDigitSpec)

/-- ITS FALSE NEIGHBOUR: 'it returns false'. Refute it at one input. -/
def fnExactCountDigitWrong : ChangeSpec := { name := "fnExactCountDigit", fn := fun _ => fun
  | [d1, d2] => { results := [.lit (.bool false)], args := [d1, d2] }
  | _ => none }
def FnExactCountDigitWrongFalsely : Prop := fnExactCountDigitRow.holds Try.pinned (OpenSpec.ofChange fnExactCountDigitWrong)

/-- 'laws.FnExactLastWithDigits': WHATEVER THE INPUT: true; the input reads as it did. -/
def fnExactLastWithDigitsSpec : ChangeSpec := { name := "fnExactLastWithDigits", fn := fun _ => fun
  | [d] => { results := [.lit (.bool true)], args := [d] }
  | _ => none }
def fnExactLastWithDigitsRow : OpenClaim := { program := "ythaepfpcnbhndab", sum := "d43575ba7ee4b2418b2636405b14770cf6a033acd265c912ff5a6bb1d2a04c3e", func := "loop.example/g01336/laws.FnExactLastWithDigits", spec := "fnExactLastWithDigits", unfollowed := true, recurses := true, apart := false }
def FnExactLastWithDigitsSaid : Prop := fnExactLastWithDigitsRow.holds Try.pinned (OpenSpec.ofChange fnExactLastWithDigitsSpec)

/-- ITS FALSE NEIGHBOUR: 'it returns false'. Refute it at one input. -/
def fnExactLastWithDigitsWrong : ChangeSpec := { name := "fnExactLastWithDigits", fn := fun _ => fun
  | [d] => { results := [.lit (.bool false)], args := [d] }
  | _ => none }
def FnExactLastWithDigitsWrongFalsely : Prop := fnExactLastWithDigitsRow.holds Try.pinned (OpenSpec.ofChange fnExactLastWithDigitsWrong)

/-- 'laws.FnExactPlatesFrom': WHATEVER THE INPUT: true; the input reads as it did. -/
def fnExactPlatesFromSpec : ChangeSpec := { name := "fnExactPlatesFrom", fn := fun _ => fun
  | [d] => { results := [.lit (.bool true)], args := [d] }
  | _ => none }
def fnExactPlatesFromRow : OpenClaim := { program := "ythaepfpcnbhndab", sum := "d43575ba7ee4b2418b2636405b14770cf6a033acd265c912ff5a6bb1d2a04c3e", func := "loop.example/g01336/laws.FnExactPlatesFrom", spec := "fnExactPlatesFrom", unfollowed := true, recurses := true, apart := false }
def FnExactPlatesFromSaid : Prop := fnExactPlatesFromRow.holds Try.pinned (OpenSpec.ofChange fnExactPlatesFromSpec)

/-- ITS FALSE NEIGHBOUR: 'it returns false'. Refute it at one input. -/
def fnExactPlatesFromWrong : ChangeSpec := { name := "fnExactPlatesFrom", fn := fun _ => fun
  | [d] => { results := [.lit (.bool false)], args := [d] }
  | _ => none }
def FnExactPlatesFromWrongFalsely : Prop := fnExactPlatesFromRow.holds Try.pinned (OpenSpec.ofChange fnExactPlatesFromWrong)

/-- 'laws.FnExactBalancedHouse': WHATEVER THE INPUT: true; the input reads as it did. -/
def fnExactBalancedHouseSpec : ChangeSpec := { name := "fnExactBalancedHouse", fn := fun _ => fun
  | [d] => { results := [.lit (.bool true)], args := [d] }
  | _ => none }
def fnExactBalancedHouseRow : OpenClaim := { program := "ythaepfpcnbhndab", sum := "d43575ba7ee4b2418b2636405b14770cf6a033acd265c912ff5a6bb1d2a04c3e", func := "loop.example/g01336/laws.FnExactBalancedHouse", spec := "fnExactBalancedHouse", apart := false }
def FnExactBalancedHouseSaid : Prop := fnExactBalancedHouseRow.holds Try.pinned (OpenSpec.ofChange fnExactBalancedHouseSpec)

/-- ITS FALSE NEIGHBOUR: 'it returns false'. Refute it at one input. -/
def fnExactBalancedHouseWrong : ChangeSpec := { name := "fnExactBalancedHouse", fn := fun _ => fun
  | [d] => { results := [.lit (.bool false)], args := [d] }
  | _ => none }
def FnExactBalancedHouseWrongFalsely : Prop := fnExactBalancedHouseRow.holds Try.pinned (OpenSpec.ofChange fnExactBalancedHouseWrong)

/-- 'laws.FnExactBalancedStreets': WHATEVER THE INPUT: true; the input reads as it did. -/
def fnExactBalancedStreetsSpec : ChangeSpec := { name := "fnExactBalancedStreets", fn := fun _ => fun
  | [d] => { results := [.lit (.bool true)], args := [d] }
  | _ => none }
def fnExactBalancedStreetsRow : OpenClaim := { program := "ythaepfpcnbhndab", sum := "d43575ba7ee4b2418b2636405b14770cf6a033acd265c912ff5a6bb1d2a04c3e", func := "loop.example/g01336/laws.FnExactBalancedStreets", spec := "fnExactBalancedStreets", apart := false }
def FnExactBalancedStreetsSaid : Prop := fnExactBalancedStreetsRow.holds Try.pinned (OpenSpec.ofChange fnExactBalancedStreetsSpec)

/-- ITS FALSE NEIGHBOUR: 'it returns false'. Refute it at one input. -/
def fnExactBalancedStreetsWrong : ChangeSpec := { name := "fnExactBalancedStreets", fn := fun _ => fun
  | [d] => { results := [.lit (.bool false)], args := [d] }
  | _ => none }
def FnExactBalancedStreetsWrongFalsely : Prop := fnExactBalancedStreetsRow.holds Try.pinned (OpenSpec.ofChange fnExactBalancedStreetsWrong)

/-- 'laws.FnExactSumBetween': WHATEVER THE INPUT: true; the input reads as it did. -/
def fnExactSumBetweenSpec : ChangeSpec := { name := "fnExactSumBetween", fn := fun _ => fun
  | [d1, d2] => { results := [.lit (.bool true)], args := [d1, d2] }
  | _ => none }
def fnExactSumBetweenRow : OpenClaim := { program := "ythaepfpcnbhndab", sum := "d43575ba7ee4b2418b2636405b14770cf6a033acd265c912ff5a6bb1d2a04c3e", func := "loop.example/g01336/laws.FnExactSumBetween", spec := "fnExactSumBetween", apart := false }
def FnExactSumBetweenSaid : Prop := fnExactSumBetweenRow.holds Try.pinned (OpenSpec.ofChange fnExactSumBetweenSpec)

/-- ITS FALSE NEIGHBOUR: 'it returns false'. Refute it at one input. -/
def fnExactSumBetweenWrong : ChangeSpec := { name := "fnExactSumBetween", fn := fun _ => fun
  | [d1, d2] => { results := [.lit (.bool false)], args := [d1, d2] }
  | _ => none }
def FnExactSumBetweenWrongFalsely : Prop := fnExactSumBetweenRow.holds Try.pinned (OpenSpec.ofChange fnExactSumBetweenWrong)

/-- 'laws.FnExactRangesWithSum': WHATEVER THE INPUT: true; the input reads as it did. -/
def fnExactRangesWithSumSpec : ChangeSpec := { name := "fnExactRangesWithSum", fn := fun _ => fun
  | [d] => { results := [.lit (.bool true)], args := [d] }
  | _ => none }
def fnExactRangesWithSumRow : OpenClaim := { program := "ythaepfpcnbhndab", sum := "d43575ba7ee4b2418b2636405b14770cf6a033acd265c912ff5a6bb1d2a04c3e", func := "loop.example/g01336/laws.FnExactRangesWithSum", spec := "fnExactRangesWithSum", apart := false }
def FnExactRangesWithSumSaid : Prop := fnExactRangesWithSumRow.holds Try.pinned (OpenSpec.ofChange fnExactRangesWithSumSpec)

/-- ITS FALSE NEIGHBOUR: 'it returns false'. Refute it at one input. -/
def fnExactRangesWithSumWrong : ChangeSpec := { name := "fnExactRangesWithSum", fn := fun _ => fun
  | [d] => { results := [.lit (.bool false)], args := [d] }
  | _ => none }
def FnExactRangesWithSumWrongFalsely : Prop := fnExactRangesWithSumRow.holds Try.pinned (OpenSpec.ofChange fnExactRangesWithSumWrong)

/- THE SECOND FORM. 'bulk': how many values and letters a reading holds, each counted each time it is reached (what is shared counts as often as it is met; a slice's spare places count too). A statement '..UptoSaid' is the law's where the arguments, and the package variables that the reading takes, are together of bulk at most 1048576: NARROWER than '..Said'. Prove '..Said' where nothing that the law and all that it calls make is longer than what came in: it says more and counts as full. Else prove '..UptoSaid'. A law counts once. -/
mutual
def uptoBulk {H : Type} : DataW H → Nat
  | .lit (.string bytes) => bytes.length + 1
  | .lit _ => 1
  | .nil => 1
  | .ptr d => uptoBulk d + 1
  | .slice elems spare => uptoBulkAll elems + uptoBulkAll spare + 1
  | .agg parts => uptoBulkAll parts + 1
  | .iface _ d => uptoBulk d + 1
  | .map entries => uptoBulkEntries entries + 1
  | .held _ => 1
def uptoBulkAll {H : Type} : List (DataW H) → Nat
  | [] => 0
  | d :: r => uptoBulk d + uptoBulkAll r
def uptoBulkEntries {H : Type} : List (Lit × DataW H) → Nat
  | [] => 0
  | x :: r => uptoBulkEntry x + uptoBulkEntries r
def uptoBulkEntry {H : Type} : Lit × DataW H → Nat
  | (.string bytes, d) => bytes.length + uptoBulk d + 1
  | (_, d) => uptoBulk d + 1
 end
def uptoSmall : (H : Type) → List (DataW H) → Bool := fun _ ds => decide (uptoBulkAll ds ≤ 1048576)
def OpenSpec.upto (s : _root_.Go.ChangeSpec) : _root_.Go.OpenSpec := { _root_.Go.OpenSpec.ofChange s with cond := some uptoSmall }

/-- 'laws.FnExactCountDigit', WHERE WHAT IT READS IS OF BULK AT MOST 1048576: true; the input reads as it did. -/
def fnExactCountDigitUptoRow : OpenClaim := { program := "ythaepfpcnbhndab", sum := "d43575ba7ee4b2418b2636405b14770cf6a033acd265c912ff5a6bb1d2a04c3e", func := "loop.example/g01336/laws.FnExactCountDigit", spec := "fnExactCountDigit", apart := false, narrowed := true }
def FnExactCountDigitUptoSaid : Prop := fnExactCountDigitUptoRow.holds Try.pinned (OpenSpec.upto fnExactCountDigitSpec)

/-- 'laws.FnExactLastWithDigits', WHERE WHAT IT READS IS OF BULK AT MOST 1048576: true; the input reads as it did. -/
def fnExactLastWithDigitsUptoRow : OpenClaim := { program := "ythaepfpcnbhndab", sum := "d43575ba7ee4b2418b2636405b14770cf6a033acd265c912ff5a6bb1d2a04c3e", func := "loop.example/g01336/laws.FnExactLastWithDigits", spec := "fnExactLastWithDigits", unfollowed := true, recurses := true, apart := false, narrowed := true }
def FnExactLastWithDigitsUptoSaid : Prop := fnExactLastWithDigitsUptoRow.holds Try.pinned (OpenSpec.upto fnExactLastWithDigitsSpec)

/-- 'laws.FnExactPlatesFrom', WHERE WHAT IT READS IS OF BULK AT MOST 1048576: true; the input reads as it did. -/
def fnExactPlatesFromUptoRow : OpenClaim := { program := "ythaepfpcnbhndab", sum := "d43575ba7ee4b2418b2636405b14770cf6a033acd265c912ff5a6bb1d2a04c3e", func := "loop.example/g01336/laws.FnExactPlatesFrom", spec := "fnExactPlatesFrom", unfollowed := true, recurses := true, apart := false, narrowed := true }
def FnExactPlatesFromUptoSaid : Prop := fnExactPlatesFromUptoRow.holds Try.pinned (OpenSpec.upto fnExactPlatesFromSpec)

/-- 'laws.FnExactBalancedHouse', WHERE WHAT IT READS IS OF BULK AT MOST 1048576: true; the input reads as it did. -/
def fnExactBalancedHouseUptoRow : OpenClaim := { program := "ythaepfpcnbhndab", sum := "d43575ba7ee4b2418b2636405b14770cf6a033acd265c912ff5a6bb1d2a04c3e", func := "loop.example/g01336/laws.FnExactBalancedHouse", spec := "fnExactBalancedHouse", apart := false, narrowed := true }
def FnExactBalancedHouseUptoSaid : Prop := fnExactBalancedHouseUptoRow.holds Try.pinned (OpenSpec.upto fnExactBalancedHouseSpec)

/-- 'laws.FnExactBalancedStreets', WHERE WHAT IT READS IS OF BULK AT MOST 1048576: true; the input reads as it did. -/
def fnExactBalancedStreetsUptoRow : OpenClaim := { program := "ythaepfpcnbhndab", sum := "d43575ba7ee4b2418b2636405b14770cf6a033acd265c912ff5a6bb1d2a04c3e", func := "loop.example/g01336/laws.FnExactBalancedStreets", spec := "fnExactBalancedStreets", apart := false, narrowed := true }
def FnExactBalancedStreetsUptoSaid : Prop := fnExactBalancedStreetsUptoRow.holds Try.pinned (OpenSpec.upto fnExactBalancedStreetsSpec)

/-- 'laws.FnExactSumBetween', WHERE WHAT IT READS IS OF BULK AT MOST 1048576: true; the input reads as it did. -/
def fnExactSumBetweenUptoRow : OpenClaim := { program := "ythaepfpcnbhndab", sum := "d43575ba7ee4b2418b2636405b14770cf6a033acd265c912ff5a6bb1d2a04c3e", func := "loop.example/g01336/laws.FnExactSumBetween", spec := "fnExactSumBetween", apart := false, narrowed := true }
def FnExactSumBetweenUptoSaid : Prop := fnExactSumBetweenUptoRow.holds Try.pinned (OpenSpec.upto fnExactSumBetweenSpec)

/-- 'laws.FnExactRangesWithSum', WHERE WHAT IT READS IS OF BULK AT MOST 1048576: true; the input reads as it did. -/
def fnExactRangesWithSumUptoRow : OpenClaim := { program := "ythaepfpcnbhndab", sum := "d43575ba7ee4b2418b2636405b14770cf6a033acd265c912ff5a6bb1d2a04c3e", func := "loop.example/g01336/laws.FnExactRangesWithSum", spec := "fnExactRangesWithSum", apart := false, narrowed := true }
def FnExactRangesWithSumUptoSaid : Prop := fnExactRangesWithSumUptoRow.holds Try.pinned (OpenSpec.upto fnExactRangesWithSumSpec)

end Rows
end Go.Proofs.Ythaepfpcnbhndab
