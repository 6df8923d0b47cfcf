/-
  DERIVED. GIVEN WITH THE SEED: THE CARDS: each row of YthaepfpcnbhndabDoorRows.lean that lists a variable, with what it lists TIED to the program's text (the seventh form; the later family's looks); each row that meets fmt, with fmt's text TOLD by the authors' own Lean function (tested against real Go, not proved from fmt's source: count such statements apart). THE CARD IS WHAT COUNTS. Prove the row's statement (the work); the ties are given (YthaepfpcnbhndabDoorTie.lean); close each card by the builder's one call (the guide's Derived/Test/ToyasCard.lean, 'card_holds'). Laid BY PROGRAM, IN A SANDBOX (cutbox-door.mjs). By AI agents, Wed Nov 11 2026. No macro, syntax, notation, axiom, sorry.
-/
import Derived.Test.YthaepfpcnbhndabDoorRows
import GoSem.ClaimSeven
namespace Go.Proofs.YthaepfpcnbhndabDoor
namespace Rows

/-- THE TIED CARD OF 'laws.FnExactStreetText'. -/
def fnExactStreetTextCard : Claim7 := { stood := { row := fnExactStreetTextRow, standIns := [], harness := (true, "8716b6114cd36d29efc81e969fa4520a746ee7dc4fef1e7e15c951369c6b623a"), looks := true }, kinds := [], alts := [], laidByText := true, laidKinds := [.data, .data, .data], laidTests := true, laidLooks := .later }
def FnExactStreetTextCardSaid : Prop := Claim7.holds Tryd.pinned (.plain (OpenSpec.ofChange fnExactStreetTextSpec)) fnExactStreetTextCard

/-- THE TIED CARD OF 'laws.FnExactParseStreet'. -/
def fnExactParseStreetCard : Claim7 := { stood := { row := fnExactParseStreetRow, standIns := [], harness := (true, "8716b6114cd36d29efc81e969fa4520a746ee7dc4fef1e7e15c951369c6b623a"), looks := true }, kinds := [], alts := [], laidByText := true, laidKinds := [.data, .data, .data, .sentinel, .sentinel], laidTests := true, laidLooks := .later }
def FnExactParseStreetCardSaid : Prop := Claim7.holds Tryd.pinned (.plain (OpenSpec.ofChange fnExactParseStreetSpec)) fnExactParseStreetCard

/-- THE SECOND FORM's CARD OF 'laws.FnExactStreetText'. -/
def fnExactStreetTextUptoCard : Claim7 := { stood := { row := fnExactStreetTextUptoRow, standIns := [], harness := (true, "8716b6114cd36d29efc81e969fa4520a746ee7dc4fef1e7e15c951369c6b623a"), looks := true }, kinds := [], alts := [], laidByText := true, laidKinds := [.data, .data, .data], laidTests := true, laidLooks := .later }
def FnExactStreetTextUptoCardSaid : Prop := Claim7.holds Tryd.pinned (.plain (OpenSpec.upto fnExactStreetTextSpec)) fnExactStreetTextUptoCard

/-- THE SECOND FORM's CARD OF 'laws.FnExactParseStreet'. -/
def fnExactParseStreetUptoCard : Claim7 := { stood := { row := fnExactParseStreetUptoRow, standIns := [], harness := (true, "8716b6114cd36d29efc81e969fa4520a746ee7dc4fef1e7e15c951369c6b623a"), looks := true }, kinds := [], alts := [], laidByText := true, laidKinds := [.data, .data, .data, .sentinel, .sentinel], laidTests := true, laidLooks := .later }
def FnExactParseStreetUptoCardSaid : Prop := Claim7.holds Tryd.pinned (.plain (OpenSpec.upto fnExactParseStreetSpec)) fnExactParseStreetUptoCard
end Rows
end Go.Proofs.YthaepfpcnbhndabDoor
