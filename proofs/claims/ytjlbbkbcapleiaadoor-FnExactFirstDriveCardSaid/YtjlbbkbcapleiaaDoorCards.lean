/-
  DERIVED. GIVEN WITH THE SEED: THE CARDS: each row of YtjlbbkbcapleiaaDoorRows.lean that lists a variable, with what it lists TIED to the program's text (the seventh form; the later family's looks); each row that meets fmt, with fmt's text TOLD by the authors' own Lean function (tested against real Go, not proved from fmt's source: count such statements apart). THE CARD IS WHAT COUNTS. Prove the row's statement (the work); the ties are given (YtjlbbkbcapleiaaDoorTie.lean); close each card by the builder's one call (the guide's Derived/Test/ToyasCard.lean, 'card_holds'). Laid BY PROGRAM, IN A SANDBOX (cutbox-door.mjs). By AI agents, Wed Nov 11 2026. No macro, syntax, notation, axiom, sorry.
-/
import Derived.Test.YtjlbbkbcapleiaaDoorRows
import GoSem.ClaimSeven
namespace Go.Proofs.YtjlbbkbcapleiaaDoor
namespace Rows

/-- THE TIED CARD OF 'laws.FnExactFirstDrive'. -/
def fnExactFirstDriveCard : Claim7 := { stood := { row := fnExactFirstDriveRow, standIns := [], harness := (true, "6f512941bbfab92839ed21278e357e15b5c390f218b417d3f150242c775aedd7"), looks := false }, kinds := [], alts := [], laidByText := true, laidKinds := [.data, .pinned], laidTests := true, laidLooks := .later }
def FnExactFirstDriveCardSaid : Prop := Claim7.holds Tryd.pinned (.plain (OpenSpec.ofChange fnExactFirstDriveSpec)) fnExactFirstDriveCard

/-- THE SECOND FORM's CARD OF 'laws.FnExactFirstDrive'. -/
def fnExactFirstDriveUptoCard : Claim7 := { stood := { row := fnExactFirstDriveUptoRow, standIns := [], harness := (true, "6f512941bbfab92839ed21278e357e15b5c390f218b417d3f150242c775aedd7"), looks := false }, kinds := [], alts := [], laidByText := true, laidKinds := [.data, .pinned], laidTests := true, laidLooks := .later }
def FnExactFirstDriveUptoCardSaid : Prop := Claim7.holds Tryd.pinned (.plain (OpenSpec.upto fnExactFirstDriveSpec)) fnExactFirstDriveUptoCard
end Rows
end Go.Proofs.YtjlbbkbcapleiaaDoor
