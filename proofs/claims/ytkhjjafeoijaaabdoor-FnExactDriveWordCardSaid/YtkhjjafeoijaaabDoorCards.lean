/-
  DERIVED. GIVEN WITH THE SEED: THE CARDS: each row of YtkhjjafeoijaaabDoorRows.lean that lists a variable, with what it lists TIED to the program's text (the seventh form; the later family's looks); each row that meets fmt, with fmt's text TOLD by the authors' own Lean function (tested against real Go, not proved from fmt's source: count such statements apart). THE CARD IS WHAT COUNTS. Prove the row's statement (the work); the ties are given (YtkhjjafeoijaaabDoorTie.lean); close each card by the builder's one call (the guide's Derived/Test/ToyasCard.lean, 'card_holds'). Laid BY PROGRAM, IN A SANDBOX (cutbox-door.mjs). By AI agents, Wed Nov 11 2026. No macro, syntax, notation, axiom, sorry.
-/
import Derived.Test.YtkhjjafeoijaaabDoorRows
import GoSem.ClaimSeven
namespace Go.Proofs.YtkhjjafeoijaaabDoor
namespace Rows

/-- THE TIED CARD OF 'laws.FnExactCanDrive'. -/
def fnExactCanDriveCard : Claim7 := { stood := { row := fnExactCanDriveRow, standIns := [], harness := (true, "7b9c73898e8c382b2aa5e697525a92ed64f085e19cb0629e4a4ea288e4dd9d82"), looks := false }, kinds := [], alts := [], laidByText := true, laidKinds := [.data, .pinned], laidTests := true, laidLooks := .later }
def FnExactCanDriveCardSaid : Prop := Claim7.holds Tryd.pinned (.plain (OpenSpec.ofChange fnExactCanDriveSpec)) fnExactCanDriveCard

/-- THE TIED CARD OF 'laws.FnExactDriveWord'. -/
def fnExactDriveWordCard : Claim7 := { stood := { row := fnExactDriveWordRow, standIns := [], harness := (true, "7b9c73898e8c382b2aa5e697525a92ed64f085e19cb0629e4a4ea288e4dd9d82"), looks := false }, kinds := [], alts := [], laidByText := true, laidKinds := [.data, .pinned], laidTests := true, laidLooks := .later }
def FnExactDriveWordCardSaid : Prop := Claim7.holds Tryd.pinned (.plain (OpenSpec.ofChange fnExactDriveWordSpec)) fnExactDriveWordCard

/-- THE TIED CARD OF 'laws.FnExactFirstDrive'. -/
def fnExactFirstDriveCard : Claim7 := { stood := { row := fnExactFirstDriveRow, standIns := [], harness := (true, "7b9c73898e8c382b2aa5e697525a92ed64f085e19cb0629e4a4ea288e4dd9d82"), looks := false }, kinds := [], alts := [], laidByText := true, laidKinds := [.data, .pinned], laidTests := true, laidLooks := .later }
def FnExactFirstDriveCardSaid : Prop := Claim7.holds Tryd.pinned (.plain (OpenSpec.ofChange fnExactFirstDriveSpec)) fnExactFirstDriveCard

/-- THE TIED CARD OF 'laws.FnExactLongestDrive'. -/
def fnExactLongestDriveCard : Claim7 := { stood := { row := fnExactLongestDriveRow, standIns := [], harness := (true, "7b9c73898e8c382b2aa5e697525a92ed64f085e19cb0629e4a4ea288e4dd9d82"), looks := false }, kinds := [], alts := [], laidByText := true, laidKinds := [.data, .pinned], laidTests := true, laidLooks := .later }
def FnExactLongestDriveCardSaid : Prop := Claim7.holds Tryd.pinned (.plain (OpenSpec.ofChange fnExactLongestDriveSpec)) fnExactLongestDriveCard

/-- THE SECOND FORM's CARD OF 'laws.FnExactCanDrive'. -/
def fnExactCanDriveUptoCard : Claim7 := { stood := { row := fnExactCanDriveUptoRow, standIns := [], harness := (true, "7b9c73898e8c382b2aa5e697525a92ed64f085e19cb0629e4a4ea288e4dd9d82"), looks := false }, kinds := [], alts := [], laidByText := true, laidKinds := [.data, .pinned], laidTests := true, laidLooks := .later }
def FnExactCanDriveUptoCardSaid : Prop := Claim7.holds Tryd.pinned (.plain (OpenSpec.upto fnExactCanDriveSpec)) fnExactCanDriveUptoCard

/-- THE SECOND FORM's CARD OF 'laws.FnExactDriveWord'. -/
def fnExactDriveWordUptoCard : Claim7 := { stood := { row := fnExactDriveWordUptoRow, standIns := [], harness := (true, "7b9c73898e8c382b2aa5e697525a92ed64f085e19cb0629e4a4ea288e4dd9d82"), looks := false }, kinds := [], alts := [], laidByText := true, laidKinds := [.data, .pinned], laidTests := true, laidLooks := .later }
def FnExactDriveWordUptoCardSaid : Prop := Claim7.holds Tryd.pinned (.plain (OpenSpec.upto fnExactDriveWordSpec)) fnExactDriveWordUptoCard

/-- THE SECOND FORM's CARD OF 'laws.FnExactFirstDrive'. -/
def fnExactFirstDriveUptoCard : Claim7 := { stood := { row := fnExactFirstDriveUptoRow, standIns := [], harness := (true, "7b9c73898e8c382b2aa5e697525a92ed64f085e19cb0629e4a4ea288e4dd9d82"), looks := false }, kinds := [], alts := [], laidByText := true, laidKinds := [.data, .pinned], laidTests := true, laidLooks := .later }
def FnExactFirstDriveUptoCardSaid : Prop := Claim7.holds Tryd.pinned (.plain (OpenSpec.upto fnExactFirstDriveSpec)) fnExactFirstDriveUptoCard

/-- THE SECOND FORM's CARD OF 'laws.FnExactLongestDrive'. -/
def fnExactLongestDriveUptoCard : Claim7 := { stood := { row := fnExactLongestDriveUptoRow, standIns := [], harness := (true, "7b9c73898e8c382b2aa5e697525a92ed64f085e19cb0629e4a4ea288e4dd9d82"), looks := false }, kinds := [], alts := [], laidByText := true, laidKinds := [.data, .pinned], laidTests := true, laidLooks := .later }
def FnExactLongestDriveUptoCardSaid : Prop := Claim7.holds Tryd.pinned (.plain (OpenSpec.upto fnExactLongestDriveSpec)) fnExactLongestDriveUptoCard
end Rows
end Go.Proofs.YtkhjjafeoijaaabDoor
