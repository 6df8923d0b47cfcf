/-
  DERIVED. GIVEN WITH THE SEED: THE CARDS: each row of YtkgfbdbhllakoaaDoorRows.lean that lists a variable, with what it lists TIED to the program's text (the seventh form; the later family's looks); each row that meets fmt, with fmt's text TOLD by the authors' own Lean function (tested against real Go, not proved from fmt's source: count such statements apart). THE CARD IS WHAT COUNTS. Prove the row's statement (the work); the ties are given (YtkgfbdbhllakoaaDoorTie.lean); close each card by the builder's one call (the guide's Derived/Test/ToyasCard.lean, 'card_holds'). Laid BY PROGRAM, IN A SANDBOX (cutbox-door.mjs). By AI agents, Wed Nov 11 2026. No macro, syntax, notation, axiom, sorry.
-/
import Derived.Test.YtkgfbdbhllakoaaDoorRows
import GoSem.ClaimSeven
namespace Go.Proofs.YtkgfbdbhllakoaaDoor
namespace Rows

/-- THE TIED CARD OF 'laws.FnExactDriveDistance'. -/
def fnExactDriveDistanceCard : Claim7 := { stood := { row := fnExactDriveDistanceRow, standIns := [], harness := (true, "cad38b3a703673b91e72ae75bc5ccc2af40aa2c6b01f8b347eaf759cd8608843"), looks := false }, kinds := [], alts := [], laidByText := true, laidKinds := [.data, .pinned], laidTests := true, laidLooks := .later }
def FnExactDriveDistanceCardSaid : Prop := Claim7.holds Tryd.pinned (.plain (OpenSpec.ofChange fnExactDriveDistanceSpec)) fnExactDriveDistanceCard

/-- THE TIED CARD OF 'laws.FnExactFirstDrive'. -/
def fnExactFirstDriveCard : Claim7 := { stood := { row := fnExactFirstDriveRow, standIns := [], harness := (true, "cad38b3a703673b91e72ae75bc5ccc2af40aa2c6b01f8b347eaf759cd8608843"), looks := false }, kinds := [], alts := [], laidByText := true, laidKinds := [.data, .pinned], laidTests := true, laidLooks := .later }
def FnExactFirstDriveCardSaid : Prop := Claim7.holds Tryd.pinned (.plain (OpenSpec.ofChange fnExactFirstDriveSpec)) fnExactFirstDriveCard

/-- THE TIED CARD OF 'laws.FnExactCountDrives'. -/
def fnExactCountDrivesCard : Claim7 := { stood := { row := fnExactCountDrivesRow, standIns := [], harness := (true, "cad38b3a703673b91e72ae75bc5ccc2af40aa2c6b01f8b347eaf759cd8608843"), looks := false }, kinds := [], alts := [], laidByText := true, laidKinds := [.data, .pinned], laidTests := true, laidLooks := .later }
def FnExactCountDrivesCardSaid : Prop := Claim7.holds Tryd.pinned (.plain (OpenSpec.ofChange fnExactCountDrivesSpec)) fnExactCountDrivesCard

/-- THE TIED CARD OF 'laws.FnExactFewestTurns'. -/
def fnExactFewestTurnsCard : Claim7 := { stood := { row := fnExactFewestTurnsRow, standIns := [], harness := (true, "cad38b3a703673b91e72ae75bc5ccc2af40aa2c6b01f8b347eaf759cd8608843"), looks := false }, kinds := [], alts := [], laidByText := true, laidKinds := [.data, .pinned], laidTests := true, laidLooks := .later }
def FnExactFewestTurnsCardSaid : Prop := Claim7.holds Tryd.pinned (.plain (OpenSpec.ofChange fnExactFewestTurnsSpec)) fnExactFewestTurnsCard

/-- THE TIED CARD OF 'laws.FnExactThereAndBack'. -/
def fnExactThereAndBackCard : Claim7 := { stood := { row := fnExactThereAndBackRow, standIns := [], harness := (true, "cad38b3a703673b91e72ae75bc5ccc2af40aa2c6b01f8b347eaf759cd8608843"), looks := false }, kinds := [], alts := [], laidByText := true, laidKinds := [.data, .pinned], laidTests := true, laidLooks := .later }
def FnExactThereAndBackCardSaid : Prop := Claim7.holds Tryd.pinned (.plain (OpenSpec.ofChange fnExactThereAndBackSpec)) fnExactThereAndBackCard

/-- THE TIED CARD OF 'laws.FnExactDrivenFrom'. -/
def fnExactDrivenFromCard : Claim7 := { stood := { row := fnExactDrivenFromRow, standIns := [], harness := (true, "cad38b3a703673b91e72ae75bc5ccc2af40aa2c6b01f8b347eaf759cd8608843"), looks := false }, kinds := [], alts := [], laidByText := true, laidKinds := [.data, .pinned], laidTests := true, laidLooks := .later }
def FnExactDrivenFromCardSaid : Prop := Claim7.holds Tryd.pinned (.plain (OpenSpec.ofChange fnExactDrivenFromSpec)) fnExactDrivenFromCard

/-- THE TIED CARD OF 'laws.FnExactIsWholeWays'. -/
def fnExactIsWholeWaysCard : Claim7 := { stood := { row := fnExactIsWholeWaysRow, standIns := [], harness := (true, "cad38b3a703673b91e72ae75bc5ccc2af40aa2c6b01f8b347eaf759cd8608843"), looks := false }, kinds := [], alts := [], laidByText := true, laidKinds := [.data, .pinned], laidTests := true, laidLooks := .later }
def FnExactIsWholeWaysCardSaid : Prop := Claim7.holds Tryd.pinned (.plain (OpenSpec.ofChange fnExactIsWholeWaysSpec)) fnExactIsWholeWaysCard

/-- THE TIED CARD OF 'laws.FnExactLongestDrive'. -/
def fnExactLongestDriveCard : Claim7 := { stood := { row := fnExactLongestDriveRow, standIns := [], harness := (true, "cad38b3a703673b91e72ae75bc5ccc2af40aa2c6b01f8b347eaf759cd8608843"), looks := false }, kinds := [], alts := [], laidByText := true, laidKinds := [.data, .pinned], laidTests := true, laidLooks := .later }
def FnExactLongestDriveCardSaid : Prop := Claim7.holds Tryd.pinned (.plain (OpenSpec.ofChange fnExactLongestDriveSpec)) fnExactLongestDriveCard

/-- THE SECOND FORM's CARD OF 'laws.FnExactDriveDistance'. -/
def fnExactDriveDistanceUptoCard : Claim7 := { stood := { row := fnExactDriveDistanceUptoRow, standIns := [], harness := (true, "cad38b3a703673b91e72ae75bc5ccc2af40aa2c6b01f8b347eaf759cd8608843"), looks := false }, kinds := [], alts := [], laidByText := true, laidKinds := [.data, .pinned], laidTests := true, laidLooks := .later }
def FnExactDriveDistanceUptoCardSaid : Prop := Claim7.holds Tryd.pinned (.plain (OpenSpec.upto fnExactDriveDistanceSpec)) fnExactDriveDistanceUptoCard

/-- THE SECOND FORM's CARD OF 'laws.FnExactFirstDrive'. -/
def fnExactFirstDriveUptoCard : Claim7 := { stood := { row := fnExactFirstDriveUptoRow, standIns := [], harness := (true, "cad38b3a703673b91e72ae75bc5ccc2af40aa2c6b01f8b347eaf759cd8608843"), looks := false }, kinds := [], alts := [], laidByText := true, laidKinds := [.data, .pinned], laidTests := true, laidLooks := .later }
def FnExactFirstDriveUptoCardSaid : Prop := Claim7.holds Tryd.pinned (.plain (OpenSpec.upto fnExactFirstDriveSpec)) fnExactFirstDriveUptoCard

/-- THE SECOND FORM's CARD OF 'laws.FnExactCountDrives'. -/
def fnExactCountDrivesUptoCard : Claim7 := { stood := { row := fnExactCountDrivesUptoRow, standIns := [], harness := (true, "cad38b3a703673b91e72ae75bc5ccc2af40aa2c6b01f8b347eaf759cd8608843"), looks := false }, kinds := [], alts := [], laidByText := true, laidKinds := [.data, .pinned], laidTests := true, laidLooks := .later }
def FnExactCountDrivesUptoCardSaid : Prop := Claim7.holds Tryd.pinned (.plain (OpenSpec.upto fnExactCountDrivesSpec)) fnExactCountDrivesUptoCard

/-- THE SECOND FORM's CARD OF 'laws.FnExactFewestTurns'. -/
def fnExactFewestTurnsUptoCard : Claim7 := { stood := { row := fnExactFewestTurnsUptoRow, standIns := [], harness := (true, "cad38b3a703673b91e72ae75bc5ccc2af40aa2c6b01f8b347eaf759cd8608843"), looks := false }, kinds := [], alts := [], laidByText := true, laidKinds := [.data, .pinned], laidTests := true, laidLooks := .later }
def FnExactFewestTurnsUptoCardSaid : Prop := Claim7.holds Tryd.pinned (.plain (OpenSpec.upto fnExactFewestTurnsSpec)) fnExactFewestTurnsUptoCard

/-- THE SECOND FORM's CARD OF 'laws.FnExactThereAndBack'. -/
def fnExactThereAndBackUptoCard : Claim7 := { stood := { row := fnExactThereAndBackUptoRow, standIns := [], harness := (true, "cad38b3a703673b91e72ae75bc5ccc2af40aa2c6b01f8b347eaf759cd8608843"), looks := false }, kinds := [], alts := [], laidByText := true, laidKinds := [.data, .pinned], laidTests := true, laidLooks := .later }
def FnExactThereAndBackUptoCardSaid : Prop := Claim7.holds Tryd.pinned (.plain (OpenSpec.upto fnExactThereAndBackSpec)) fnExactThereAndBackUptoCard

/-- THE SECOND FORM's CARD OF 'laws.FnExactDrivenFrom'. -/
def fnExactDrivenFromUptoCard : Claim7 := { stood := { row := fnExactDrivenFromUptoRow, standIns := [], harness := (true, "cad38b3a703673b91e72ae75bc5ccc2af40aa2c6b01f8b347eaf759cd8608843"), looks := false }, kinds := [], alts := [], laidByText := true, laidKinds := [.data, .pinned], laidTests := true, laidLooks := .later }
def FnExactDrivenFromUptoCardSaid : Prop := Claim7.holds Tryd.pinned (.plain (OpenSpec.upto fnExactDrivenFromSpec)) fnExactDrivenFromUptoCard

/-- THE SECOND FORM's CARD OF 'laws.FnExactIsWholeWays'. -/
def fnExactIsWholeWaysUptoCard : Claim7 := { stood := { row := fnExactIsWholeWaysUptoRow, standIns := [], harness := (true, "cad38b3a703673b91e72ae75bc5ccc2af40aa2c6b01f8b347eaf759cd8608843"), looks := false }, kinds := [], alts := [], laidByText := true, laidKinds := [.data, .pinned], laidTests := true, laidLooks := .later }
def FnExactIsWholeWaysUptoCardSaid : Prop := Claim7.holds Tryd.pinned (.plain (OpenSpec.upto fnExactIsWholeWaysSpec)) fnExactIsWholeWaysUptoCard

/-- THE SECOND FORM's CARD OF 'laws.FnExactLongestDrive'. -/
def fnExactLongestDriveUptoCard : Claim7 := { stood := { row := fnExactLongestDriveUptoRow, standIns := [], harness := (true, "cad38b3a703673b91e72ae75bc5ccc2af40aa2c6b01f8b347eaf759cd8608843"), looks := false }, kinds := [], alts := [], laidByText := true, laidKinds := [.data, .pinned], laidTests := true, laidLooks := .later }
def FnExactLongestDriveUptoCardSaid : Prop := Claim7.holds Tryd.pinned (.plain (OpenSpec.upto fnExactLongestDriveSpec)) fnExactLongestDriveUptoCard
end Rows
end Go.Proofs.YtkgfbdbhllakoaaDoor
