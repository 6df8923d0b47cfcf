/-
  DERIVED. GIVEN WITH THE SEED: THE CARDS: each row of YtaimpeajeppaiaaDoorRows.lean that lists a variable, with what it lists TIED to the program's text (the seventh form; the later family's looks); each row that meets fmt, with fmt's text TOLD by the authors' own Lean function (tested against real Go, not proved from fmt's source: count such statements apart). THE CARD IS WHAT COUNTS. Prove the row's statement (the work); the ties are given (YtaimpeajeppaiaaDoorTie.lean); close each card by the builder's one call (the guide's Derived/Test/ToyasCard.lean, 'card_holds'). Laid BY PROGRAM, IN A SANDBOX (cutbox-door.mjs). By AI agents, Wed Nov 11 2026. No macro, syntax, notation, axiom, sorry.
-/
import Derived.Test.YtaimpeajeppaiaaDoorRows
import GoSem.ClaimSeven
namespace Go.Proofs.YtaimpeajeppaiaaDoor
namespace Rows

/-- THE TIED CARD OF 'laws.FnExactFewestLamps'. -/
def fnExactFewestLampsCard : Claim7 := { stood := { row := fnExactFewestLampsRow, standIns := [], harness := (true, "2af90888a5b74c5bd9db6d7d0f5880aead501baf07b8bafd1b8ff269d55fd727"), looks := false }, kinds := [], alts := [], laidByText := true, laidKinds := [.data, .pinned], laidTests := true, laidLooks := .later }
def FnExactFewestLampsCardSaid : Prop := Claim7.holds Tryd.pinned (.plain (OpenSpec.ofChange fnExactFewestLampsSpec)) fnExactFewestLampsCard

/-- THE TIED CARD OF 'laws.FnExactFirstLamps'. -/
def fnExactFirstLampsCard : Claim7 := { stood := { row := fnExactFirstLampsRow, standIns := [], harness := (true, "2af90888a5b74c5bd9db6d7d0f5880aead501baf07b8bafd1b8ff269d55fd727"), looks := false }, kinds := [], alts := [], laidByText := true, laidKinds := [.data, .pinned], laidTests := true, laidLooks := .later }
def FnExactFirstLampsCardSaid : Prop := Claim7.holds Tryd.pinned (.plain (OpenSpec.ofChange fnExactFirstLampsSpec)) fnExactFirstLampsCard

/-- THE TIED CARD OF 'laws.FnExactCountLamps'. -/
def fnExactCountLampsCard : Claim7 := { stood := { row := fnExactCountLampsRow, standIns := [], harness := (true, "2af90888a5b74c5bd9db6d7d0f5880aead501baf07b8bafd1b8ff269d55fd727"), looks := false }, kinds := [], alts := [], laidByText := true, laidKinds := [.data, .pinned], laidTests := true, laidLooks := .later }
def FnExactCountLampsCardSaid : Prop := Claim7.holds Tryd.pinned (.plain (OpenSpec.ofChange fnExactCountLampsSpec)) fnExactCountLampsCard

/-- THE TIED CARD OF 'laws.FnExactLitBy'. -/
def fnExactLitByCard : Claim7 := { stood := { row := fnExactLitByRow, standIns := [], harness := (true, "2af90888a5b74c5bd9db6d7d0f5880aead501baf07b8bafd1b8ff269d55fd727"), looks := false }, kinds := [], alts := [], laidByText := true, laidKinds := [.data, .pinned], laidTests := true, laidLooks := .later }
def FnExactLitByCardSaid : Prop := Claim7.holds Tryd.pinned (.plain (OpenSpec.ofChange fnExactLitBySpec)) fnExactLitByCard

/-- THE TIED CARD OF 'laws.FnExactFewestGuards'. -/
def fnExactFewestGuardsCard : Claim7 := { stood := { row := fnExactFewestGuardsRow, standIns := [], harness := (true, "2af90888a5b74c5bd9db6d7d0f5880aead501baf07b8bafd1b8ff269d55fd727"), looks := false }, kinds := [], alts := [], laidByText := true, laidKinds := [.data, .pinned], laidTests := true, laidLooks := .later }
def FnExactFewestGuardsCardSaid : Prop := Claim7.holds Tryd.pinned (.plain (OpenSpec.ofChange fnExactFewestGuardsSpec)) fnExactFewestGuardsCard

/-- THE TIED CARD OF 'laws.FnExactTurnRow'. -/
def fnExactTurnRowCard : Claim7 := { stood := { row := fnExactTurnRowRow, standIns := [], harness := (true, "2af90888a5b74c5bd9db6d7d0f5880aead501baf07b8bafd1b8ff269d55fd727"), looks := false }, kinds := [], alts := [], laidByText := true, laidKinds := [.data, .pinned], laidTests := true, laidLooks := .later }
def FnExactTurnRowCardSaid : Prop := Claim7.holds Tryd.pinned (.plain (OpenSpec.ofChange fnExactTurnRowSpec)) fnExactTurnRowCard

/-- THE TIED CARD OF 'laws.FnExactIsLitRow'. -/
def fnExactIsLitRowCard : Claim7 := { stood := { row := fnExactIsLitRowRow, standIns := [], harness := (true, "2af90888a5b74c5bd9db6d7d0f5880aead501baf07b8bafd1b8ff269d55fd727"), looks := false }, kinds := [], alts := [], laidByText := true, laidKinds := [.data, .pinned], laidTests := true, laidLooks := .later }
def FnExactIsLitRowCardSaid : Prop := Claim7.holds Tryd.pinned (.plain (OpenSpec.ofChange fnExactIsLitRowSpec)) fnExactIsLitRowCard

/-- THE SECOND FORM's CARD OF 'laws.FnExactFewestLamps'. -/
def fnExactFewestLampsUptoCard : Claim7 := { stood := { row := fnExactFewestLampsUptoRow, standIns := [], harness := (true, "2af90888a5b74c5bd9db6d7d0f5880aead501baf07b8bafd1b8ff269d55fd727"), looks := false }, kinds := [], alts := [], laidByText := true, laidKinds := [.data, .pinned], laidTests := true, laidLooks := .later }
def FnExactFewestLampsUptoCardSaid : Prop := Claim7.holds Tryd.pinned (.plain (OpenSpec.upto fnExactFewestLampsSpec)) fnExactFewestLampsUptoCard

/-- THE SECOND FORM's CARD OF 'laws.FnExactFirstLamps'. -/
def fnExactFirstLampsUptoCard : Claim7 := { stood := { row := fnExactFirstLampsUptoRow, standIns := [], harness := (true, "2af90888a5b74c5bd9db6d7d0f5880aead501baf07b8bafd1b8ff269d55fd727"), looks := false }, kinds := [], alts := [], laidByText := true, laidKinds := [.data, .pinned], laidTests := true, laidLooks := .later }
def FnExactFirstLampsUptoCardSaid : Prop := Claim7.holds Tryd.pinned (.plain (OpenSpec.upto fnExactFirstLampsSpec)) fnExactFirstLampsUptoCard

/-- THE SECOND FORM's CARD OF 'laws.FnExactCountLamps'. -/
def fnExactCountLampsUptoCard : Claim7 := { stood := { row := fnExactCountLampsUptoRow, standIns := [], harness := (true, "2af90888a5b74c5bd9db6d7d0f5880aead501baf07b8bafd1b8ff269d55fd727"), looks := false }, kinds := [], alts := [], laidByText := true, laidKinds := [.data, .pinned], laidTests := true, laidLooks := .later }
def FnExactCountLampsUptoCardSaid : Prop := Claim7.holds Tryd.pinned (.plain (OpenSpec.upto fnExactCountLampsSpec)) fnExactCountLampsUptoCard

/-- THE SECOND FORM's CARD OF 'laws.FnExactLitBy'. -/
def fnExactLitByUptoCard : Claim7 := { stood := { row := fnExactLitByUptoRow, standIns := [], harness := (true, "2af90888a5b74c5bd9db6d7d0f5880aead501baf07b8bafd1b8ff269d55fd727"), looks := false }, kinds := [], alts := [], laidByText := true, laidKinds := [.data, .pinned], laidTests := true, laidLooks := .later }
def FnExactLitByUptoCardSaid : Prop := Claim7.holds Tryd.pinned (.plain (OpenSpec.upto fnExactLitBySpec)) fnExactLitByUptoCard

/-- THE SECOND FORM's CARD OF 'laws.FnExactFewestGuards'. -/
def fnExactFewestGuardsUptoCard : Claim7 := { stood := { row := fnExactFewestGuardsUptoRow, standIns := [], harness := (true, "2af90888a5b74c5bd9db6d7d0f5880aead501baf07b8bafd1b8ff269d55fd727"), looks := false }, kinds := [], alts := [], laidByText := true, laidKinds := [.data, .pinned], laidTests := true, laidLooks := .later }
def FnExactFewestGuardsUptoCardSaid : Prop := Claim7.holds Tryd.pinned (.plain (OpenSpec.upto fnExactFewestGuardsSpec)) fnExactFewestGuardsUptoCard

/-- THE SECOND FORM's CARD OF 'laws.FnExactTurnRow'. -/
def fnExactTurnRowUptoCard : Claim7 := { stood := { row := fnExactTurnRowUptoRow, standIns := [], harness := (true, "2af90888a5b74c5bd9db6d7d0f5880aead501baf07b8bafd1b8ff269d55fd727"), looks := false }, kinds := [], alts := [], laidByText := true, laidKinds := [.data, .pinned], laidTests := true, laidLooks := .later }
def FnExactTurnRowUptoCardSaid : Prop := Claim7.holds Tryd.pinned (.plain (OpenSpec.upto fnExactTurnRowSpec)) fnExactTurnRowUptoCard

/-- THE SECOND FORM's CARD OF 'laws.FnExactIsLitRow'. -/
def fnExactIsLitRowUptoCard : Claim7 := { stood := { row := fnExactIsLitRowUptoRow, standIns := [], harness := (true, "2af90888a5b74c5bd9db6d7d0f5880aead501baf07b8bafd1b8ff269d55fd727"), looks := false }, kinds := [], alts := [], laidByText := true, laidKinds := [.data, .pinned], laidTests := true, laidLooks := .later }
def FnExactIsLitRowUptoCardSaid : Prop := Claim7.holds Tryd.pinned (.plain (OpenSpec.upto fnExactIsLitRowSpec)) fnExactIsLitRowUptoCard
end Rows
end Go.Proofs.YtaimpeajeppaiaaDoor
