/-
  DERIVED. GIVEN WITH THE SEED: THE CARDS: each row of YtcmjckipicmmeaaDoorRows.lean that lists a variable, with what it lists TIED to the program's text (the seventh form; the later family's looks); each row that meets fmt, with fmt's text TOLD by the authors' own Lean function (tested against real Go, not proved from fmt's source: count such statements apart). THE CARD IS WHAT COUNTS. Prove the row's statement (the work); the ties are given (YtcmjckipicmmeaaDoorTie.lean); close each card by the builder's one call (the guide's Derived/Test/ToyasCard.lean, 'card_holds'). Laid BY PROGRAM, IN A SANDBOX (cutbox-door.mjs). By AI agents, Wed Nov 11 2026. No macro, syntax, notation, axiom, sorry.
-/
import Derived.Test.YtcmjckipicmmeaaDoorRows
import GoSem.ClaimSeven
namespace Go.Proofs.YtcmjckipicmmeaaDoor
namespace Rows

/-- THE TIED CARD OF 'laws.FnExactAreWays'. -/
def fnExactAreWaysCard : Claim7 := { stood := { row := fnExactAreWaysRow, standIns := [], harness := (true, "b45b3f090f36726a08afb2c99e12935b1983a52e6bb89ba9b433d4936a2bc797"), looks := false }, kinds := [], alts := [], laidByText := true, laidKinds := [.data, .pinned], laidTests := true, laidLooks := .later }
def FnExactAreWaysCardSaid : Prop := Claim7.holds Tryd.pinned (.plain (OpenSpec.ofChange fnExactAreWaysSpec)) fnExactAreWaysCard

/-- THE TIED CARD OF 'laws.FnExactCanDrive'. -/
def fnExactCanDriveCard : Claim7 := { stood := { row := fnExactCanDriveRow, standIns := [], harness := (true, "b45b3f090f36726a08afb2c99e12935b1983a52e6bb89ba9b433d4936a2bc797"), looks := false }, kinds := [], alts := [], laidByText := true, laidKinds := [.data, .pinned], laidTests := true, laidLooks := .later }
def FnExactCanDriveCardSaid : Prop := Claim7.holds Tryd.pinned (.plain (OpenSpec.ofChange fnExactCanDriveSpec)) fnExactCanDriveCard

/-- THE TIED CARD OF 'laws.FnExactDriveWord'. -/
def fnExactDriveWordCard : Claim7 := { stood := { row := fnExactDriveWordRow, standIns := [], harness := (true, "b45b3f090f36726a08afb2c99e12935b1983a52e6bb89ba9b433d4936a2bc797"), looks := false }, kinds := [], alts := [], laidByText := true, laidKinds := [.data, .pinned], laidTests := true, laidLooks := .later }
def FnExactDriveWordCardSaid : Prop := Claim7.holds Tryd.pinned (.plain (OpenSpec.ofChange fnExactDriveWordSpec)) fnExactDriveWordCard

/-- THE TIED CARD OF 'laws.FnExactHasRing'. -/
def fnExactHasRingCard : Claim7 := { stood := { row := fnExactHasRingRow, standIns := [], harness := (true, "b45b3f090f36726a08afb2c99e12935b1983a52e6bb89ba9b433d4936a2bc797"), looks := false }, kinds := [], alts := [], laidByText := true, laidKinds := [.data, .pinned], laidTests := true, laidLooks := .later }
def FnExactHasRingCardSaid : Prop := Claim7.holds Tryd.pinned (.plain (OpenSpec.ofChange fnExactHasRingSpec)) fnExactHasRingCard

/-- THE TIED CARD OF 'laws.FnExactRoundOfBlock'. -/
def fnExactRoundOfBlockCard : Claim7 := { stood := { row := fnExactRoundOfBlockRow, standIns := [], harness := (true, "b45b3f090f36726a08afb2c99e12935b1983a52e6bb89ba9b433d4936a2bc797"), looks := false }, kinds := [], alts := [], laidByText := true, laidKinds := [.data, .pinned], laidTests := true, laidLooks := .later }
def FnExactRoundOfBlockCardSaid : Prop := Claim7.holds Tryd.pinned (.plain (OpenSpec.ofChange fnExactRoundOfBlockSpec)) fnExactRoundOfBlockCard

/-- THE TIED CARD OF 'laws.FnExactCountRounds'. -/
def fnExactCountRoundsCard : Claim7 := { stood := { row := fnExactCountRoundsRow, standIns := [], harness := (true, "b45b3f090f36726a08afb2c99e12935b1983a52e6bb89ba9b433d4936a2bc797"), looks := false }, kinds := [], alts := [], laidByText := true, laidKinds := [.data, .pinned], laidTests := true, laidLooks := .later }
def FnExactCountRoundsCardSaid : Prop := Claim7.holds Tryd.pinned (.plain (OpenSpec.ofChange fnExactCountRoundsSpec)) fnExactCountRoundsCard

/-- THE TIED CARD OF 'laws.FnExactTurnWay'. -/
def fnExactTurnWayCard : Claim7 := { stood := { row := fnExactTurnWayRow, standIns := [], harness := (true, "b45b3f090f36726a08afb2c99e12935b1983a52e6bb89ba9b433d4936a2bc797"), looks := false }, kinds := [], alts := [], laidByText := true, laidKinds := [.data, .pinned], laidTests := true, laidLooks := .later }
def FnExactTurnWayCardSaid : Prop := Claim7.holds Tryd.pinned (.plain (OpenSpec.ofChange fnExactTurnWaySpec)) fnExactTurnWayCard

/-- THE TIED CARD OF 'laws.FnExactBackWays'. -/
def fnExactBackWaysCard : Claim7 := { stood := { row := fnExactBackWaysRow, standIns := [], harness := (true, "b45b3f090f36726a08afb2c99e12935b1983a52e6bb89ba9b433d4936a2bc797"), looks := false }, kinds := [], alts := [], laidByText := true, laidKinds := [.data, .pinned], laidTests := true, laidLooks := .later }
def FnExactBackWaysCardSaid : Prop := Claim7.holds Tryd.pinned (.plain (OpenSpec.ofChange fnExactBackWaysSpec)) fnExactBackWaysCard

/-- THE TIED CARD OF 'laws.FnExactWaysText'. -/
def fnExactWaysTextCard : Claim7 := { stood := { row := fnExactWaysTextRow, standIns := [], harness := (true, "b45b3f090f36726a08afb2c99e12935b1983a52e6bb89ba9b433d4936a2bc797"), looks := false }, kinds := [], alts := [], laidByText := true, laidKinds := [.data, .pinned], laidTests := true, laidLooks := .later }
def FnExactWaysTextCardSaid : Prop := Claim7.holds Tryd.pinned (.plain (OpenSpec.ofChange fnExactWaysTextSpec)) fnExactWaysTextCard

/-- THE TIED CARD OF 'laws.FnExactParseWays'. -/
def fnExactParseWaysCard : Claim7 := { stood := { row := fnExactParseWaysRow, standIns := [], harness := (true, "b45b3f090f36726a08afb2c99e12935b1983a52e6bb89ba9b433d4936a2bc797"), looks := false }, kinds := [], alts := [], laidByText := true, laidKinds := [.data, .pinned], laidTests := true, laidLooks := .later }
def FnExactParseWaysCardSaid : Prop := Claim7.holds Tryd.pinned (.plain (OpenSpec.ofChange fnExactParseWaysSpec)) fnExactParseWaysCard

/-- THE SECOND FORM's CARD OF 'laws.FnExactAreWays'. -/
def fnExactAreWaysUptoCard : Claim7 := { stood := { row := fnExactAreWaysUptoRow, standIns := [], harness := (true, "b45b3f090f36726a08afb2c99e12935b1983a52e6bb89ba9b433d4936a2bc797"), looks := false }, kinds := [], alts := [], laidByText := true, laidKinds := [.data, .pinned], laidTests := true, laidLooks := .later }
def FnExactAreWaysUptoCardSaid : Prop := Claim7.holds Tryd.pinned (.plain (OpenSpec.upto fnExactAreWaysSpec)) fnExactAreWaysUptoCard

/-- THE SECOND FORM's CARD OF 'laws.FnExactCanDrive'. -/
def fnExactCanDriveUptoCard : Claim7 := { stood := { row := fnExactCanDriveUptoRow, standIns := [], harness := (true, "b45b3f090f36726a08afb2c99e12935b1983a52e6bb89ba9b433d4936a2bc797"), looks := false }, kinds := [], alts := [], laidByText := true, laidKinds := [.data, .pinned], laidTests := true, laidLooks := .later }
def FnExactCanDriveUptoCardSaid : Prop := Claim7.holds Tryd.pinned (.plain (OpenSpec.upto fnExactCanDriveSpec)) fnExactCanDriveUptoCard

/-- THE SECOND FORM's CARD OF 'laws.FnExactDriveWord'. -/
def fnExactDriveWordUptoCard : Claim7 := { stood := { row := fnExactDriveWordUptoRow, standIns := [], harness := (true, "b45b3f090f36726a08afb2c99e12935b1983a52e6bb89ba9b433d4936a2bc797"), looks := false }, kinds := [], alts := [], laidByText := true, laidKinds := [.data, .pinned], laidTests := true, laidLooks := .later }
def FnExactDriveWordUptoCardSaid : Prop := Claim7.holds Tryd.pinned (.plain (OpenSpec.upto fnExactDriveWordSpec)) fnExactDriveWordUptoCard

/-- THE SECOND FORM's CARD OF 'laws.FnExactHasRing'. -/
def fnExactHasRingUptoCard : Claim7 := { stood := { row := fnExactHasRingUptoRow, standIns := [], harness := (true, "b45b3f090f36726a08afb2c99e12935b1983a52e6bb89ba9b433d4936a2bc797"), looks := false }, kinds := [], alts := [], laidByText := true, laidKinds := [.data, .pinned], laidTests := true, laidLooks := .later }
def FnExactHasRingUptoCardSaid : Prop := Claim7.holds Tryd.pinned (.plain (OpenSpec.upto fnExactHasRingSpec)) fnExactHasRingUptoCard

/-- THE SECOND FORM's CARD OF 'laws.FnExactRoundOfBlock'. -/
def fnExactRoundOfBlockUptoCard : Claim7 := { stood := { row := fnExactRoundOfBlockUptoRow, standIns := [], harness := (true, "b45b3f090f36726a08afb2c99e12935b1983a52e6bb89ba9b433d4936a2bc797"), looks := false }, kinds := [], alts := [], laidByText := true, laidKinds := [.data, .pinned], laidTests := true, laidLooks := .later }
def FnExactRoundOfBlockUptoCardSaid : Prop := Claim7.holds Tryd.pinned (.plain (OpenSpec.upto fnExactRoundOfBlockSpec)) fnExactRoundOfBlockUptoCard

/-- THE SECOND FORM's CARD OF 'laws.FnExactCountRounds'. -/
def fnExactCountRoundsUptoCard : Claim7 := { stood := { row := fnExactCountRoundsUptoRow, standIns := [], harness := (true, "b45b3f090f36726a08afb2c99e12935b1983a52e6bb89ba9b433d4936a2bc797"), looks := false }, kinds := [], alts := [], laidByText := true, laidKinds := [.data, .pinned], laidTests := true, laidLooks := .later }
def FnExactCountRoundsUptoCardSaid : Prop := Claim7.holds Tryd.pinned (.plain (OpenSpec.upto fnExactCountRoundsSpec)) fnExactCountRoundsUptoCard

/-- THE SECOND FORM's CARD OF 'laws.FnExactTurnWay'. -/
def fnExactTurnWayUptoCard : Claim7 := { stood := { row := fnExactTurnWayUptoRow, standIns := [], harness := (true, "b45b3f090f36726a08afb2c99e12935b1983a52e6bb89ba9b433d4936a2bc797"), looks := false }, kinds := [], alts := [], laidByText := true, laidKinds := [.data, .pinned], laidTests := true, laidLooks := .later }
def FnExactTurnWayUptoCardSaid : Prop := Claim7.holds Tryd.pinned (.plain (OpenSpec.upto fnExactTurnWaySpec)) fnExactTurnWayUptoCard

/-- THE SECOND FORM's CARD OF 'laws.FnExactBackWays'. -/
def fnExactBackWaysUptoCard : Claim7 := { stood := { row := fnExactBackWaysUptoRow, standIns := [], harness := (true, "b45b3f090f36726a08afb2c99e12935b1983a52e6bb89ba9b433d4936a2bc797"), looks := false }, kinds := [], alts := [], laidByText := true, laidKinds := [.data, .pinned], laidTests := true, laidLooks := .later }
def FnExactBackWaysUptoCardSaid : Prop := Claim7.holds Tryd.pinned (.plain (OpenSpec.upto fnExactBackWaysSpec)) fnExactBackWaysUptoCard

/-- THE SECOND FORM's CARD OF 'laws.FnExactWaysText'. -/
def fnExactWaysTextUptoCard : Claim7 := { stood := { row := fnExactWaysTextUptoRow, standIns := [], harness := (true, "b45b3f090f36726a08afb2c99e12935b1983a52e6bb89ba9b433d4936a2bc797"), looks := false }, kinds := [], alts := [], laidByText := true, laidKinds := [.data, .pinned], laidTests := true, laidLooks := .later }
def FnExactWaysTextUptoCardSaid : Prop := Claim7.holds Tryd.pinned (.plain (OpenSpec.upto fnExactWaysTextSpec)) fnExactWaysTextUptoCard

/-- THE SECOND FORM's CARD OF 'laws.FnExactParseWays'. -/
def fnExactParseWaysUptoCard : Claim7 := { stood := { row := fnExactParseWaysUptoRow, standIns := [], harness := (true, "b45b3f090f36726a08afb2c99e12935b1983a52e6bb89ba9b433d4936a2bc797"), looks := false }, kinds := [], alts := [], laidByText := true, laidKinds := [.data, .pinned], laidTests := true, laidLooks := .later }
def FnExactParseWaysUptoCardSaid : Prop := Claim7.holds Tryd.pinned (.plain (OpenSpec.upto fnExactParseWaysSpec)) fnExactParseWaysUptoCard
end Rows
end Go.Proofs.YtcmjckipicmmeaaDoor
