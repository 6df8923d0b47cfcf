/-
  DERIVED. GIVEN WITH THE SEED: THE CARDS: each row of YtbnkhmemicmadabDoorRows.lean that lists a variable, with what it lists TIED to the program's text (the seventh form; the later family's looks); each row that meets fmt, with fmt's text TOLD by the authors' own Lean function (tested against real Go, not proved from fmt's source: count such statements apart). THE CARD IS WHAT COUNTS. Prove the row's statement (the work); the ties are given (YtbnkhmemicmadabDoorTie.lean); close each card by the builder's one call (the guide's Derived/Test/ToyasCard.lean, 'card_holds'). Laid BY PROGRAM, IN A SANDBOX (cutbox-door.mjs). By AI agents, Wed Nov 11 2026. No macro, syntax, notation, axiom, sorry.
-/
import Derived.Test.YtbnkhmemicmadabDoorRows
import GoSem.ClaimSeven
namespace Go.Proofs.YtbnkhmemicmadabDoor
namespace Rows

/-- THE TIED CARD OF 'laws.FnExactPlateText'. -/
def fnExactPlateTextCard : Claim7 := { stood := { row := fnExactPlateTextRow, standIns := [], harness := (true, "e6c1c4ec11e684fba5e65314b2f1f9cc18e134d2a8d2f606c8b888aaa9fe522d"), looks := true }, kinds := [], alts := [], laidByText := true, laidKinds := [.data, .data, .data], laidTests := true, laidLooks := .later }
def FnExactPlateTextCardSaid : Prop := Claim7.holds Tryd.pinned (.plain (OpenSpec.ofChange fnExactPlateTextSpec)) fnExactPlateTextCard

/-- THE TIED CARD OF 'laws.FnExactParsePlate'. -/
def fnExactParsePlateCard : Claim7 := { stood := { row := fnExactParsePlateRow, standIns := [], harness := (true, "e6c1c4ec11e684fba5e65314b2f1f9cc18e134d2a8d2f606c8b888aaa9fe522d"), looks := true }, kinds := [], alts := [], laidByText := true, laidKinds := [.data, .data, .data, .sentinel, .sentinel], laidTests := true, laidLooks := .later }
def FnExactParsePlateCardSaid : Prop := Claim7.holds Tryd.pinned (.plain (OpenSpec.ofChange fnExactParsePlateSpec)) fnExactParsePlateCard

/-- THE TIED CARD OF 'laws.FnExactPlatesText'. -/
def fnExactPlatesTextCard : Claim7 := { stood := { row := fnExactPlatesTextRow, standIns := [], harness := (true, "e6c1c4ec11e684fba5e65314b2f1f9cc18e134d2a8d2f606c8b888aaa9fe522d"), looks := true }, kinds := [], alts := [], laidByText := true, laidKinds := [.data, .data, .data], laidTests := true, laidLooks := .later }
def FnExactPlatesTextCardSaid : Prop := Claim7.holds Tryd.pinned (.plain (OpenSpec.ofChange fnExactPlatesTextSpec)) fnExactPlatesTextCard

/-- THE SECOND FORM's CARD OF 'laws.FnExactPlateText'. -/
def fnExactPlateTextUptoCard : Claim7 := { stood := { row := fnExactPlateTextUptoRow, standIns := [], harness := (true, "e6c1c4ec11e684fba5e65314b2f1f9cc18e134d2a8d2f606c8b888aaa9fe522d"), looks := true }, kinds := [], alts := [], laidByText := true, laidKinds := [.data, .data, .data], laidTests := true, laidLooks := .later }
def FnExactPlateTextUptoCardSaid : Prop := Claim7.holds Tryd.pinned (.plain (OpenSpec.upto fnExactPlateTextSpec)) fnExactPlateTextUptoCard

/-- THE SECOND FORM's CARD OF 'laws.FnExactParsePlate'. -/
def fnExactParsePlateUptoCard : Claim7 := { stood := { row := fnExactParsePlateUptoRow, standIns := [], harness := (true, "e6c1c4ec11e684fba5e65314b2f1f9cc18e134d2a8d2f606c8b888aaa9fe522d"), looks := true }, kinds := [], alts := [], laidByText := true, laidKinds := [.data, .data, .data, .sentinel, .sentinel], laidTests := true, laidLooks := .later }
def FnExactParsePlateUptoCardSaid : Prop := Claim7.holds Tryd.pinned (.plain (OpenSpec.upto fnExactParsePlateSpec)) fnExactParsePlateUptoCard

/-- THE SECOND FORM's CARD OF 'laws.FnExactPlatesText'. -/
def fnExactPlatesTextUptoCard : Claim7 := { stood := { row := fnExactPlatesTextUptoRow, standIns := [], harness := (true, "e6c1c4ec11e684fba5e65314b2f1f9cc18e134d2a8d2f606c8b888aaa9fe522d"), looks := true }, kinds := [], alts := [], laidByText := true, laidKinds := [.data, .data, .data], laidTests := true, laidLooks := .later }
def FnExactPlatesTextUptoCardSaid : Prop := Claim7.holds Tryd.pinned (.plain (OpenSpec.upto fnExactPlatesTextSpec)) fnExactPlatesTextUptoCard
end Rows
end Go.Proofs.YtbnkhmemicmadabDoor
