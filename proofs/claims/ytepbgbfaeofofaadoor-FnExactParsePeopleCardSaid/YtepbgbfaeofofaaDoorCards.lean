/-
  DERIVED. GIVEN WITH THE SEED: THE CARDS: each row of YtepbgbfaeofofaaDoorRows.lean that lists a variable, with what it lists TIED to the program's text (the seventh form; the later family's looks); each row that meets fmt, with fmt's text TOLD by the authors' own Lean function (tested against real Go, not proved from fmt's source: count such statements apart). THE CARD IS WHAT COUNTS. Prove the row's statement (the work); the ties are given (YtepbgbfaeofofaaDoorTie.lean); close each card by the builder's one call (the guide's Derived/Test/ToyasCard.lean, 'card_holds'). Laid BY PROGRAM, IN A SANDBOX (cutbox-door.mjs). By AI agents, Wed Nov 11 2026. No macro, syntax, notation, axiom, sorry.
-/
import Derived.Test.YtepbgbfaeofofaaDoorRows
import GoSem.ClaimSeven
namespace Go.Proofs.YtepbgbfaeofofaaDoor
namespace Rows

/-- THE TIED CARD OF 'laws.FnExactParsePeople'. -/
def fnExactParsePeopleCard : Claim7 := { stood := { row := fnExactParsePeopleRow, standIns := [], harness := (true, "c84d08abe1c76445e1082faa4a735ceffb7e4079e7847db53a40bd16c19a8abd"), looks := true }, kinds := [], alts := [], laidByText := true, laidKinds := [.data, .data, .data, .data, .sentinel, .sentinel, .pinned], laidTests := true, laidLooks := .later }
def FnExactParsePeopleCardSaid : Prop := Claim7.holds Tryd.pinned (.plain (OpenSpec.ofChange fnExactParsePeopleSpec)) fnExactParsePeopleCard

/-- THE SECOND FORM's CARD OF 'laws.FnExactParsePeople'. -/
def fnExactParsePeopleUptoCard : Claim7 := { stood := { row := fnExactParsePeopleUptoRow, standIns := [], harness := (true, "c84d08abe1c76445e1082faa4a735ceffb7e4079e7847db53a40bd16c19a8abd"), looks := true }, kinds := [], alts := [], laidByText := true, laidKinds := [.data, .data, .data, .data, .sentinel, .sentinel, .pinned], laidTests := true, laidLooks := .later }
def FnExactParsePeopleUptoCardSaid : Prop := Claim7.holds Tryd.pinned (.plain (OpenSpec.upto fnExactParsePeopleSpec)) fnExactParsePeopleUptoCard
end Rows
end Go.Proofs.YtepbgbfaeofofaaDoor
