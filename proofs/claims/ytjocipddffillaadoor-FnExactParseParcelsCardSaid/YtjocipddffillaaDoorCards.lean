/-
  DERIVED. GIVEN WITH THE SEED: THE CARDS: each row of YtjocipddffillaaDoorRows.lean that lists a variable, with what it lists TIED to the program's text (the seventh form; the later family's looks); each row that meets fmt, with fmt's text TOLD by the authors' own Lean function (tested against real Go, not proved from fmt's source: count such statements apart). THE CARD IS WHAT COUNTS. Prove the row's statement (the work); the ties are given (YtjocipddffillaaDoorTie.lean); close each card by the builder's one call (the guide's Derived/Test/ToyasCard.lean, 'card_holds'). Laid BY PROGRAM, IN A SANDBOX (cutbox-door.mjs). By AI agents, Wed Nov 11 2026. No macro, syntax, notation, axiom, sorry.
-/
import Derived.Test.YtjocipddffillaaDoorRows
import GoSem.ClaimSeven
namespace Go.Proofs.YtjocipddffillaaDoor
namespace Rows

/-- THE TIED CARD OF 'laws.FnExactParcelsText'. -/
def fnExactParcelsTextCard : Claim7 := { stood := { row := fnExactParcelsTextRow, standIns := [], harness := (true, "ba7e4230d95cfe80b565d3bf6f00b3c97c81531159b2506810ddaf3a6630f369"), looks := true }, kinds := [], alts := [], laidByText := true, laidKinds := [.data, .data, .data], laidTests := true, laidLooks := .later }
def FnExactParcelsTextCardSaid : Prop := Claim7.holds Tryd.pinned (.plain (OpenSpec.ofChange fnExactParcelsTextSpec)) fnExactParcelsTextCard

/-- THE TIED CARD OF 'laws.FnExactParseParcels'. -/
def fnExactParseParcelsCard : Claim7 := { stood := { row := fnExactParseParcelsRow, standIns := [], harness := (true, "ba7e4230d95cfe80b565d3bf6f00b3c97c81531159b2506810ddaf3a6630f369"), looks := true }, kinds := [], alts := [], laidByText := true, laidKinds := [.data, .data, .data, .data, .sentinel, .sentinel, .pinned], laidTests := true, laidLooks := .later }
def FnExactParseParcelsCardSaid : Prop := Claim7.holds Tryd.pinned (.plain (OpenSpec.ofChange fnExactParseParcelsSpec)) fnExactParseParcelsCard

/-- THE SECOND FORM's CARD OF 'laws.FnExactParcelsText'. -/
def fnExactParcelsTextUptoCard : Claim7 := { stood := { row := fnExactParcelsTextUptoRow, standIns := [], harness := (true, "ba7e4230d95cfe80b565d3bf6f00b3c97c81531159b2506810ddaf3a6630f369"), looks := true }, kinds := [], alts := [], laidByText := true, laidKinds := [.data, .data, .data], laidTests := true, laidLooks := .later }
def FnExactParcelsTextUptoCardSaid : Prop := Claim7.holds Tryd.pinned (.plain (OpenSpec.upto fnExactParcelsTextSpec)) fnExactParcelsTextUptoCard

/-- THE SECOND FORM's CARD OF 'laws.FnExactParseParcels'. -/
def fnExactParseParcelsUptoCard : Claim7 := { stood := { row := fnExactParseParcelsUptoRow, standIns := [], harness := (true, "ba7e4230d95cfe80b565d3bf6f00b3c97c81531159b2506810ddaf3a6630f369"), looks := true }, kinds := [], alts := [], laidByText := true, laidKinds := [.data, .data, .data, .data, .sentinel, .sentinel, .pinned], laidTests := true, laidLooks := .later }
def FnExactParseParcelsUptoCardSaid : Prop := Claim7.holds Tryd.pinned (.plain (OpenSpec.upto fnExactParseParcelsSpec)) fnExactParseParcelsUptoCard
end Rows
end Go.Proofs.YtjocipddffillaaDoor
