/-
  DERIVED. GIVEN WITH THE SEED: THE CARDS: each row of YtcmlojidcpomjaaDoorRows.lean that lists a variable, with what it lists TIED to the program's text (the seventh form; the later family's looks); each row that meets fmt, with fmt's text TOLD by the authors' own Lean function (tested against real Go, not proved from fmt's source: count such statements apart). THE CARD IS WHAT COUNTS. Prove the row's statement (the work); the ties are given (YtcmlojidcpomjaaDoorTie.lean); close each card by the builder's one call (the guide's Derived/Test/ToyasCard.lean, 'card_holds'). Laid BY PROGRAM, IN A SANDBOX (cutbox-door.mjs). By AI agents, Wed Nov 11 2026. No macro, syntax, notation, axiom, sorry.
-/
import Derived.Test.YtcmlojidcpomjaaDoorRows
import GoSem.ClaimSeven
namespace Go.Proofs.YtcmlojidcpomjaaDoor
namespace Rows

/-- THE TIED CARD OF 'laws.FnExactParsePlates'. -/
def fnExactParsePlatesCard : Claim7 := { stood := { row := fnExactParsePlatesRow, standIns := [], harness := (true, "0b29dcbb75a284c2b7add934215aa9e7120ceec4d27d39ebd292f48657107c17"), looks := true }, kinds := [], alts := [], laidByText := true, laidKinds := [.data, .data, .data, .data, .sentinel, .sentinel, .pinned], laidTests := true, laidLooks := .later }
def FnExactParsePlatesCardSaid : Prop := Claim7.holds Tryd.pinned (.plain (OpenSpec.ofChange fnExactParsePlatesSpec)) fnExactParsePlatesCard

/-- THE SECOND FORM's CARD OF 'laws.FnExactParsePlates'. -/
def fnExactParsePlatesUptoCard : Claim7 := { stood := { row := fnExactParsePlatesUptoRow, standIns := [], harness := (true, "0b29dcbb75a284c2b7add934215aa9e7120ceec4d27d39ebd292f48657107c17"), looks := true }, kinds := [], alts := [], laidByText := true, laidKinds := [.data, .data, .data, .data, .sentinel, .sentinel, .pinned], laidTests := true, laidLooks := .later }
def FnExactParsePlatesUptoCardSaid : Prop := Claim7.holds Tryd.pinned (.plain (OpenSpec.upto fnExactParsePlatesSpec)) fnExactParsePlatesUptoCard
end Rows
end Go.Proofs.YtcmlojidcpomjaaDoor
