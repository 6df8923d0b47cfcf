/-
  DERIVED. GIVEN WITH THE SEED: THE CARDS: each row of YtfdiiichjopncaaDoorRows.lean that lists a variable, with what it lists TIED to the program's text (the seventh form; the later family's looks); each row that meets fmt, with fmt's text TOLD by the authors' own Lean function (tested against real Go, not proved from fmt's source: count such statements apart). THE CARD IS WHAT COUNTS. Prove the row's statement (the work); the ties are given (YtfdiiichjopncaaDoorTie.lean); close each card by the builder's one call (the guide's Derived/Test/ToyasCard.lean, 'card_holds'). Laid BY PROGRAM, IN A SANDBOX (cutbox-door.mjs). By AI agents, Wed Nov 11 2026. No macro, syntax, notation, axiom, sorry.
-/
import Derived.Test.YtfdiiichjopncaaDoorRows
import GoSem.ClaimSeven
namespace Go.Proofs.YtfdiiichjopncaaDoor
namespace Rows

/-- THE TIED CARD OF 'laws.FnExactFewestTurns'. -/
def fnExactFewestTurnsCard : Claim7 := { stood := { row := fnExactFewestTurnsRow, standIns := [], harness := (true, "fe1cee5d7c001cec38747360781d947067ae006672075cb1f642286dc32005c7"), looks := false }, kinds := [], alts := [], laidByText := true, laidKinds := [.data, .pinned], laidTests := true, laidLooks := .later }
def FnExactFewestTurnsCardSaid : Prop := Claim7.holds Tryd.pinned (.plain (OpenSpec.ofChange fnExactFewestTurnsSpec)) fnExactFewestTurnsCard

/-- THE SECOND FORM's CARD OF 'laws.FnExactFewestTurns'. -/
def fnExactFewestTurnsUptoCard : Claim7 := { stood := { row := fnExactFewestTurnsUptoRow, standIns := [], harness := (true, "fe1cee5d7c001cec38747360781d947067ae006672075cb1f642286dc32005c7"), looks := false }, kinds := [], alts := [], laidByText := true, laidKinds := [.data, .pinned], laidTests := true, laidLooks := .later }
def FnExactFewestTurnsUptoCardSaid : Prop := Claim7.holds Tryd.pinned (.plain (OpenSpec.upto fnExactFewestTurnsSpec)) fnExactFewestTurnsUptoCard
end Rows
end Go.Proofs.YtfdiiichjopncaaDoor
