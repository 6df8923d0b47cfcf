/-
  DERIVED. GIVEN WITH THE SEED: THE CARDS: each row of YtnpkhoiblemodaaDoorRows.lean that lists a variable, with what it lists TIED to the program's text (the seventh form; the later family's looks); each row that meets fmt, with fmt's text TOLD by the authors' own Lean function (tested against real Go, not proved from fmt's source: count such statements apart). THE CARD IS WHAT COUNTS. Prove the row's statement (the work); the ties are given (YtnpkhoiblemodaaDoorTie.lean); close each card by the builder's one call (the guide's Derived/Test/ToyasCard.lean, 'card_holds'). Laid BY PROGRAM, IN A SANDBOX (cutbox-door.mjs). By AI agents, Wed Nov 11 2026. No macro, syntax, notation, axiom, sorry.
-/
import Derived.Test.YtnpkhoiblemodaaDoorRows
import GoSem.ClaimSeven
namespace Go.Proofs.YtnpkhoiblemodaaDoor
namespace Rows

/-- THE TIED CARD OF 'laws.FnExactCityText'. -/
def fnExactCityTextCard : Claim7 := { stood := { row := fnExactCityTextRow, standIns := [], harness := (true, "145bb2db5170646a775c0c713a936a414e999b16acad170fea4ec68cd1b21d4b"), looks := true }, kinds := [], alts := [], laidByText := true, laidKinds := [.data, .data, .data], laidTests := true, laidLooks := .later }
def FnExactCityTextCardSaid : Prop := Claim7.holds Tryd.pinned (.plain (OpenSpec.ofChange fnExactCityTextSpec)) fnExactCityTextCard

/-- THE TIED CARD OF 'laws.FnExactParseCity'. -/
def fnExactParseCityCard : Claim7 := { stood := { row := fnExactParseCityRow, standIns := [], harness := (true, "145bb2db5170646a775c0c713a936a414e999b16acad170fea4ec68cd1b21d4b"), looks := true }, kinds := [], alts := [], laidByText := true, laidKinds := [.data, .data, .data, .data, .sentinel, .sentinel, .pinned], laidTests := true, laidLooks := .later }
def FnExactParseCityCardSaid : Prop := Claim7.holds Tryd.pinned (.plain (OpenSpec.ofChange fnExactParseCitySpec)) fnExactParseCityCard

/-- THE SECOND FORM's CARD OF 'laws.FnExactCityText'. -/
def fnExactCityTextUptoCard : Claim7 := { stood := { row := fnExactCityTextUptoRow, standIns := [], harness := (true, "145bb2db5170646a775c0c713a936a414e999b16acad170fea4ec68cd1b21d4b"), looks := true }, kinds := [], alts := [], laidByText := true, laidKinds := [.data, .data, .data], laidTests := true, laidLooks := .later }
def FnExactCityTextUptoCardSaid : Prop := Claim7.holds Tryd.pinned (.plain (OpenSpec.upto fnExactCityTextSpec)) fnExactCityTextUptoCard

/-- THE SECOND FORM's CARD OF 'laws.FnExactParseCity'. -/
def fnExactParseCityUptoCard : Claim7 := { stood := { row := fnExactParseCityUptoRow, standIns := [], harness := (true, "145bb2db5170646a775c0c713a936a414e999b16acad170fea4ec68cd1b21d4b"), looks := true }, kinds := [], alts := [], laidByText := true, laidKinds := [.data, .data, .data, .data, .sentinel, .sentinel, .pinned], laidTests := true, laidLooks := .later }
def FnExactParseCityUptoCardSaid : Prop := Claim7.holds Tryd.pinned (.plain (OpenSpec.upto fnExactParseCitySpec)) fnExactParseCityUptoCard
end Rows
end Go.Proofs.YtnpkhoiblemodaaDoor
