/-
  DERIVED. GIVEN WITH THE SEED: THE CARDS: each row of YtgaodlhdilhliaaDoorRows.lean that lists a variable, with what it lists TIED to the program's text (the seventh form; the later family's looks); each row that meets fmt, with fmt's text TOLD by the authors' own Lean function (tested against real Go, not proved from fmt's source: count such statements apart). THE CARD IS WHAT COUNTS. Prove the row's statement (the work); the ties are given (YtgaodlhdilhliaaDoorTie.lean); close each card by the builder's one call (the guide's Derived/Test/ToyasCard.lean, 'card_holds'). Laid BY PROGRAM, IN A SANDBOX (cutbox-door.mjs). By AI agents, Wed Nov 11 2026. No macro, syntax, notation, axiom, sorry.
-/
import Derived.Test.YtgaodlhdilhliaaDoorRows
import GoSem.ClaimSeven
namespace Go.Proofs.YtgaodlhdilhliaaDoor
namespace Rows

/-- THE TIED CARD OF 'laws.FnSeriesText'. -/
def fnSeriesTextCard : Claim7 := { stood := { row := fnSeriesTextRow, standIns := [], harness := (true, "509aa749cdd291ab7a6c4d843f4f24156804ea21061d473114b3a981c0f2c25a"), looks := true }, kinds := [], alts := [], laidByText := true, laidKinds := [.data, .data, .data, .data, .sentinel, .sentinel, .pinned], laidTests := true, laidLooks := .later }
def FnSeriesTextCardSaid : Prop := Claim7.holds Tryd.pinned (.plain (OpenSpec.ofChange fnSeriesTextSpec)) fnSeriesTextCard

/-- THE TIED CARD OF 'laws.FnParseSeries'. -/
def fnParseSeriesCard : Claim7 := { stood := { row := fnParseSeriesRow, standIns := [], harness := (true, "509aa749cdd291ab7a6c4d843f4f24156804ea21061d473114b3a981c0f2c25a"), looks := true }, kinds := [], alts := [], laidByText := true, laidKinds := [.data, .data, .data, .data, .sentinel, .sentinel, .pinned], laidTests := true, laidLooks := .later }
def FnParseSeriesCardSaid : Prop := Claim7.holds Tryd.pinned (.plain (OpenSpec.ofChange fnParseSeriesSpec)) fnParseSeriesCard

/-- THE TIED CARD OF 'laws.FnExactSeriesText'. -/
def fnExactSeriesTextCard : Claim7 := { stood := { row := fnExactSeriesTextRow, standIns := [], harness := (true, "509aa749cdd291ab7a6c4d843f4f24156804ea21061d473114b3a981c0f2c25a"), looks := true }, kinds := [], alts := [], laidByText := true, laidKinds := [.data, .data, .data], laidTests := true, laidLooks := .later }
def FnExactSeriesTextCardSaid : Prop := Claim7.holds Tryd.pinned (.plain (OpenSpec.ofChange fnExactSeriesTextSpec)) fnExactSeriesTextCard

/-- THE TIED CARD OF 'laws.FnExactParseSeries'. -/
def fnExactParseSeriesCard : Claim7 := { stood := { row := fnExactParseSeriesRow, standIns := [], harness := (true, "509aa749cdd291ab7a6c4d843f4f24156804ea21061d473114b3a981c0f2c25a"), looks := true }, kinds := [], alts := [], laidByText := true, laidKinds := [.data, .data, .data, .data, .sentinel, .sentinel, .pinned], laidTests := true, laidLooks := .later }
def FnExactParseSeriesCardSaid : Prop := Claim7.holds Tryd.pinned (.plain (OpenSpec.ofChange fnExactParseSeriesSpec)) fnExactParseSeriesCard

/-- THE SECOND FORM's CARD OF 'laws.FnSeriesText'. -/
def fnSeriesTextUptoCard : Claim7 := { stood := { row := fnSeriesTextUptoRow, standIns := [], harness := (true, "509aa749cdd291ab7a6c4d843f4f24156804ea21061d473114b3a981c0f2c25a"), looks := true }, kinds := [], alts := [], laidByText := true, laidKinds := [.data, .data, .data, .data, .sentinel, .sentinel, .pinned], laidTests := true, laidLooks := .later }
def FnSeriesTextUptoCardSaid : Prop := Claim7.holds Tryd.pinned (.plain (OpenSpec.upto fnSeriesTextSpec)) fnSeriesTextUptoCard

/-- THE SECOND FORM's CARD OF 'laws.FnParseSeries'. -/
def fnParseSeriesUptoCard : Claim7 := { stood := { row := fnParseSeriesUptoRow, standIns := [], harness := (true, "509aa749cdd291ab7a6c4d843f4f24156804ea21061d473114b3a981c0f2c25a"), looks := true }, kinds := [], alts := [], laidByText := true, laidKinds := [.data, .data, .data, .data, .sentinel, .sentinel, .pinned], laidTests := true, laidLooks := .later }
def FnParseSeriesUptoCardSaid : Prop := Claim7.holds Tryd.pinned (.plain (OpenSpec.upto fnParseSeriesSpec)) fnParseSeriesUptoCard

/-- THE SECOND FORM's CARD OF 'laws.FnExactSeriesText'. -/
def fnExactSeriesTextUptoCard : Claim7 := { stood := { row := fnExactSeriesTextUptoRow, standIns := [], harness := (true, "509aa749cdd291ab7a6c4d843f4f24156804ea21061d473114b3a981c0f2c25a"), looks := true }, kinds := [], alts := [], laidByText := true, laidKinds := [.data, .data, .data], laidTests := true, laidLooks := .later }
def FnExactSeriesTextUptoCardSaid : Prop := Claim7.holds Tryd.pinned (.plain (OpenSpec.upto fnExactSeriesTextSpec)) fnExactSeriesTextUptoCard

/-- THE SECOND FORM's CARD OF 'laws.FnExactParseSeries'. -/
def fnExactParseSeriesUptoCard : Claim7 := { stood := { row := fnExactParseSeriesUptoRow, standIns := [], harness := (true, "509aa749cdd291ab7a6c4d843f4f24156804ea21061d473114b3a981c0f2c25a"), looks := true }, kinds := [], alts := [], laidByText := true, laidKinds := [.data, .data, .data, .data, .sentinel, .sentinel, .pinned], laidTests := true, laidLooks := .later }
def FnExactParseSeriesUptoCardSaid : Prop := Claim7.holds Tryd.pinned (.plain (OpenSpec.upto fnExactParseSeriesSpec)) fnExactParseSeriesUptoCard
end Rows
end Go.Proofs.YtgaodlhdilhliaaDoor
