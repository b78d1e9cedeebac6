/-
  DERIVED. GIVEN WITH THE SEED: THE CARDS: each row of YtpgokeogijpmaaaDoorRows.lean that lists a variable, with what it lists TIED to the program's text (the seventh form; the later family's looks); each row that meets fmt, with fmt's text TOLD by the authors' own Lean function (tested against real Go, not proved from fmt's source: count such statements apart). THE CARD IS WHAT COUNTS. Prove the row's statement (the work); the ties are given (YtpgokeogijpmaaaDoorTie.lean); close each card by the builder's one call (the guide's Derived/Test/ToyasCard.lean, 'card_holds'). Laid BY PROGRAM, IN A SANDBOX (cutbox-door.mjs). By AI agents, Wed Nov 11 2026. No macro, syntax, notation, axiom, sorry.
-/
import Derived.Test.YtpgokeogijpmaaaDoorRows
import GoSem.ClaimSeven
namespace Go.Proofs.YtpgokeogijpmaaaDoor
namespace Rows

/-- THE TIED CARD OF 'taskmilllaw.CellRuns'. -/
def cellRunsCard : Claim7 := { stood := { row := cellRunsRow, standIns := [], harness := (true, "c1aa336d127aa66206be40deedc44cbb15755657ed6a03a7a7a36cb0925aed0a"), looks := false }, kinds := [], alts := [], laidByText := true, laidKinds := [.data, .data, .data], laidTests := true, laidLooks := .later }
def CellRunsCardSaid : Prop := Claim7.holds Tryd.pinned (.plain (OpenSpec.ofChange cellRunsSpec)) cellRunsCard

/-- THE TIED CARD OF 'taskmilllaw.CellMixes'. -/
def cellMixesCard : Claim7 := { stood := { row := cellMixesRow, standIns := [], harness := (true, "c1aa336d127aa66206be40deedc44cbb15755657ed6a03a7a7a36cb0925aed0a"), looks := false }, kinds := [], alts := [], laidByText := true, laidKinds := [.data, .data, .data], laidTests := true, laidLooks := .later }
def CellMixesCardSaid : Prop := Claim7.holds Tryd.pinned (.plain (OpenSpec.ofChange cellMixesSpec)) cellMixesCard

/-- THE TIED CARD OF 'taskmilllaw.CellEnds'. -/
def cellEndsCard : Claim7 := { stood := { row := cellEndsRow, standIns := [], harness := (true, "c1aa336d127aa66206be40deedc44cbb15755657ed6a03a7a7a36cb0925aed0a"), looks := false }, kinds := [], alts := [], laidByText := true, laidKinds := [.data, .data, .data], laidTests := true, laidLooks := .later }
def CellEndsCardSaid : Prop := Claim7.holds Tryd.pinned (.plain (OpenSpec.ofChange cellEndsSpec)) cellEndsCard

/-- THE TIED CARD OF 'taskmilllaw.CellHalves'. -/
def cellHalvesCard : Claim7 := { stood := { row := cellHalvesRow, standIns := [], harness := (true, "c1aa336d127aa66206be40deedc44cbb15755657ed6a03a7a7a36cb0925aed0a"), looks := false }, kinds := [], alts := [], laidByText := true, laidKinds := [.data, .data, .data], laidTests := true, laidLooks := .later }
def CellHalvesCardSaid : Prop := Claim7.holds Tryd.pinned (.plain (OpenSpec.ofChange cellHalvesSpec)) cellHalvesCard

/-- THE TIED CARD OF 'taskmilllaw.CellPlaces'. -/
def cellPlacesCard : Claim7 := { stood := { row := cellPlacesRow, standIns := [], harness := (true, "c1aa336d127aa66206be40deedc44cbb15755657ed6a03a7a7a36cb0925aed0a"), looks := false }, kinds := [], alts := [], laidByText := true, laidKinds := [.data, .data, .data], laidTests := true, laidLooks := .later }
def CellPlacesCardSaid : Prop := Claim7.holds Tryd.pinned (.plain (OpenSpec.ofChange cellPlacesSpec)) cellPlacesCard

/-- THE TIED CARD OF 'taskmilllaw.CellWins'. -/
def cellWinsCard : Claim7 := { stood := { row := cellWinsRow, standIns := [], harness := (true, "c1aa336d127aa66206be40deedc44cbb15755657ed6a03a7a7a36cb0925aed0a"), looks := false }, kinds := [], alts := [], laidByText := true, laidKinds := [.data, .data, .data], laidTests := true, laidLooks := .later }
def CellWinsCardSaid : Prop := Claim7.holds Tryd.pinned (.plain (OpenSpec.ofChange cellWinsSpec)) cellWinsCard

/-- THE SECOND FORM's CARD OF 'taskmilllaw.CellRuns'. -/
def cellRunsUptoCard : Claim7 := { stood := { row := cellRunsUptoRow, standIns := [], harness := (true, "c1aa336d127aa66206be40deedc44cbb15755657ed6a03a7a7a36cb0925aed0a"), looks := false }, kinds := [], alts := [], laidByText := true, laidKinds := [.data, .data, .data], laidTests := true, laidLooks := .later }
def CellRunsUptoCardSaid : Prop := Claim7.holds Tryd.pinned (.plain (OpenSpec.upto cellRunsSpec)) cellRunsUptoCard

/-- THE SECOND FORM's CARD OF 'taskmilllaw.CellMixes'. -/
def cellMixesUptoCard : Claim7 := { stood := { row := cellMixesUptoRow, standIns := [], harness := (true, "c1aa336d127aa66206be40deedc44cbb15755657ed6a03a7a7a36cb0925aed0a"), looks := false }, kinds := [], alts := [], laidByText := true, laidKinds := [.data, .data, .data], laidTests := true, laidLooks := .later }
def CellMixesUptoCardSaid : Prop := Claim7.holds Tryd.pinned (.plain (OpenSpec.upto cellMixesSpec)) cellMixesUptoCard

/-- THE SECOND FORM's CARD OF 'taskmilllaw.CellEnds'. -/
def cellEndsUptoCard : Claim7 := { stood := { row := cellEndsUptoRow, standIns := [], harness := (true, "c1aa336d127aa66206be40deedc44cbb15755657ed6a03a7a7a36cb0925aed0a"), looks := false }, kinds := [], alts := [], laidByText := true, laidKinds := [.data, .data, .data], laidTests := true, laidLooks := .later }
def CellEndsUptoCardSaid : Prop := Claim7.holds Tryd.pinned (.plain (OpenSpec.upto cellEndsSpec)) cellEndsUptoCard

/-- THE SECOND FORM's CARD OF 'taskmilllaw.CellHalves'. -/
def cellHalvesUptoCard : Claim7 := { stood := { row := cellHalvesUptoRow, standIns := [], harness := (true, "c1aa336d127aa66206be40deedc44cbb15755657ed6a03a7a7a36cb0925aed0a"), looks := false }, kinds := [], alts := [], laidByText := true, laidKinds := [.data, .data, .data], laidTests := true, laidLooks := .later }
def CellHalvesUptoCardSaid : Prop := Claim7.holds Tryd.pinned (.plain (OpenSpec.upto cellHalvesSpec)) cellHalvesUptoCard

/-- THE SECOND FORM's CARD OF 'taskmilllaw.CellPlaces'. -/
def cellPlacesUptoCard : Claim7 := { stood := { row := cellPlacesUptoRow, standIns := [], harness := (true, "c1aa336d127aa66206be40deedc44cbb15755657ed6a03a7a7a36cb0925aed0a"), looks := false }, kinds := [], alts := [], laidByText := true, laidKinds := [.data, .data, .data], laidTests := true, laidLooks := .later }
def CellPlacesUptoCardSaid : Prop := Claim7.holds Tryd.pinned (.plain (OpenSpec.upto cellPlacesSpec)) cellPlacesUptoCard

/-- THE SECOND FORM's CARD OF 'taskmilllaw.CellWins'. -/
def cellWinsUptoCard : Claim7 := { stood := { row := cellWinsUptoRow, standIns := [], harness := (true, "c1aa336d127aa66206be40deedc44cbb15755657ed6a03a7a7a36cb0925aed0a"), looks := false }, kinds := [], alts := [], laidByText := true, laidKinds := [.data, .data, .data], laidTests := true, laidLooks := .later }
def CellWinsUptoCardSaid : Prop := Claim7.holds Tryd.pinned (.plain (OpenSpec.upto cellWinsSpec)) cellWinsUptoCard
end Rows
end Go.Proofs.YtpgokeogijpmaaaDoor
