/-
  DERIVED. GIVEN WITH THE SEED: THE CARDS: each row of YtpgokeogijpmaabDoorRows.lean that lists a variable, with what it lists TIED to the program's text (the seventh form; the later family's looks); each row that meets fmt, with fmt's text TOLD by the authors' own Lean function (tested against real Go, not proved from fmt's source: count such statements apart). THE CARD IS WHAT COUNTS. Prove the row's statement (the work); the ties are given (YtpgokeogijpmaabDoorTie.lean); close each card by the builder's one call (the guide's Derived/Test/ToyasCard.lean, 'card_holds'). Laid BY PROGRAM, IN A SANDBOX (cutbox-door.mjs). By AI agents, Wed Nov 11 2026. No macro, syntax, notation, axiom, sorry.
-/
import Derived.Test.YtpgokeogijpmaabDoorRows
import GoSem.ClaimSeven
namespace Go.Proofs.YtpgokeogijpmaabDoor
namespace Rows

/-- THE TIED CARD OF 'taskmilllaw.CellAdds'. -/
def cellAddsCard : Claim7 := { stood := { row := cellAddsRow, standIns := [], harness := (true, "86b44f21625bcd00b0fd540d1375808f38a50b92fb84137307d9e1d75e15f223"), looks := false }, kinds := [], alts := [], laidByText := true, laidKinds := [.data, .data, .data], laidTests := true, laidLooks := .later }
def CellAddsCardSaid : Prop := Claim7.holds Tryd.pinned (.plain (OpenSpec.ofChange cellAddsSpec)) cellAddsCard

/-- THE SECOND FORM's CARD OF 'taskmilllaw.CellAdds'. -/
def cellAddsUptoCard : Claim7 := { stood := { row := cellAddsUptoRow, standIns := [], harness := (true, "86b44f21625bcd00b0fd540d1375808f38a50b92fb84137307d9e1d75e15f223"), looks := false }, kinds := [], alts := [], laidByText := true, laidKinds := [.data, .data, .data], laidTests := true, laidLooks := .later }
def CellAddsUptoCardSaid : Prop := Claim7.holds Tryd.pinned (.plain (OpenSpec.upto cellAddsSpec)) cellAddsUptoCard
end Rows
end Go.Proofs.YtpgokeogijpmaabDoor
