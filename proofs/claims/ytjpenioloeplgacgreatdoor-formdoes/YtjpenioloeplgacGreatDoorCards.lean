/-
  DERIVED. GIVEN WITH THE SEED: THE CARDS: each row of YtjpenioloeplgacGreatDoorRows.lean that lists a variable, with what it lists TIED to the program's text (the seventh form; the later family's looks); each row that meets fmt, with fmt's text TOLD by the authors' own Lean function (tested against real Go, not proved from fmt's source: count such statements apart). THE CARD IS WHAT COUNTS. Prove the row's statement (the work); the ties are given (YtjpenioloeplgacGreatDoorTie.lean); close each card by the builder's one call (the guide's Derived/Test/ToyasCard.lean, 'card_holds'). Laid BY PROGRAM, IN A SANDBOX (cutbox-door.mjs). By AI agents, Wed Nov 11 2026. No macro, syntax, notation, axiom, sorry.
-/
import Derived.Test.YtjpenioloeplgacGreatDoorRows
import GoSem.ClaimSeven
namespace Go.Proofs.YtjpenioloeplgacGreatDoor
namespace Rows

/-- THE TIED CARD OF 'lighteragelaw.RequestDoes'. -/
def requestDoesCard : Claim7 := { stood := { row := requestDoesRow, standIns := [], harness := (true, "92e2c00f453a27ee0d4d41f03ddca83dce525694865e140730d904b4987e012d"), looks := true }, kinds := [], alts := [], laidByText := true, laidKinds := [.data, .data, .data, .data, .pinned], laidTests := true, laidLooks := .later }
def RequestDoesCardSaid : Prop := Claim7.holds Tryz.pinned (.plain (OpenSpec.ofChange requestDoesSpec)) requestDoesCard

/-- THE TIED CARD OF 'lighteragelaw.RequestPieces'. -/
def requestPiecesCard : Claim7 := { stood := { row := requestPiecesRow, standIns := [], harness := (true, "92e2c00f453a27ee0d4d41f03ddca83dce525694865e140730d904b4987e012d"), looks := true }, kinds := [], alts := [], laidByText := true, laidKinds := [.data, .data, .data, .data, .pinned], laidTests := true, laidLooks := .later }
def RequestPiecesCardSaid : Prop := Claim7.holds Tryz.pinned (.plain (OpenSpec.ofChange requestPiecesSpec)) requestPiecesCard

/-- THE TIED CARD OF 'lighteragelaw.RequestBack'. -/
def requestBackCard : Claim7 := { stood := { row := requestBackRow, standIns := [], harness := (true, "92e2c00f453a27ee0d4d41f03ddca83dce525694865e140730d904b4987e012d"), looks := true }, kinds := [], alts := [], laidByText := true, laidKinds := [.data, .data, .data, .data, .pinned], laidTests := true, laidLooks := .later }
def RequestBackCardSaid : Prop := Claim7.holds Tryz.pinned (.plain (OpenSpec.ofChange requestBackSpec)) requestBackCard

/-- THE TIED CARD OF 'lighteragelaw.RequestLength'. -/
def requestLengthCard : Claim7 := { stood := { row := requestLengthRow, standIns := [], harness := (true, "92e2c00f453a27ee0d4d41f03ddca83dce525694865e140730d904b4987e012d"), looks := true }, kinds := [], alts := [], laidByText := true, laidKinds := [.data, .data, .data, .data, .pinned], laidTests := true, laidLooks := .later }
def RequestLengthCardSaid : Prop := Claim7.holds Tryz.pinned (.plain (OpenSpec.ofChange requestLengthSpec)) requestLengthCard

/-- THE TIED CARD OF 'lighteragelaw.FormDoes'. -/
def formDoesCard : Claim7 := { stood := { row := formDoesRow, standIns := [], harness := (true, "92e2c00f453a27ee0d4d41f03ddca83dce525694865e140730d904b4987e012d"), looks := true }, kinds := [], alts := [], laidByText := true, laidKinds := [.data, .pinned], laidTests := true, laidLooks := .later }
def FormDoesCardSaid : Prop := Claim7.holds Tryz.pinned (.plain (OpenSpec.ofChange formDoesSpec)) formDoesCard

/-- THE TIED CARD OF 'lighteragelaw.FormPieces'. -/
def formPiecesCard : Claim7 := { stood := { row := formPiecesRow, standIns := [], harness := (true, "92e2c00f453a27ee0d4d41f03ddca83dce525694865e140730d904b4987e012d"), looks := true }, kinds := [], alts := [], laidByText := true, laidKinds := [.data, .pinned], laidTests := true, laidLooks := .later }
def FormPiecesCardSaid : Prop := Claim7.holds Tryz.pinned (.plain (OpenSpec.ofChange formPiecesSpec)) formPiecesCard

/-- THE SECOND FORM's CARD OF 'lighteragelaw.RequestDoes'. -/
def requestDoesUptoCard : Claim7 := { stood := { row := requestDoesUptoRow, standIns := [], harness := (true, "92e2c00f453a27ee0d4d41f03ddca83dce525694865e140730d904b4987e012d"), looks := true }, kinds := [], alts := [], laidByText := true, laidKinds := [.data, .data, .data, .data, .pinned], laidTests := true, laidLooks := .later }
def RequestDoesUptoCardSaid : Prop := Claim7.holds Tryz.pinned (.plain (OpenSpec.upto requestDoesSpec)) requestDoesUptoCard

/-- THE SECOND FORM's CARD OF 'lighteragelaw.RequestPieces'. -/
def requestPiecesUptoCard : Claim7 := { stood := { row := requestPiecesUptoRow, standIns := [], harness := (true, "92e2c00f453a27ee0d4d41f03ddca83dce525694865e140730d904b4987e012d"), looks := true }, kinds := [], alts := [], laidByText := true, laidKinds := [.data, .data, .data, .data, .pinned], laidTests := true, laidLooks := .later }
def RequestPiecesUptoCardSaid : Prop := Claim7.holds Tryz.pinned (.plain (OpenSpec.upto requestPiecesSpec)) requestPiecesUptoCard

/-- THE SECOND FORM's CARD OF 'lighteragelaw.RequestBack'. -/
def requestBackUptoCard : Claim7 := { stood := { row := requestBackUptoRow, standIns := [], harness := (true, "92e2c00f453a27ee0d4d41f03ddca83dce525694865e140730d904b4987e012d"), looks := true }, kinds := [], alts := [], laidByText := true, laidKinds := [.data, .data, .data, .data, .pinned], laidTests := true, laidLooks := .later }
def RequestBackUptoCardSaid : Prop := Claim7.holds Tryz.pinned (.plain (OpenSpec.upto requestBackSpec)) requestBackUptoCard

/-- THE SECOND FORM's CARD OF 'lighteragelaw.RequestLength'. -/
def requestLengthUptoCard : Claim7 := { stood := { row := requestLengthUptoRow, standIns := [], harness := (true, "92e2c00f453a27ee0d4d41f03ddca83dce525694865e140730d904b4987e012d"), looks := true }, kinds := [], alts := [], laidByText := true, laidKinds := [.data, .data, .data, .data, .pinned], laidTests := true, laidLooks := .later }
def RequestLengthUptoCardSaid : Prop := Claim7.holds Tryz.pinned (.plain (OpenSpec.upto requestLengthSpec)) requestLengthUptoCard

/-- THE SECOND FORM's CARD OF 'lighteragelaw.FormDoes'. -/
def formDoesUptoCard : Claim7 := { stood := { row := formDoesUptoRow, standIns := [], harness := (true, "92e2c00f453a27ee0d4d41f03ddca83dce525694865e140730d904b4987e012d"), looks := true }, kinds := [], alts := [], laidByText := true, laidKinds := [.data, .pinned], laidTests := true, laidLooks := .later }
def FormDoesUptoCardSaid : Prop := Claim7.holds Tryz.pinned (.plain (OpenSpec.upto formDoesSpec)) formDoesUptoCard

/-- THE SECOND FORM's CARD OF 'lighteragelaw.FormPieces'. -/
def formPiecesUptoCard : Claim7 := { stood := { row := formPiecesUptoRow, standIns := [], harness := (true, "92e2c00f453a27ee0d4d41f03ddca83dce525694865e140730d904b4987e012d"), looks := true }, kinds := [], alts := [], laidByText := true, laidKinds := [.data, .pinned], laidTests := true, laidLooks := .later }
def FormPiecesUptoCardSaid : Prop := Claim7.holds Tryz.pinned (.plain (OpenSpec.upto formPiecesSpec)) formPiecesUptoCard
end Rows
end Go.Proofs.YtjpenioloeplgacGreatDoor
