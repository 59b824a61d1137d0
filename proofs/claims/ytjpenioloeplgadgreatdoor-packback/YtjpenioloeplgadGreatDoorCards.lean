/-
  DERIVED. GIVEN WITH THE SEED: THE CARDS: each row of YtjpenioloeplgadGreatDoorRows.lean that lists a variable, with what it lists TIED to the program's text (the seventh form; the later family's looks); each row that meets fmt, with fmt's text TOLD by the authors' own Lean function (tested against real Go, not proved from fmt's source: count such statements apart). THE CARD IS WHAT COUNTS. Prove the row's statement (the work); the ties are given (YtjpenioloeplgadGreatDoorTie.lean); close each card by the builder's one call (the guide's Derived/Test/ToyasCard.lean, 'card_holds'). Laid BY PROGRAM, IN A SANDBOX (cutbox-door.mjs). By AI agents, Wed Nov 11 2026. No macro, syntax, notation, axiom, sorry.
-/
import Derived.Test.YtjpenioloeplgadGreatDoorRows
import GoSem.ClaimSeven
namespace Go.Proofs.YtjpenioloeplgadGreatDoor
namespace Rows

/-- THE TIED CARD OF 'lighteragelaw.FormParts'. -/
def formPartsCard : Claim7 := { stood := { row := formPartsRow, standIns := [], harness := (true, "9773ac0653cd205abf5b2097df6fde721e623ce487daf3c938a3b9af04d47c73"), looks := true }, kinds := [], alts := [], laidByText := true, laidKinds := [.data, .pinned], laidTests := true, laidLooks := .later }
def FormPartsCardSaid : Prop := Claim7.holds Tryz.pinned (.plain (OpenSpec.ofChange formPartsSpec)) formPartsCard

/-- THE TIED CARD OF 'lighteragelaw.FormSafe'. -/
def formSafeCard : Claim7 := { stood := { row := formSafeRow, standIns := [], harness := (true, "9773ac0653cd205abf5b2097df6fde721e623ce487daf3c938a3b9af04d47c73"), looks := true }, kinds := [], alts := [], laidByText := true, laidKinds := [.data, .pinned], laidTests := true, laidLooks := .later }
def FormSafeCardSaid : Prop := Claim7.holds Tryz.pinned (.plain (OpenSpec.ofChange formSafeSpec)) formSafeCard

/-- THE TIED CARD OF 'lighteragelaw.PackBack'. -/
def packBackCard : Claim7 := { stood := { row := packBackRow, standIns := [], harness := (true, "9773ac0653cd205abf5b2097df6fde721e623ce487daf3c938a3b9af04d47c73"), looks := true }, kinds := [], alts := [], laidByText := true, laidKinds := [.data, .pinned], laidTests := true, laidLooks := .later }
def PackBackCardSaid : Prop := Claim7.holds Tryz.pinned (.plain (OpenSpec.ofChange packBackSpec)) packBackCard

/-- THE SECOND FORM's CARD OF 'lighteragelaw.FormParts'. -/
def formPartsUptoCard : Claim7 := { stood := { row := formPartsUptoRow, standIns := [], harness := (true, "9773ac0653cd205abf5b2097df6fde721e623ce487daf3c938a3b9af04d47c73"), looks := true }, kinds := [], alts := [], laidByText := true, laidKinds := [.data, .pinned], laidTests := true, laidLooks := .later }
def FormPartsUptoCardSaid : Prop := Claim7.holds Tryz.pinned (.plain (OpenSpec.upto formPartsSpec)) formPartsUptoCard

/-- THE SECOND FORM's CARD OF 'lighteragelaw.FormSafe'. -/
def formSafeUptoCard : Claim7 := { stood := { row := formSafeUptoRow, standIns := [], harness := (true, "9773ac0653cd205abf5b2097df6fde721e623ce487daf3c938a3b9af04d47c73"), looks := true }, kinds := [], alts := [], laidByText := true, laidKinds := [.data, .pinned], laidTests := true, laidLooks := .later }
def FormSafeUptoCardSaid : Prop := Claim7.holds Tryz.pinned (.plain (OpenSpec.upto formSafeSpec)) formSafeUptoCard

/-- THE SECOND FORM's CARD OF 'lighteragelaw.PackBack'. -/
def packBackUptoCard : Claim7 := { stood := { row := packBackUptoRow, standIns := [], harness := (true, "9773ac0653cd205abf5b2097df6fde721e623ce487daf3c938a3b9af04d47c73"), looks := true }, kinds := [], alts := [], laidByText := true, laidKinds := [.data, .pinned], laidTests := true, laidLooks := .later }
def PackBackUptoCardSaid : Prop := Claim7.holds Tryz.pinned (.plain (OpenSpec.upto packBackSpec)) packBackUptoCard
end Rows
end Go.Proofs.YtjpenioloeplgadGreatDoor
