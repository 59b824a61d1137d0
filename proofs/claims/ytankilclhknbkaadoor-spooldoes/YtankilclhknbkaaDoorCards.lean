/-
  DERIVED. GIVEN WITH THE SEED: THE CARDS: each row of YtankilclhknbkaaDoorRows.lean that lists a variable, with what it lists TIED to the program's text (the seventh form; the later family's looks); each row that meets fmt, with fmt's text TOLD by the authors' own Lean function (tested against real Go, not proved from fmt's source: count such statements apart). THE CARD IS WHAT COUNTS. Prove the row's statement (the work); the ties are given (YtankilclhknbkaaDoorTie.lean); close each card by the builder's one call (the guide's Derived/Test/ToyasCard.lean, 'card_holds'). Laid BY PROGRAM, IN A SANDBOX (cutbox-door.mjs). By AI agents, Wed Nov 11 2026. No macro, syntax, notation, axiom, sorry.
-/
import Derived.Test.YtankilclhknbkaaDoorRows
import GoSem.ClaimSeven
namespace Go.Proofs.YtankilclhknbkaaDoor
namespace Rows

/-- THE TIED CARD OF 'lighteragelaw.SpoolDoes'. -/
def spoolDoesCard : Claim7 := { stood := { row := spoolDoesRow, standIns := [], harness := (true, "5856d532522f58505fc7d236575b6d0ee363abca75f87e4695500ea3e5541116"), looks := false }, kinds := [], alts := [], laidByText := true, laidKinds := [.data, .pinned], laidTests := true, laidLooks := .later }
def SpoolDoesCardSaid : Prop := Claim7.holds Tryd.pinned (.plain (OpenSpec.ofChange spoolDoesSpec)) spoolDoesCard

/-- THE SECOND FORM's CARD OF 'lighteragelaw.SpoolDoes'. -/
def spoolDoesUptoCard : Claim7 := { stood := { row := spoolDoesUptoRow, standIns := [], harness := (true, "5856d532522f58505fc7d236575b6d0ee363abca75f87e4695500ea3e5541116"), looks := false }, kinds := [], alts := [], laidByText := true, laidKinds := [.data, .pinned], laidTests := true, laidLooks := .later }
def SpoolDoesUptoCardSaid : Prop := Claim7.holds Tryd.pinned (.plain (OpenSpec.upto spoolDoesSpec)) spoolDoesUptoCard
end Rows
end Go.Proofs.YtankilclhknbkaaDoor
