/-
  DERIVED. GIVEN WITH THE SEED: THE CARDS: each row of YtmgjcmlcincnhadDoorRows.lean that lists a variable, with what it lists TIED to the program's text (the seventh form; the later family's looks); each row that meets fmt, with fmt's text TOLD by the authors' own Lean function (tested against real Go, not proved from fmt's source: count such statements apart). THE CARD IS WHAT COUNTS. Prove the row's statement (the work); the ties are given (YtmgjcmlcincnhadDoorTie.lean); close each card by the builder's one call (the guide's Derived/Test/ToyasCard.lean, 'card_holds'). Laid BY PROGRAM, IN A SANDBOX (cutbox-door.mjs). By AI agents, Wed Nov 11 2026. No macro, syntax, notation, axiom, sorry.
-/
import Derived.Test.YtmgjcmlcincnhadDoorRows
import GoSem.ClaimSeven
namespace Go.Proofs.YtmgjcmlcincnhadDoor
namespace Rows

/-- THE TIED CARD OF 'lighteragelaw.PackDoes'. -/
def packDoesCard : Claim7 := { stood := { row := packDoesRow, standIns := [], harness := (true, "270aadcc04aabc8b6a605b73e187028bcbc25b81988719de66f4a69bde00183e"), looks := false }, kinds := [], alts := [], laidByText := true, laidKinds := [.data, .pinned], laidTests := true, laidLooks := .later }
def PackDoesCardSaid : Prop := Claim7.holds Tryd.pinned (.plain (OpenSpec.ofChange packDoesSpec)) packDoesCard

/-- THE TIED CARD OF 'lighteragelaw.SpoolDoes'. -/
def spoolDoesCard : Claim7 := { stood := { row := spoolDoesRow, standIns := [], harness := (true, "270aadcc04aabc8b6a605b73e187028bcbc25b81988719de66f4a69bde00183e"), looks := false }, kinds := [], alts := [], laidByText := true, laidKinds := [.data, .pinned], laidTests := true, laidLooks := .later }
def SpoolDoesCardSaid : Prop := Claim7.holds Tryd.pinned (.plain (OpenSpec.ofChange spoolDoesSpec)) spoolDoesCard

/-- THE TIED CARD OF 'lighteragelaw.SpoolBounds'. -/
def spoolBoundsCard : Claim7 := { stood := { row := spoolBoundsRow, standIns := [], harness := (true, "270aadcc04aabc8b6a605b73e187028bcbc25b81988719de66f4a69bde00183e"), looks := false }, kinds := [], alts := [], laidByText := true, laidKinds := [.data, .pinned], laidTests := true, laidLooks := .later }
def SpoolBoundsCardSaid : Prop := Claim7.holds Tryd.pinned (.plain (OpenSpec.ofChange spoolBoundsSpec)) spoolBoundsCard

/-- THE SECOND FORM's CARD OF 'lighteragelaw.PackDoes'. -/
def packDoesUptoCard : Claim7 := { stood := { row := packDoesUptoRow, standIns := [], harness := (true, "270aadcc04aabc8b6a605b73e187028bcbc25b81988719de66f4a69bde00183e"), looks := false }, kinds := [], alts := [], laidByText := true, laidKinds := [.data, .pinned], laidTests := true, laidLooks := .later }
def PackDoesUptoCardSaid : Prop := Claim7.holds Tryd.pinned (.plain (OpenSpec.upto packDoesSpec)) packDoesUptoCard

/-- THE SECOND FORM's CARD OF 'lighteragelaw.SpoolDoes'. -/
def spoolDoesUptoCard : Claim7 := { stood := { row := spoolDoesUptoRow, standIns := [], harness := (true, "270aadcc04aabc8b6a605b73e187028bcbc25b81988719de66f4a69bde00183e"), looks := false }, kinds := [], alts := [], laidByText := true, laidKinds := [.data, .pinned], laidTests := true, laidLooks := .later }
def SpoolDoesUptoCardSaid : Prop := Claim7.holds Tryd.pinned (.plain (OpenSpec.upto spoolDoesSpec)) spoolDoesUptoCard

/-- THE SECOND FORM's CARD OF 'lighteragelaw.SpoolBounds'. -/
def spoolBoundsUptoCard : Claim7 := { stood := { row := spoolBoundsUptoRow, standIns := [], harness := (true, "270aadcc04aabc8b6a605b73e187028bcbc25b81988719de66f4a69bde00183e"), looks := false }, kinds := [], alts := [], laidByText := true, laidKinds := [.data, .pinned], laidTests := true, laidLooks := .later }
def SpoolBoundsUptoCardSaid : Prop := Claim7.holds Tryd.pinned (.plain (OpenSpec.upto spoolBoundsSpec)) spoolBoundsUptoCard
end Rows
end Go.Proofs.YtmgjcmlcincnhadDoor
