/-
  DERIVED. GIVEN WITH THE SEED: THE CARDS: each row of YtodmelffkfbalaaGreatDoorRows.lean that lists a variable, with what it lists TIED to the program's text (the seventh form; the later family's looks); each row that meets fmt, with fmt's text TOLD by the authors' own Lean function (tested against real Go, not proved from fmt's source: count such statements apart). THE CARD IS WHAT COUNTS. Prove the row's statement (the work); the ties are given (YtodmelffkfbalaaGreatDoorTie.lean); close each card by the builder's one call (the guide's Derived/Test/ToyasCard.lean, 'card_holds'). Laid BY PROGRAM, IN A SANDBOX (cutbox-door.mjs). By AI agents, Wed Nov 11 2026. No macro, syntax, notation, axiom, sorry.
-/
import Derived.Test.YtodmelffkfbalaaGreatDoorRows
import GoSem.ClaimSeven
namespace Go.Proofs.YtodmelffkfbalaaGreatDoor
namespace Rows

/-- THE TIED CARD OF 'lighteragelaw.GateDoes'. -/
def gateDoesCard : Claim7 := { stood := { row := gateDoesRow, standIns := [], harness := (true, "a77c8b697fe8aaa5d86021e7181d3d8644152e391bbb9e05829fcee85adea44f"), looks := true }, kinds := [], alts := [], laidByText := true, laidKinds := [.data, .data, .data, .data, .pinned], laidTests := true, laidLooks := .later }
def GateDoesCardSaid : Prop := Claim7.holds Tryz.pinned (.plain (OpenSpec.ofChange gateDoesSpec)) gateDoesCard

/-- THE TIED CARD OF 'lighteragelaw.PortDoes'. -/
def portDoesCard : Claim7 := { stood := { row := portDoesRow, standIns := [], harness := (true, "a77c8b697fe8aaa5d86021e7181d3d8644152e391bbb9e05829fcee85adea44f"), looks := true }, kinds := [], alts := [], laidByText := true, laidKinds := [.data, .data, .data, .data, .pinned], laidTests := true, laidLooks := .later }
def PortDoesCardSaid : Prop := Claim7.holds Tryz.pinned (.plain (OpenSpec.ofChange portDoesSpec)) portDoesCard

/-- THE TIED CARD OF 'lighteragelaw.PortOnce'. -/
def portOnceCard : Claim7 := { stood := { row := portOnceRow, standIns := [], harness := (true, "a77c8b697fe8aaa5d86021e7181d3d8644152e391bbb9e05829fcee85adea44f"), looks := true }, kinds := [], alts := [], laidByText := true, laidKinds := [.data, .data, .data, .data, .pinned], laidTests := true, laidLooks := .later }
def PortOnceCardSaid : Prop := Claim7.holds Tryz.pinned (.plain (OpenSpec.ofChange portOnceSpec)) portOnceCard

/-- THE TIED CARD OF 'lighteragelaw.DeskDoes'. -/
def deskDoesCard : Claim7 := { stood := { row := deskDoesRow, standIns := [], harness := (true, "a77c8b697fe8aaa5d86021e7181d3d8644152e391bbb9e05829fcee85adea44f"), looks := true }, kinds := [], alts := [], laidByText := true, laidKinds := [.data, .data, .data, .data, .pinned], laidTests := true, laidLooks := .later }
def DeskDoesCardSaid : Prop := Claim7.holds Tryz.pinned (.plain (OpenSpec.ofChange deskDoesSpec)) deskDoesCard

/-- THE TIED CARD OF 'lighteragelaw.DeskJoins'. -/
def deskJoinsCard : Claim7 := { stood := { row := deskJoinsRow, standIns := [], harness := (true, "a77c8b697fe8aaa5d86021e7181d3d8644152e391bbb9e05829fcee85adea44f"), looks := true }, kinds := [], alts := [], laidByText := true, laidKinds := [.data, .data, .data, .data, .pinned], laidTests := true, laidLooks := .later }
def DeskJoinsCardSaid : Prop := Claim7.holds Tryz.pinned (.plain (OpenSpec.ofChange deskJoinsSpec)) deskJoinsCard

/-- THE TIED CARD OF 'lighteragelaw.DeskShows'. -/
def deskShowsCard : Claim7 := { stood := { row := deskShowsRow, standIns := [], harness := (true, "a77c8b697fe8aaa5d86021e7181d3d8644152e391bbb9e05829fcee85adea44f"), looks := true }, kinds := [], alts := [], laidByText := true, laidKinds := [.data, .data, .data, .data, .pinned], laidTests := true, laidLooks := .later }
def DeskShowsCardSaid : Prop := Claim7.holds Tryz.pinned (.plain (OpenSpec.ofChange deskShowsSpec)) deskShowsCard

/-- THE SECOND FORM's CARD OF 'lighteragelaw.GateDoes'. -/
def gateDoesUptoCard : Claim7 := { stood := { row := gateDoesUptoRow, standIns := [], harness := (true, "a77c8b697fe8aaa5d86021e7181d3d8644152e391bbb9e05829fcee85adea44f"), looks := true }, kinds := [], alts := [], laidByText := true, laidKinds := [.data, .data, .data, .data, .pinned], laidTests := true, laidLooks := .later }
def GateDoesUptoCardSaid : Prop := Claim7.holds Tryz.pinned (.plain (OpenSpec.upto gateDoesSpec)) gateDoesUptoCard

/-- THE SECOND FORM's CARD OF 'lighteragelaw.PortDoes'. -/
def portDoesUptoCard : Claim7 := { stood := { row := portDoesUptoRow, standIns := [], harness := (true, "a77c8b697fe8aaa5d86021e7181d3d8644152e391bbb9e05829fcee85adea44f"), looks := true }, kinds := [], alts := [], laidByText := true, laidKinds := [.data, .data, .data, .data, .pinned], laidTests := true, laidLooks := .later }
def PortDoesUptoCardSaid : Prop := Claim7.holds Tryz.pinned (.plain (OpenSpec.upto portDoesSpec)) portDoesUptoCard

/-- THE SECOND FORM's CARD OF 'lighteragelaw.PortOnce'. -/
def portOnceUptoCard : Claim7 := { stood := { row := portOnceUptoRow, standIns := [], harness := (true, "a77c8b697fe8aaa5d86021e7181d3d8644152e391bbb9e05829fcee85adea44f"), looks := true }, kinds := [], alts := [], laidByText := true, laidKinds := [.data, .data, .data, .data, .pinned], laidTests := true, laidLooks := .later }
def PortOnceUptoCardSaid : Prop := Claim7.holds Tryz.pinned (.plain (OpenSpec.upto portOnceSpec)) portOnceUptoCard

/-- THE SECOND FORM's CARD OF 'lighteragelaw.DeskDoes'. -/
def deskDoesUptoCard : Claim7 := { stood := { row := deskDoesUptoRow, standIns := [], harness := (true, "a77c8b697fe8aaa5d86021e7181d3d8644152e391bbb9e05829fcee85adea44f"), looks := true }, kinds := [], alts := [], laidByText := true, laidKinds := [.data, .data, .data, .data, .pinned], laidTests := true, laidLooks := .later }
def DeskDoesUptoCardSaid : Prop := Claim7.holds Tryz.pinned (.plain (OpenSpec.upto deskDoesSpec)) deskDoesUptoCard

/-- THE SECOND FORM's CARD OF 'lighteragelaw.DeskJoins'. -/
def deskJoinsUptoCard : Claim7 := { stood := { row := deskJoinsUptoRow, standIns := [], harness := (true, "a77c8b697fe8aaa5d86021e7181d3d8644152e391bbb9e05829fcee85adea44f"), looks := true }, kinds := [], alts := [], laidByText := true, laidKinds := [.data, .data, .data, .data, .pinned], laidTests := true, laidLooks := .later }
def DeskJoinsUptoCardSaid : Prop := Claim7.holds Tryz.pinned (.plain (OpenSpec.upto deskJoinsSpec)) deskJoinsUptoCard

/-- THE SECOND FORM's CARD OF 'lighteragelaw.DeskShows'. -/
def deskShowsUptoCard : Claim7 := { stood := { row := deskShowsUptoRow, standIns := [], harness := (true, "a77c8b697fe8aaa5d86021e7181d3d8644152e391bbb9e05829fcee85adea44f"), looks := true }, kinds := [], alts := [], laidByText := true, laidKinds := [.data, .data, .data, .data, .pinned], laidTests := true, laidLooks := .later }
def DeskShowsUptoCardSaid : Prop := Claim7.holds Tryz.pinned (.plain (OpenSpec.upto deskShowsSpec)) deskShowsUptoCard
end Rows
end Go.Proofs.YtodmelffkfbalaaGreatDoor
