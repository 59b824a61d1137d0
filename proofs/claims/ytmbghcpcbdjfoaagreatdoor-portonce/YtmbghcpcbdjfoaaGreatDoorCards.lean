/-
  DERIVED. GIVEN WITH THE SEED: THE CARDS: each row of YtmbghcpcbdjfoaaGreatDoorRows.lean that lists a variable, with what it lists TIED to the program's text (the seventh form; the later family's looks); each row that meets fmt, with fmt's text TOLD by the authors' own Lean function (tested against real Go, not proved from fmt's source: count such statements apart). THE CARD IS WHAT COUNTS. Prove the row's statement (the work); the ties are given (YtmbghcpcbdjfoaaGreatDoorTie.lean); close each card by the builder's one call (the guide's Derived/Test/ToyasCard.lean, 'card_holds'). Laid BY PROGRAM, IN A SANDBOX (cutbox-door.mjs). By AI agents, Wed Nov 11 2026. No macro, syntax, notation, axiom, sorry.
-/
import Derived.Test.YtmbghcpcbdjfoaaGreatDoorRows
import GoSem.ClaimSeven
namespace Go.Proofs.YtmbghcpcbdjfoaaGreatDoor
namespace Rows

/-- THE TIED CARD OF 'lighteragelaw.GateDoes'. -/
def gateDoesCard : Claim7 := { stood := { row := gateDoesRow, standIns := [], harness := (true, "d1c8260ba2386a391d8494b10d29d86dc3c30dc1a7315074c970f7a0b8d69fff"), looks := true }, kinds := [], alts := [], laidByText := true, laidKinds := [.data, .data, .data, .data, .pinned], laidTests := true, laidLooks := .later }
def GateDoesCardSaid : Prop := Claim7.holds Tryz.pinned (.plain (OpenSpec.ofChange gateDoesSpec)) gateDoesCard

/-- THE TIED CARD OF 'lighteragelaw.PortDoes'. -/
def portDoesCard : Claim7 := { stood := { row := portDoesRow, standIns := [], harness := (true, "d1c8260ba2386a391d8494b10d29d86dc3c30dc1a7315074c970f7a0b8d69fff"), looks := true }, kinds := [], alts := [], laidByText := true, laidKinds := [.data, .data, .data, .data, .pinned], laidTests := true, laidLooks := .later }
def PortDoesCardSaid : Prop := Claim7.holds Tryz.pinned (.plain (OpenSpec.ofChange portDoesSpec)) portDoesCard

/-- THE TIED CARD OF 'lighteragelaw.PortOnce'. -/
def portOnceCard : Claim7 := { stood := { row := portOnceRow, standIns := [], harness := (true, "d1c8260ba2386a391d8494b10d29d86dc3c30dc1a7315074c970f7a0b8d69fff"), looks := true }, kinds := [], alts := [], laidByText := true, laidKinds := [.data, .data, .data, .data, .pinned], laidTests := true, laidLooks := .later }
def PortOnceCardSaid : Prop := Claim7.holds Tryz.pinned (.plain (OpenSpec.ofChange portOnceSpec)) portOnceCard

/-- THE SECOND FORM's CARD OF 'lighteragelaw.GateDoes'. -/
def gateDoesUptoCard : Claim7 := { stood := { row := gateDoesUptoRow, standIns := [], harness := (true, "d1c8260ba2386a391d8494b10d29d86dc3c30dc1a7315074c970f7a0b8d69fff"), looks := true }, kinds := [], alts := [], laidByText := true, laidKinds := [.data, .data, .data, .data, .pinned], laidTests := true, laidLooks := .later }
def GateDoesUptoCardSaid : Prop := Claim7.holds Tryz.pinned (.plain (OpenSpec.upto gateDoesSpec)) gateDoesUptoCard

/-- THE SECOND FORM's CARD OF 'lighteragelaw.PortDoes'. -/
def portDoesUptoCard : Claim7 := { stood := { row := portDoesUptoRow, standIns := [], harness := (true, "d1c8260ba2386a391d8494b10d29d86dc3c30dc1a7315074c970f7a0b8d69fff"), looks := true }, kinds := [], alts := [], laidByText := true, laidKinds := [.data, .data, .data, .data, .pinned], laidTests := true, laidLooks := .later }
def PortDoesUptoCardSaid : Prop := Claim7.holds Tryz.pinned (.plain (OpenSpec.upto portDoesSpec)) portDoesUptoCard

/-- THE SECOND FORM's CARD OF 'lighteragelaw.PortOnce'. -/
def portOnceUptoCard : Claim7 := { stood := { row := portOnceUptoRow, standIns := [], harness := (true, "d1c8260ba2386a391d8494b10d29d86dc3c30dc1a7315074c970f7a0b8d69fff"), looks := true }, kinds := [], alts := [], laidByText := true, laidKinds := [.data, .data, .data, .data, .pinned], laidTests := true, laidLooks := .later }
def PortOnceUptoCardSaid : Prop := Claim7.holds Tryz.pinned (.plain (OpenSpec.upto portOnceSpec)) portOnceUptoCard
end Rows
end Go.Proofs.YtmbghcpcbdjfoaaGreatDoor
