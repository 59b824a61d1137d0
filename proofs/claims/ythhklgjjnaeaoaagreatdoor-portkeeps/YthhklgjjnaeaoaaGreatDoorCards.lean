/-
  DERIVED. GIVEN WITH THE SEED: THE CARDS: each row of YthhklgjjnaeaoaaGreatDoorRows.lean that lists a variable, with what it lists TIED to the program's text (the seventh form; the later family's looks); each row that meets fmt, with fmt's text TOLD by the authors' own Lean function (tested against real Go, not proved from fmt's source: count such statements apart). THE CARD IS WHAT COUNTS. Prove the row's statement (the work); the ties are given (YthhklgjjnaeaoaaGreatDoorTie.lean); close each card by the builder's one call (the guide's Derived/Test/ToyasCard.lean, 'card_holds'). Laid BY PROGRAM, IN A SANDBOX (cutbox-door.mjs). By AI agents, Wed Nov 11 2026. No macro, syntax, notation, axiom, sorry.
-/
import Derived.Test.YthhklgjjnaeaoaaGreatDoorRows
import GoSem.ClaimSeven
namespace Go.Proofs.YthhklgjjnaeaoaaGreatDoor
namespace Rows

/-- THE TIED CARD OF 'lighteragelaw.GateDoes'. -/
def gateDoesCard : Claim7 := { stood := { row := gateDoesRow, standIns := [], harness := (true, "7194c83f47f971c99797ca87a8451fd24aef535f1735c3e2a41e59c13b6939fb"), looks := true }, kinds := [], alts := [], laidByText := true, laidKinds := [.data, .data, .data, .data, .pinned], laidTests := true, laidLooks := .later }
def GateDoesCardSaid : Prop := Claim7.holds Tryz.pinned (.plain (OpenSpec.ofChange gateDoesSpec)) gateDoesCard

/-- THE TIED CARD OF 'lighteragelaw.PortDoes'. -/
def portDoesCard : Claim7 := { stood := { row := portDoesRow, standIns := [], harness := (true, "7194c83f47f971c99797ca87a8451fd24aef535f1735c3e2a41e59c13b6939fb"), looks := true }, kinds := [], alts := [], laidByText := true, laidKinds := [.data, .data, .data, .data, .pinned], laidTests := true, laidLooks := .later }
def PortDoesCardSaid : Prop := Claim7.holds Tryz.pinned (.plain (OpenSpec.ofChange portDoesSpec)) portDoesCard

/-- THE TIED CARD OF 'lighteragelaw.PortOnce'. -/
def portOnceCard : Claim7 := { stood := { row := portOnceRow, standIns := [], harness := (true, "7194c83f47f971c99797ca87a8451fd24aef535f1735c3e2a41e59c13b6939fb"), looks := true }, kinds := [], alts := [], laidByText := true, laidKinds := [.data, .data, .data, .data, .pinned], laidTests := true, laidLooks := .later }
def PortOnceCardSaid : Prop := Claim7.holds Tryz.pinned (.plain (OpenSpec.ofChange portOnceSpec)) portOnceCard

/-- THE TIED CARD OF 'lighteragelaw.PortKeeps'. -/
def portKeepsCard : Claim7 := { stood := { row := portKeepsRow, standIns := [], harness := (true, "7194c83f47f971c99797ca87a8451fd24aef535f1735c3e2a41e59c13b6939fb"), looks := true }, kinds := [], alts := [], laidByText := true, laidKinds := [.data, .data, .data, .data, .pinned], laidTests := true, laidLooks := .later }
def PortKeepsCardSaid : Prop := Claim7.holds Tryz.pinned (.plain (OpenSpec.ofChange portKeepsSpec)) portKeepsCard

/-- THE TIED CARD OF 'lighteragelaw.PortAgain'. -/
def portAgainCard : Claim7 := { stood := { row := portAgainRow, standIns := [], harness := (true, "7194c83f47f971c99797ca87a8451fd24aef535f1735c3e2a41e59c13b6939fb"), looks := true }, kinds := [], alts := [], laidByText := true, laidKinds := [.data, .data, .data, .data, .pinned], laidTests := true, laidLooks := .later }
def PortAgainCardSaid : Prop := Claim7.holds Tryz.pinned (.plain (OpenSpec.ofChange portAgainSpec)) portAgainCard

/-- THE SECOND FORM's CARD OF 'lighteragelaw.GateDoes'. -/
def gateDoesUptoCard : Claim7 := { stood := { row := gateDoesUptoRow, standIns := [], harness := (true, "7194c83f47f971c99797ca87a8451fd24aef535f1735c3e2a41e59c13b6939fb"), looks := true }, kinds := [], alts := [], laidByText := true, laidKinds := [.data, .data, .data, .data, .pinned], laidTests := true, laidLooks := .later }
def GateDoesUptoCardSaid : Prop := Claim7.holds Tryz.pinned (.plain (OpenSpec.upto gateDoesSpec)) gateDoesUptoCard

/-- THE SECOND FORM's CARD OF 'lighteragelaw.PortDoes'. -/
def portDoesUptoCard : Claim7 := { stood := { row := portDoesUptoRow, standIns := [], harness := (true, "7194c83f47f971c99797ca87a8451fd24aef535f1735c3e2a41e59c13b6939fb"), looks := true }, kinds := [], alts := [], laidByText := true, laidKinds := [.data, .data, .data, .data, .pinned], laidTests := true, laidLooks := .later }
def PortDoesUptoCardSaid : Prop := Claim7.holds Tryz.pinned (.plain (OpenSpec.upto portDoesSpec)) portDoesUptoCard

/-- THE SECOND FORM's CARD OF 'lighteragelaw.PortOnce'. -/
def portOnceUptoCard : Claim7 := { stood := { row := portOnceUptoRow, standIns := [], harness := (true, "7194c83f47f971c99797ca87a8451fd24aef535f1735c3e2a41e59c13b6939fb"), looks := true }, kinds := [], alts := [], laidByText := true, laidKinds := [.data, .data, .data, .data, .pinned], laidTests := true, laidLooks := .later }
def PortOnceUptoCardSaid : Prop := Claim7.holds Tryz.pinned (.plain (OpenSpec.upto portOnceSpec)) portOnceUptoCard

/-- THE SECOND FORM's CARD OF 'lighteragelaw.PortKeeps'. -/
def portKeepsUptoCard : Claim7 := { stood := { row := portKeepsUptoRow, standIns := [], harness := (true, "7194c83f47f971c99797ca87a8451fd24aef535f1735c3e2a41e59c13b6939fb"), looks := true }, kinds := [], alts := [], laidByText := true, laidKinds := [.data, .data, .data, .data, .pinned], laidTests := true, laidLooks := .later }
def PortKeepsUptoCardSaid : Prop := Claim7.holds Tryz.pinned (.plain (OpenSpec.upto portKeepsSpec)) portKeepsUptoCard

/-- THE SECOND FORM's CARD OF 'lighteragelaw.PortAgain'. -/
def portAgainUptoCard : Claim7 := { stood := { row := portAgainUptoRow, standIns := [], harness := (true, "7194c83f47f971c99797ca87a8451fd24aef535f1735c3e2a41e59c13b6939fb"), looks := true }, kinds := [], alts := [], laidByText := true, laidKinds := [.data, .data, .data, .data, .pinned], laidTests := true, laidLooks := .later }
def PortAgainUptoCardSaid : Prop := Claim7.holds Tryz.pinned (.plain (OpenSpec.upto portAgainSpec)) portAgainUptoCard
end Rows
end Go.Proofs.YthhklgjjnaeaoaaGreatDoor
