/-
  DERIVED. GIVEN WITH THE SEED: THE CARDS: each row of YtenanljodjkonabDoorRows.lean that lists a variable, with what it lists TIED to the program's text (the seventh form; the later family's looks); each row that meets fmt, with fmt's text TOLD by the authors' own Lean function (tested against real Go, not proved from fmt's source: count such statements apart). THE CARD IS WHAT COUNTS. Prove the row's statement (the work); the ties are given (YtenanljodjkonabDoorTie.lean); close each card by the builder's one call (the guide's Derived/Test/ToyasCard.lean, 'card_holds'). Laid BY PROGRAM, IN A SANDBOX (cutbox-door.mjs). By AI agents, Wed Nov 11 2026. No macro, syntax, notation, axiom, sorry.
-/
import Derived.Test.YtenanljodjkonabDoorRows
import GoSem.ClaimSeven
namespace Go.Proofs.YtenanljodjkonabDoor
namespace Rows

/-- THE TIED CARD OF 'lighteragelaw.FieldsDoes'. -/
def fieldsDoesCard : Claim7 := { stood := { row := fieldsDoesRow, standIns := [], harness := (true, "b322ccd693b264418dfdd7d4dac53b5b87e7a0b01d48d223b6f401acfb80a7ad"), looks := false }, kinds := [], alts := [], laidByText := true, laidKinds := [.data, .pinned], laidTests := true, laidLooks := .later }
def FieldsDoesCardSaid : Prop := Claim7.holds Tryd.pinned (.plain (OpenSpec.ofChange fieldsDoesSpec)) fieldsDoesCard

/-- THE TIED CARD OF 'lighteragelaw.FieldsBack'. -/
def fieldsBackCard : Claim7 := { stood := { row := fieldsBackRow, standIns := [], harness := (true, "b322ccd693b264418dfdd7d4dac53b5b87e7a0b01d48d223b6f401acfb80a7ad"), looks := false }, kinds := [], alts := [], laidByText := true, laidKinds := [.data, .pinned], laidTests := true, laidLooks := .later }
def FieldsBackCardSaid : Prop := Claim7.holds Tryd.pinned (.plain (OpenSpec.ofChange fieldsBackSpec)) fieldsBackCard

/-- THE SECOND FORM's CARD OF 'lighteragelaw.FieldsDoes'. -/
def fieldsDoesUptoCard : Claim7 := { stood := { row := fieldsDoesUptoRow, standIns := [], harness := (true, "b322ccd693b264418dfdd7d4dac53b5b87e7a0b01d48d223b6f401acfb80a7ad"), looks := false }, kinds := [], alts := [], laidByText := true, laidKinds := [.data, .pinned], laidTests := true, laidLooks := .later }
def FieldsDoesUptoCardSaid : Prop := Claim7.holds Tryd.pinned (.plain (OpenSpec.upto fieldsDoesSpec)) fieldsDoesUptoCard

/-- THE SECOND FORM's CARD OF 'lighteragelaw.FieldsBack'. -/
def fieldsBackUptoCard : Claim7 := { stood := { row := fieldsBackUptoRow, standIns := [], harness := (true, "b322ccd693b264418dfdd7d4dac53b5b87e7a0b01d48d223b6f401acfb80a7ad"), looks := false }, kinds := [], alts := [], laidByText := true, laidKinds := [.data, .pinned], laidTests := true, laidLooks := .later }
def FieldsBackUptoCardSaid : Prop := Claim7.holds Tryd.pinned (.plain (OpenSpec.upto fieldsBackSpec)) fieldsBackUptoCard
end Rows
end Go.Proofs.YtenanljodjkonabDoor
