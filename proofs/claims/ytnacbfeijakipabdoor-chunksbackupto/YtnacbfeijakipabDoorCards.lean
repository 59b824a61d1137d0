/-
  DERIVED. GIVEN WITH THE SEED: THE CARDS: each row of YtnacbfeijakipabDoorRows.lean that lists a variable, with what it lists TIED to the program's text (the seventh form; the later family's looks); each row that meets fmt, with fmt's text TOLD by the authors' own Lean function (tested against real Go, not proved from fmt's source: count such statements apart). THE CARD IS WHAT COUNTS. Prove the row's statement (the work); the ties are given (YtnacbfeijakipabDoorTie.lean); close each card by the builder's one call (the guide's Derived/Test/ToyasCard.lean, 'card_holds'). Laid BY PROGRAM, IN A SANDBOX (cutbox-door.mjs). By AI agents, Wed Nov 11 2026. No macro, syntax, notation, axiom, sorry.
-/
import Derived.Test.YtnacbfeijakipabDoorRows
import GoSem.ClaimSeven
namespace Go.Proofs.YtnacbfeijakipabDoor
namespace Rows

/-- THE TIED CARD OF 'lighteragelaw.FieldsDoes'. -/
def fieldsDoesCard : Claim7 := { stood := { row := fieldsDoesRow, standIns := [], harness := (true, "d0d750d8bce985ece3896e7c8cb9b3edcde0637c1371b1b334aad24f45909750"), looks := false }, kinds := [], alts := [], laidByText := true, laidKinds := [.data, .pinned], laidTests := true, laidLooks := .later }
def FieldsDoesCardSaid : Prop := Claim7.holds Tryd.pinned (.plain (OpenSpec.ofChange fieldsDoesSpec)) fieldsDoesCard

/-- THE TIED CARD OF 'lighteragelaw.FieldsBack'. -/
def fieldsBackCard : Claim7 := { stood := { row := fieldsBackRow, standIns := [], harness := (true, "d0d750d8bce985ece3896e7c8cb9b3edcde0637c1371b1b334aad24f45909750"), looks := false }, kinds := [], alts := [], laidByText := true, laidKinds := [.data, .pinned], laidTests := true, laidLooks := .later }
def FieldsBackCardSaid : Prop := Claim7.holds Tryd.pinned (.plain (OpenSpec.ofChange fieldsBackSpec)) fieldsBackCard

/-- THE TIED CARD OF 'lighteragelaw.ChunksDoes'. -/
def chunksDoesCard : Claim7 := { stood := { row := chunksDoesRow, standIns := [], harness := (true, "d0d750d8bce985ece3896e7c8cb9b3edcde0637c1371b1b334aad24f45909750"), looks := false }, kinds := [], alts := [], laidByText := true, laidKinds := [.data, .data, .data, .data, .pinned], laidTests := true, laidLooks := .later }
def ChunksDoesCardSaid : Prop := Claim7.holds Tryd.pinned (.plain (OpenSpec.ofChange chunksDoesSpec)) chunksDoesCard

/-- THE TIED CARD OF 'lighteragelaw.ChunksBack'. -/
def chunksBackCard : Claim7 := { stood := { row := chunksBackRow, standIns := [], harness := (true, "d0d750d8bce985ece3896e7c8cb9b3edcde0637c1371b1b334aad24f45909750"), looks := false }, kinds := [], alts := [], laidByText := true, laidKinds := [.data, .data, .data, .data, .pinned], laidTests := true, laidLooks := .later }
def ChunksBackCardSaid : Prop := Claim7.holds Tryd.pinned (.plain (OpenSpec.ofChange chunksBackSpec)) chunksBackCard

/-- THE SECOND FORM's CARD OF 'lighteragelaw.FieldsDoes'. -/
def fieldsDoesUptoCard : Claim7 := { stood := { row := fieldsDoesUptoRow, standIns := [], harness := (true, "d0d750d8bce985ece3896e7c8cb9b3edcde0637c1371b1b334aad24f45909750"), looks := false }, kinds := [], alts := [], laidByText := true, laidKinds := [.data, .pinned], laidTests := true, laidLooks := .later }
def FieldsDoesUptoCardSaid : Prop := Claim7.holds Tryd.pinned (.plain (OpenSpec.upto fieldsDoesSpec)) fieldsDoesUptoCard

/-- THE SECOND FORM's CARD OF 'lighteragelaw.FieldsBack'. -/
def fieldsBackUptoCard : Claim7 := { stood := { row := fieldsBackUptoRow, standIns := [], harness := (true, "d0d750d8bce985ece3896e7c8cb9b3edcde0637c1371b1b334aad24f45909750"), looks := false }, kinds := [], alts := [], laidByText := true, laidKinds := [.data, .pinned], laidTests := true, laidLooks := .later }
def FieldsBackUptoCardSaid : Prop := Claim7.holds Tryd.pinned (.plain (OpenSpec.upto fieldsBackSpec)) fieldsBackUptoCard

/-- THE SECOND FORM's CARD OF 'lighteragelaw.ChunksDoes'. -/
def chunksDoesUptoCard : Claim7 := { stood := { row := chunksDoesUptoRow, standIns := [], harness := (true, "d0d750d8bce985ece3896e7c8cb9b3edcde0637c1371b1b334aad24f45909750"), looks := false }, kinds := [], alts := [], laidByText := true, laidKinds := [.data, .data, .data, .data, .pinned], laidTests := true, laidLooks := .later }
def ChunksDoesUptoCardSaid : Prop := Claim7.holds Tryd.pinned (.plain (OpenSpec.upto chunksDoesSpec)) chunksDoesUptoCard

/-- THE SECOND FORM's CARD OF 'lighteragelaw.ChunksBack'. -/
def chunksBackUptoCard : Claim7 := { stood := { row := chunksBackUptoRow, standIns := [], harness := (true, "d0d750d8bce985ece3896e7c8cb9b3edcde0637c1371b1b334aad24f45909750"), looks := false }, kinds := [], alts := [], laidByText := true, laidKinds := [.data, .data, .data, .data, .pinned], laidTests := true, laidLooks := .later }
def ChunksBackUptoCardSaid : Prop := Claim7.holds Tryd.pinned (.plain (OpenSpec.upto chunksBackSpec)) chunksBackUptoCard
end Rows
end Go.Proofs.YtnacbfeijakipabDoor
