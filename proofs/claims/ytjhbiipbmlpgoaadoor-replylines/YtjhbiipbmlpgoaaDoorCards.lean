/-
  DERIVED. GIVEN WITH THE SEED: THE CARDS: each row of YtjhbiipbmlpgoaaDoorRows.lean that lists a variable, with what it lists TIED to the program's text (the seventh form; the later family's looks); each row that meets fmt, with fmt's text TOLD by the authors' own Lean function (tested against real Go, not proved from fmt's source: count such statements apart). THE CARD IS WHAT COUNTS. Prove the row's statement (the work); the ties are given (YtjhbiipbmlpgoaaDoorTie.lean); close each card by the builder's one call (the guide's Derived/Test/ToyasCard.lean, 'card_holds'). Laid BY PROGRAM, IN A SANDBOX (cutbox-door.mjs). By AI agents, Wed Nov 11 2026. No macro, syntax, notation, axiom, sorry.
-/
import Derived.Test.YtjhbiipbmlpgoaaDoorRows
import GoSem.ClaimSeven
namespace Go.Proofs.YtjhbiipbmlpgoaaDoor
namespace Rows

/-- THE TIED CARD OF 'lighteragelaw.ReplyDoes'. -/
def replyDoesCard : Claim7 := { stood := { row := replyDoesRow, standIns := [], harness := (true, "8148652117b2dedb536d9fb657a844e0a409cf29147459b745de2d3961400d91"), looks := false }, kinds := [], alts := [], laidByText := true, laidKinds := [.data, .data, .data, .data, .pinned], laidTests := true, laidLooks := .later }
def ReplyDoesCardSaid : Prop := Claim7.holds Tryd.pinned (.plain (OpenSpec.ofChange replyDoesSpec)) replyDoesCard

/-- THE TIED CARD OF 'lighteragelaw.ReplyLines'. -/
def replyLinesCard : Claim7 := { stood := { row := replyLinesRow, standIns := [], harness := (true, "8148652117b2dedb536d9fb657a844e0a409cf29147459b745de2d3961400d91"), looks := false }, kinds := [], alts := [], laidByText := true, laidKinds := [.data, .data, .data, .data, .pinned], laidTests := true, laidLooks := .later }
def ReplyLinesCardSaid : Prop := Claim7.holds Tryd.pinned (.plain (OpenSpec.ofChange replyLinesSpec)) replyLinesCard

/-- THE SECOND FORM's CARD OF 'lighteragelaw.ReplyDoes'. -/
def replyDoesUptoCard : Claim7 := { stood := { row := replyDoesUptoRow, standIns := [], harness := (true, "8148652117b2dedb536d9fb657a844e0a409cf29147459b745de2d3961400d91"), looks := false }, kinds := [], alts := [], laidByText := true, laidKinds := [.data, .data, .data, .data, .pinned], laidTests := true, laidLooks := .later }
def ReplyDoesUptoCardSaid : Prop := Claim7.holds Tryd.pinned (.plain (OpenSpec.upto replyDoesSpec)) replyDoesUptoCard

/-- THE SECOND FORM's CARD OF 'lighteragelaw.ReplyLines'. -/
def replyLinesUptoCard : Claim7 := { stood := { row := replyLinesUptoRow, standIns := [], harness := (true, "8148652117b2dedb536d9fb657a844e0a409cf29147459b745de2d3961400d91"), looks := false }, kinds := [], alts := [], laidByText := true, laidKinds := [.data, .data, .data, .data, .pinned], laidTests := true, laidLooks := .later }
def ReplyLinesUptoCardSaid : Prop := Claim7.holds Tryd.pinned (.plain (OpenSpec.upto replyLinesSpec)) replyLinesUptoCard
end Rows
end Go.Proofs.YtjhbiipbmlpgoaaDoor
