/- Short names. -/
import Derived.Below
namespace Go.Proofs.YthhklgjjnaeaoaaGreatDoor
abbrev ak := Option Addr
abbrev eX := @Go.heap_alloc_new
abbrev eY := @Go.RowKit.Below.refl
abbrev eZ := @Go.cell_of_row
abbrev fq := @Go.frozen_of_row
abbrev fu := @Go.heap_setCell_same
abbrev fA := @Go.World.cell?_setCell_same
abbrev fB := @Go.World.cell?_setCell_other
abbrev fD := @Go.World.ownsRow.cellAt
abbrev fE := @Go.World.ownsRow.frozenAt
abbrev fF := @Go.World.ownsRow.stored
abbrev fG := @Go.World.size_alloc
abbrev fH := @Go.World.block_lt_of_cell?
abbrev fI := @Go.bodyPost_ret
abbrev fJ := @Go.World.grownBy_alloc
abbrev fK := @Go.heap_setCell_other
abbrev fM := @Go.World.ownsRow_lit
abbrev fO := @Go.World.cell?_of_block
abbrev fP := @Go.World.frozen?_of_block
abbrev fQ := @Go.Addr.add_lit
abbrev fT := @Go.World.cell?_alloc_new
end Go.Proofs.YthhklgjjnaeaoaaGreatDoor
