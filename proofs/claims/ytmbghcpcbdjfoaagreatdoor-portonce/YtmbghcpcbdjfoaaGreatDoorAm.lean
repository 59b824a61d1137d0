import Derived.Below
namespace Go.Proofs.YtmbghcpcbdjfoaaGreatDoor
abbrev ai := Option Addr
abbrev bw := @Go.heap_alloc_new
abbrev aq := @Go.RowKit.Below.refl
abbrev am := @Go.cell_of_row
abbrev aD := @Go.frozen_of_row
abbrev aQ := @Go.heap_setCell_same
abbrev tJ := @Go.World.cell?_setCell_same
abbrev tL := @Go.World.cell?_setCell_other
abbrev rG := @Go.World.ownsRow.cellAt
abbrev tM := @Go.World.ownsRow.frozenAt
abbrev oE := @Go.World.ownsRow.stored
abbrev ch := @Go.World.size_alloc
abbrev bI := @Go.World.block_lt_of_cell?
abbrev aR := @Go.bodyPost_ret
abbrev qv := @Go.World.grownBy_alloc
abbrev qx := @Go.heap_setCell_other
abbrev tN := @Go.World.ownsRow_lit
abbrev wy := @Go.World.cell?_of_block
abbrev wA := @Go.World.frozen?_of_block
abbrev ga := @Go.Addr.add_lit
abbrev tP := @Go.World.cell?_alloc_new
