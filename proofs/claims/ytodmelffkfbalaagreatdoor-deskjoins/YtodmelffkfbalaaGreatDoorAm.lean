import Derived.Below
namespace Go.Proofs.YtodmelffkfbalaaGreatDoor
abbrev ag := Option Addr
abbrev aX := @Go.heap_alloc_new
abbrev ar := @Go.RowKit.Below.refl
abbrev aq := @Go.cell_of_row
abbrev aN := @Go.frozen_of_row
abbrev aP := @Go.heap_setCell_same
abbrev sI := @Go.World.cell?_setCell_same
abbrev sJ := @Go.World.cell?_setCell_other
abbrev qZ := @Go.World.ownsRow.cellAt
abbrev sK := @Go.World.ownsRow.frozenAt
abbrev od := @Go.World.ownsRow.stored
abbrev bF := @Go.World.size_alloc
abbrev bY := @Go.World.block_lt_of_cell?
abbrev aR := @Go.bodyPost_ret
abbrev re := @Go.World.grownBy_alloc
abbrev pP := @Go.heap_setCell_other
abbrev vu := @Go.World.ownsRow_lit
abbrev vw := @Go.World.cell?_of_block
abbrev vx := @Go.World.frozen?_of_block
abbrev ge := @Go.Addr.add_lit
abbrev sL := @Go.World.cell?_alloc_new
