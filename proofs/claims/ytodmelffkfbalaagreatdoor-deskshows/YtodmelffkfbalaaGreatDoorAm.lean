import Derived.Below
namespace Go.Proofs.YtodmelffkfbalaaGreatDoor
abbrev ag := Option Addr
abbrev be := @Go.heap_alloc_new
abbrev ar := @Go.RowKit.Below.refl
abbrev aq := @Go.cell_of_row
abbrev aP := @Go.frozen_of_row
abbrev aR := @Go.heap_setCell_same
abbrev sM := @Go.World.cell?_setCell_same
abbrev sN := @Go.World.cell?_setCell_other
abbrev rh := @Go.World.ownsRow.cellAt
abbrev sO := @Go.World.ownsRow.frozenAt
abbrev om := @Go.World.ownsRow.stored
abbrev bu := @Go.World.size_alloc
abbrev ch := @Go.World.block_lt_of_cell?
abbrev aS := @Go.bodyPost_ret
abbrev ri := @Go.World.grownBy_alloc
abbrev pU := @Go.heap_setCell_other
abbrev vx := @Go.World.ownsRow_lit
abbrev vy := @Go.World.cell?_of_block
abbrev vz := @Go.World.frozen?_of_block
abbrev gg := @Go.Addr.add_lit
abbrev sP := @Go.World.cell?_alloc_new
