/- Short names. -/
import Derived.Below
namespace Go.Proofs.YtjmndjmhjleabaaGreatDoor
abbrev aj := Option Addr
abbrev fH := @Go.heap_alloc_new
abbrev fI := @Go.RowKit.Below.refl
abbrev fJ := @Go.cell_of_row
abbrev fK := @Go.frozen_of_row
abbrev fM := @Go.heap_setCell_same
abbrev fO := @Go.World.cell?_setCell_same
abbrev fP := @Go.World.cell?_setCell_other
abbrev fQ := @Go.World.ownsRow.cellAt
abbrev fT := @Go.World.ownsRow.frozenAt
abbrev fU := @Go.World.ownsRow.stored
abbrev fV := @Go.World.size_alloc
abbrev fZ := @Go.World.block_lt_of_cell?
abbrev gq := @Go.bodyPost_ret
abbrev gy := @Go.World.grownBy_alloc
abbrev gB := @Go.heap_setCell_other
abbrev gD := @Go.World.ownsRow_lit
abbrev gF := @Go.World.cell?_of_block
abbrev gG := @Go.World.frozen?_of_block
abbrev gH := @Go.Addr.add_lit
abbrev gI := @Go.World.cell?_alloc_new
end Go.Proofs.YtjmndjmhjleabaaGreatDoor
