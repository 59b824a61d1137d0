/- Short names. -/
import Derived.Below
import Derived.Laws.Rows
import Derived.Laws.World
import Derived.Tactics
namespace Go.Proofs.YtjmndjmhjleabaaGreatDoor
abbrev aj (w w' : World) : Prop := Go.RowKit.Below w.heap.size w w'
abbrev ak := Option Addr
abbrev fI := @Go.heap_alloc_new
abbrev fJ := @Go.RowKit.Below.refl
abbrev fK := @Go.cell_of_row
abbrev fM := @Go.frozen_of_row
abbrev fO := @Go.heap_setCell_same
abbrev fP := @Go.World.cell?_setCell_same
abbrev fQ := @Go.World.cell?_setCell_other
abbrev fT := @Go.World.ownsRow.cellAt
abbrev fU := @Go.World.ownsRow.frozenAt
abbrev fV := @Go.World.ownsRow.stored
abbrev fZ := @Go.World.size_alloc
abbrev gq := @Go.World.block_lt_of_cell?
abbrev gy := @Go.bodyPost_ret
abbrev gB := @Go.World.grownBy_alloc
abbrev gD := @Go.heap_setCell_other
abbrev gF := @Go.World.ownsRow_lit
abbrev gG := @Go.World.cell?_of_block
abbrev gH := @Go.World.frozen?_of_block
abbrev gI := @Go.Addr.add_lit
abbrev gJ := @Go.World.cell?_alloc_new
end Go.Proofs.YtjmndjmhjleabaaGreatDoor
