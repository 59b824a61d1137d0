/- Small texts, one behind the other: BtInfo, FdInfo. -/
import Derived.Test.YtjpenioloeplgadDoorProg
import Derived.Test.YtjpenioloeplgadDoorBase
/- The table's rows of bytes and ints. -/
namespace Go.Proofs.YtjpenioloeplgadDoor
open Go.RowKit

theorem info_u8 : (Tryd.prog.info? 5).map (fun i => (i.zero, i.size, i.bytes)) = some (some (.int .u8 0), 1, 1) := by kernel_rfl

theorem info_int : (Tryd.prog.info? 3).map (fun i => (i.zero, i.size, i.bytes)) = some (some (.int .i64 0), 1, 8) := by kernel_rfl
end Go.Proofs.YtjpenioloeplgadDoor

/- The table's row of fields. -/
namespace Go.Proofs.YtjpenioloeplgadDoor
open Go.RowKit

theorem info_fld : (Tryd.prog.info? 45).map (fun i => (i.zero, i.size, i.bytes)) = some (some (.agg #[.string ⟨#[]⟩, .string ⟨#[]⟩]), 2, 32) := by kernel_rfl
end Go.Proofs.YtjpenioloeplgadDoor
