/- The table's rows of bytes and ints. -/
import Derived.Test.YtanpocgojmflgaaDoorProg
import Derived.Test.YtanpocgojmflgaaDoorBase
namespace Go.Proofs.YtanpocgojmflgaaDoor
open Go.RowKit

theorem info_u8 : (Tryd.prog.info? 5).map (fun i => (i.zero, i.size, i.bytes)) = some (some (.int .u8 0), 1, 1) := by kernel_rfl

theorem info_int : (Tryd.prog.info? 3).map (fun i => (i.zero, i.size, i.bytes)) = some (some (.int .i64 0), 1, 8) := by kernel_rfl
end Go.Proofs.YtanpocgojmflgaaDoor
