/- Package chars, walked: capital. -/
import Derived.Test.YtenanljodjkonabDoorBase
import Derived.Test.YtenanljodjkonabDoorPlainA
import Derived.Test.YtenanljodjkonabDoorProg
namespace Go.Proofs.YtenanljodjkonabDoor
open Go.RowKit

set_option maxHeartbeats 400000 in
theorem capital_any (c : Int) (w : World) :
    Calls Tryd.prog 34 #[.int .u8 c] w fun e w' => e = .returned (.bool (Ch.capital c)) ∧ w' = w := by
  go_enter Tryd.func34, Tryd.ntmps34
  go_wp2
  all_goals go_ret
  all_goals refine ⟨ret_bool ?_, rfl⟩
  all_goals (simp [Ch.capital]; try omega)
end Go.Proofs.YtenanljodjkonabDoor
