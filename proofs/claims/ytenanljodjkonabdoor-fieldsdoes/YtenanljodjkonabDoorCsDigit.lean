/- Package chars, walked: digit. -/
import Derived.Test.YtenanljodjkonabDoorBase
import Derived.Test.YtenanljodjkonabDoorPlainA
import Derived.Test.YtenanljodjkonabDoorProg
namespace Go.Proofs.YtenanljodjkonabDoor
open Go.RowKit

set_option maxHeartbeats 400000 in
theorem digit_any (c : Int) (w : World) :
    Calls Tryd.prog 43 #[.int .u8 c] w fun e w' => e = .returned (.bool (Ch.digit c)) ∧ w' = w := by
  go_enter Tryd.func43, Tryd.ntmps43
  go_wp2
  all_goals go_ret
  all_goals refine ⟨ret_bool ?_, rfl⟩
  all_goals (simp [Ch.digit]; try omega)
end Go.Proofs.YtenanljodjkonabDoor
