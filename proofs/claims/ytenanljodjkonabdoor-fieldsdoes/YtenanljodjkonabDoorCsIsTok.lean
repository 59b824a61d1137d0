/- Package chars, walked: IsToken. -/
import Derived.Test.YtenanljodjkonabDoorCsAllT
namespace Go.Proofs.YtenanljodjkonabDoor
open Go.RowKit

set_option maxHeartbeats 400000 in
theorem isToken_any (s : ByteArray) (w : World) (hs : s.size ≤ maxLen) :
    Calls Tryd.prog 17 #[.string s] w fun e w' => e = .returned (.bool (Ch.isToken s.data.toList)) ∧ w' = w := by
  by_cases h0 : s.size = 0
  · obtain rfl := Ch.empty_eq s h0
    go_enter Tryd.func17, Tryd.ntmps17
    go_wp2
    go_ret
    exact ⟨rfl, rfl⟩
  · have hne := Ch.isEmpty_false s (by omega)
    have HT : Hid (Ch.allToken s.data.toList = Ch.isToken s.data.toList) := by
      unfold Hid Ch.isToken Ch.allToken; rw [← Lib.toList_data, hne]; simp
    go_enter Tryd.func17, Tryd.ntmps17
    go_wp2_with (go_at_call 28; refine (all_token _ _ hs).mono ?_; rintro e w' ⟨rfl, rfl⟩)
    go_ret
    exact ⟨ret_bool HT.out, rfl⟩
end Go.Proofs.YtenanljodjkonabDoor
