/- Package chars, walked: Number. -/
import Derived.Test.YtdclmpdjjkjfjaaGreatDoorPk14
namespace Go.Proofs.YtdclmpdjjkjfjaaGreatDoor
open Go.RowKit

set_option maxHeartbeats 400000 in
theorem number10_any (s : ByteArray) (w : World) (hs : s.size ≤ maxLen) :
    Calls Tryz.prog 79 #[.string s] w fun e w' => e = .returned (.tuple #[.int .i64 (Ch.number 10 9 s.data.toList).1, .bool (Ch.number 10 9 s.data.toList).2]) ∧ w' = w := by
  have h := number_any s 10 9 w hs (by decide) (by decide) (by decide) (by decide)
  generalize Ch.number 10 9 s.data.toList = p at h
  go_enter Tryz.func79, Tryz.ntmps79
  go_wp2_with (go_at_call 111; refine h.mono ?_; rintro e w' ⟨rfl, rfl⟩)
  go_ret2
  exact ⟨rfl, rfl⟩
end Go.Proofs.YtdclmpdjjkjfjaaGreatDoor
