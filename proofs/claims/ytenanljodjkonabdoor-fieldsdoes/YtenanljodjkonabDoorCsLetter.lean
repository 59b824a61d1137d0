/- Package chars, walked: Letter. -/
import Derived.Test.YtenanljodjkonabDoorCsCap
namespace Go.Proofs.YtenanljodjkonabDoor
open Go.RowKit

set_option maxHeartbeats 400000 in
theorem letter_any (c : Int) (w : World) :
    Calls Tryd.prog 44 #[.int .u8 c] w fun e w' => e = .returned (.bool (Ch.letter c)) ∧ w' = w := by
  go_enter Tryd.func44, Tryd.ntmps44
  go_wp2_with (go_at_call 34; refine (capital_any _ _).mono ?_; rintro e w' ⟨rfl, rfl⟩)
  all_goals go_ret
  all_goals refine ⟨ret_bool ?_, rfl⟩
  all_goals (unfold Ch.letter; first | (rw [decide_eq_true (show 97 ≤ c by omega)]; simp; try omega) | (rw [decide_eq_false (show ¬ 97 ≤ c by omega)]; simp; try omega))
end Go.Proofs.YtenanljodjkonabDoor
