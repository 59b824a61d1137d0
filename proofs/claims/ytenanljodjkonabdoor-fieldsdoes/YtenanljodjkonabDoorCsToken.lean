/- Package chars, walked: Token. -/
import Derived.Test.YtenanljodjkonabDoorCsDigit
import Derived.Test.YtenanljodjkonabDoorCsLetter
import Derived.Test.YtenanljodjkonabDoorStIndexB
namespace Go.Proofs.YtenanljodjkonabDoor
open Go.RowKit

set_option maxHeartbeats 400000 in
theorem token_any (c : Int) (w : World) :
    Calls Tryd.prog 29 #[.int .u8 c] w fun e w' => e = .returned (.bool (Ch.token c)) ∧ w' = w := by
  have hm := indexByte_any ⟨#[33, 35, 36, 37, 38, 39, 42, 43, 45, 46, 94, 95, 96, 124, 126]⟩ c w
  have HM : Hid (Lib.indexByte [33, 35, 36, 37, 38, 39, 42, 43, 45, 46, 94, 95, 96, 124, 126] c.toNat.toUInt8 = Lib.indexByte Ch.marks c.toNat.toUInt8) := rfl
  generalize (Lib.indexByte [33, 35, 36, 37, 38, 39, 42, 43, 45, 46, 94, 95, 96, 124, 126] c.toNat.toUInt8) = r at hm HM
  cases hd : Ch.digit c
  · cases hl : Ch.letter c
    all_goals
      have HH : Hid (Ch.token c = (Ch.digit c || Ch.letter c || decide (0 ≤ r))) := by rw [HM.out]; rfl
      go_enter Tryd.func29, Tryd.ntmps29
      go_wp2_with (first | (go_at_call 43; refine (digit_any _ _).mono ?_; rintro e w' ⟨rfl, rfl⟩) | (go_at_call 44; refine (letter_any _ _).mono ?_; rintro e w' ⟨rfl, rfl⟩) | (go_at_call 45; refine hm.mono ?_; rintro e w' ⟨rfl, rfl⟩))
      go_ret
      refine ⟨ret_bool ?_, rfl⟩
      rw [HH.out, hd, hl]
      simp
  · have HH : Hid (Ch.token c = (Ch.digit c || Ch.letter c || decide (0 ≤ r))) := by rw [HM.out]; rfl
    go_enter Tryd.func29, Tryd.ntmps29
    go_wp2_with (first | (go_at_call 43; refine (digit_any _ _).mono ?_; rintro e w' ⟨rfl, rfl⟩) | (go_at_call 44; refine (letter_any _ _).mono ?_; rintro e w' ⟨rfl, rfl⟩) | (go_at_call 45; refine hm.mono ?_; rintro e w' ⟨rfl, rfl⟩))
    go_ret
    refine ⟨ret_bool ?_, rfl⟩
    rw [HH.out, hd]
    simp
end Go.Proofs.YtenanljodjkonabDoor
