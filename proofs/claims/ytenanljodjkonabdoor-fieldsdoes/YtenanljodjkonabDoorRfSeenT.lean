/- The document's own answer, walked: SeenText. -/
import Derived.Test.YtenanljodjkonabDoorRfSeen
namespace Go.Proofs.YtenanljodjkonabDoor
open Go.RowKit

set_option maxHeartbeats 400000 in
theorem seenText_any (s : ByteArray) (w : World) (hs : s.size ≤ maxLen) :
    Calls Tryd.prog 22 #[.string s] w fun e w' => e = .returned (.bool (Ch.isVisible s.data.toList)) ∧ w' = w := by
  unfold maxLen at hs
  go_enter Tryd.func22, Tryd.ntmps22
  go_wp2
  go_loop [3] (fun i => ∃ k : Nat, k ≤ s.size ∧ i = .int .i64 k ∧ ((s.data.toList.take k).all fun b => Ch.visible b.toNat) = true) (fun i => s.size - (intOf i).toNat)
  case atStart => exact ⟨0, Nat.zero_le _, rfl, rfl⟩
  case round =>
    obtain ⟨k, hk, rfl, hno⟩ := hrel
    have HN : Hid (((s.data.toList.take k).all fun b => Ch.visible b.toNat) = true) := hno
    clear hno
    by_cases hlt : k < s.size
    · have hb := s[k].toNat_lt
      cases he : Ch.visible (s[k].toNat : Int)
      · have HE : Hid (Ch.visible (s[k].toNat : Int) = false) := he
        go_wp2_with (go_at_call 33; refine (isSeen_any _ _).mono ?_; rintro e w' ⟨rfl, rfl⟩)
        go_ret
        refine ⟨ret_bool ?_, rfl⟩
        exact (Ch.all_of_take (fun b => Ch.visible b.toNat) s k hlt HE.out).symm
      · have HE : Hid (Ch.visible (s[k].toNat : Int) = true) := he
        go_wp2_with (go_at_call 33; refine (isSeen_any _ _).mono ?_; rintro e w' ⟨rfl, rfl⟩)
        go_round
        case rel => exact ⟨k + 1, by omega, by go_num, by rw [Ch.take_snoc s k hlt, Ch.all_snoc, HN.out, HE.out]; rfl⟩
        case measure => simp [intOf]; omega
    · go_wp2
      go_ret
      refine ⟨ret_bool ?_, rfl⟩
      unfold Ch.isVisible
      rw [← HN.out, Ch.take_all s k (by omega)]
end Go.Proofs.YtenanljodjkonabDoor
