/- Small texts, one behind the other: CsHex, CsNumber, CsNum16, CsCap. -/
import Derived.Test.YtkbeaehjagdnnacGreatDoorPk13
import Derived.Test.YtkbeaehjagdnnacGreatDoorBase
import Derived.Test.YtkbeaehjagdnnacGreatDoorPk1
import Derived.Test.YtkbeaehjagdnnacGreatDoorProg
/- Package chars, walked: Hex. -/
namespace Go.Proofs.YtkbeaehjagdnnacGreatDoor
open Go.RowKit

set_option maxHeartbeats 400000 in
theorem hex_any (c : Int) (w : World) (h0 : 0 ≤ c) (h1 : c ≤ 255) :
    Calls Tryz.prog 144 #[.int .u8 c] w fun e w' => e = .returned (.int .i64 (Ch.hex c)) ∧ w' = w := by
  have HH : Hid (Ch.hex c = if Ch.digit c then c - 48 else if decide (97 ≤ c) && decide (c ≤ 102) then c - 87 else if decide (65 ≤ c) && decide (c ≤ 70) then c - 55 else -1) := rfl
  cases hd : Ch.digit c
  · go_enter Tryz.func144, Tryz.ntmps144
    go_wp2_with (go_at_call 95; refine (digit_any _ _).mono ?_; rintro e w' ⟨rfl, rfl⟩)
    all_goals go_ret
    all_goals refine ⟨ret_int ?_, rfl⟩
    all_goals (rw [HH.out, hd]; simp only [Bool.false_eq_true, if_false, Bool.and_eq_true, decide_eq_true_eq]; repeat' split) <;> omega
  · have hd' : 48 ≤ c ∧ c ≤ 57 := by simpa [Ch.digit] using hd
    go_enter Tryz.func144, Tryz.ntmps144
    go_wp2_with (go_at_call 95; refine (digit_any _ _).mono ?_; rintro e w' ⟨rfl, rfl⟩)
    go_ret
    refine ⟨ret_int ?_, rfl⟩
    rw [HH.out, hd, if_pos rfl]
end Go.Proofs.YtkbeaehjagdnnacGreatDoor

/- Package chars, walked: number. -/
namespace Go.Proofs.YtkbeaehjagdnnacGreatDoor
open Go.RowKit

set_option maxHeartbeats 400000 in
theorem number_any (s : ByteArray) (base most : Int) (w : World) (hs : s.size ≤ maxLen) (hb0 : 2 ≤ base) (hb1 : base ≤ 16) (hm0 : 0 ≤ most) (hm1 : most ≤ 9) :
    Calls Tryz.prog 142 #[.string s, .int .i64 base, .int .i64 most] w fun e w' => e = .returned (.tuple #[.int .i64 (Ch.number base most s.data.toList).1, .bool (Ch.number base most s.data.toList).2]) ∧ w' = w := by
  unfold maxLen at hs
  by_cases h0 : s.size = 0
  · obtain rfl := Ch.empty_eq s h0
    go_enter Tryz.func142, Tryz.ntmps142
    go_wp2
    go_ret2
    exact ⟨ret_two (Ch.number_short _ _ _ (Or.inl rfl)), rfl⟩
  · have hne := Ch.isEmpty_false s (by omega)
    by_cases hlong : most < s.size
    · have HL : Hid (most < s.data.toList.length) := by unfold Hid; rw [Ch.len_list]; exact hlong
      go_enter Tryz.func142, Tryz.ntmps142
      go_wp2
      go_ret2
      exact ⟨ret_two (Ch.number_short _ _ _ (Or.inr HL.out)), rfl⟩
    · have hlg : decide (most < (s.size : Int)) = false := decide_eq_false hlong
      have HL : Hid (¬ most < s.data.toList.length) := by unfold Hid; rw [Ch.len_list]; exact hlong
      go_enter Tryz.func142, Tryz.ntmps142
      go_wp2
      go_loop [8, 21] (fun n i => ∃ k : Nat, k ≤ s.size ∧ i = .int .i64 k ∧ (s.data.toList.take k).all (Ch.dig base) = true ∧ n = .int .i64 (Ch.numOf base (s.data.toList.take k))) (fun _ i => s.size - (intOf i).toNat)
      case atStart => exact ⟨0, Nat.zero_le _, rfl, rfl, rfl⟩
      case round =>
        obtain ⟨k, hk, rfl, hall, rfl⟩ := hrel
        have HN : Hid ((s.data.toList.take k).all (Ch.dig base) = true) := hall
        have hbd := Ch.numOf_bound base (by omega) hb1 _ hall (by have : (s.data.toList.take k).length ≤ k := List.length_take_le _ _; omega)
        clear hall
        generalize hn : Ch.numOf base (s.data.toList.take k) = n at hbd
        have Hn : Hid (Ch.numOf base (s.data.toList.take k) = n) := hn
        clear hn
        have p0 : 0 ≤ n * base := Int.mul_nonneg hbd.1 (by omega)
        have p1 : n * base ≤ n * 16 := Int.mul_le_mul_of_nonneg_left hb1 hbd.1
        by_cases hlt : k < s.size
        · have hb := s[k].toNat_lt
          have hx := Ch.hex_byte s[k]
          by_cases hd : 0 ≤ Ch.hex s[k].toNat ∧ Ch.hex s[k].toNat < base
          · have HE : Hid (Ch.dig base s[k] = true) := by unfold Hid Ch.dig; rw [decide_eq_true hd.1, decide_eq_true hd.2]; rfl
            have hd1 : decide (Ch.hex s[k].toNat < 0) = false := decide_eq_false (by omega)
            have hd2 : decide (base ≤ Ch.hex s[k].toNat) = false := decide_eq_false (by omega)
            go_wp2_with (go_at_call 144; refine (hex_any _ _ (by omega) (by omega)).mono ?_; rintro e w' ⟨rfl, rfl⟩)
            go_round
            case rel => exact ⟨k + 1, by omega, by go_num, by rw [Ch.take_snoc s k hlt, Ch.all_snoc, HN.out, HE.out]; rfl, by rw [Ch.take_snoc s k hlt, Ch.numOf_snoc, Hn.out]⟩
            case measure => simp [intOf]; omega
          · have HE : Hid (Ch.dig base s[k] = false) := by
              unfold Hid Ch.dig
              by_cases hz : 0 ≤ Ch.hex s[k].toNat
              · rw [decide_eq_false (show ¬ Ch.hex s[k].toNat < base from fun h => hd ⟨hz, h⟩)]; simp
              · rw [decide_eq_false hz]; rfl
            by_cases hz : 0 ≤ Ch.hex s[k].toNat
            all_goals
              go_wp2_with (go_at_call 144; refine (hex_any _ _ (by omega) (by omega)).mono ?_; rintro e w' ⟨rfl, rfl⟩)
              all_goals first | omega | (go_ret2; exact ⟨ret_two (Ch.number_no _ _ _ (Ch.all_of_take _ s k hlt HE.out)), rfl⟩)
        · go_wp2
          go_ret2
          exact ⟨ret_two (by rw [← Hn.out, Ch.take_all s k (by omega)]; exact Ch.number_yes _ _ _ (Ch.ne_nil s (by omega)) (Int.not_lt.2 HL.out) (by rw [← HN.out, Ch.take_all s k (by omega)])), rfl⟩
end Go.Proofs.YtkbeaehjagdnnacGreatDoor

/- Package chars, walked: HexNumber. -/
namespace Go.Proofs.YtkbeaehjagdnnacGreatDoor
open Go.RowKit

set_option maxHeartbeats 400000 in
theorem number16_any (s : ByteArray) (w : World) (hs : s.size ≤ maxLen) :
    Calls Tryz.prog 166 #[.string s] w fun e w' => e = .returned (.tuple #[.int .i64 (Ch.number 16 6 s.data.toList).1, .bool (Ch.number 16 6 s.data.toList).2]) ∧ w' = w := by
  have h := number_any s 16 6 w hs (by decide) (by decide) (by decide) (by decide)
  generalize Ch.number 16 6 s.data.toList = p at h
  go_enter Tryz.func166, Tryz.ntmps166
  go_wp2_with (go_at_call 142; refine h.mono ?_; rintro e w' ⟨rfl, rfl⟩)
  go_ret2
  exact ⟨rfl, rfl⟩
end Go.Proofs.YtkbeaehjagdnnacGreatDoor

/- Package chars, walked: capital. -/
namespace Go.Proofs.YtkbeaehjagdnnacGreatDoor
open Go.RowKit

set_option maxHeartbeats 400000 in
theorem capital_any (c : Int) (w : World) :
    Calls Tryz.prog 118 #[.int .u8 c] w fun e w' => e = .returned (.bool (Ch.capital c)) ∧ w' = w := by
  go_enter Tryz.func118, Tryz.ntmps118
  go_wp2
  all_goals go_ret
  all_goals refine ⟨ret_bool ?_, rfl⟩
  all_goals (simp [Ch.capital]; try omega)
end Go.Proofs.YtkbeaehjagdnnacGreatDoor
