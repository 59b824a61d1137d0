/- Package chars' numbers and texts by a byte's kind, walked: each returns what its plain function says, and changes nothing. -/
import Derived.Test.YtkacjjahbgdchaaDoorWalksA
namespace Go.Proofs.YtkacjjahbgdchaaDoor
open Go.RowKit

set_option maxHeartbeats 400000 in
theorem hex_any (c : Int) (w : World) (h0 : 0 ≤ c) (h1 : c ≤ 255) :
    Calls Tryd.prog 12 #[.int .u8 c] w fun e w' => e = .returned (.int .i64 (Ch.hex c)) ∧ w' = w := by
  have HH : Hid (Ch.hex c = if Ch.digit c then c - 48 else if decide (97 ≤ c) && decide (c ≤ 102) then c - 87 else if decide (65 ≤ c) && decide (c ≤ 70) then c - 55 else -1) := rfl
  cases hd : Ch.digit c
  · go_enter Tryd.func12, Tryd.ntmps12
    go_wp2_with (go_at_call 6; refine (digit_any _ _).mono ?_; rintro e w' ⟨rfl, rfl⟩)
    all_goals go_ret
    all_goals refine ⟨ret_int ?_, rfl⟩
    all_goals (rw [HH.out, hd]; simp only [Bool.false_eq_true, if_false, Bool.and_eq_true, decide_eq_true_eq]; repeat' split) <;> omega
  · have hd' : 48 ≤ c ∧ c ≤ 57 := by simpa [Ch.digit] using hd
    go_enter Tryd.func12, Tryd.ntmps12
    go_wp2_with (go_at_call 6; refine (digit_any _ _).mono ?_; rintro e w' ⟨rfl, rfl⟩)
    go_ret
    refine ⟨ret_int ?_, rfl⟩
    rw [HH.out, hd, if_pos rfl]

set_option maxHeartbeats 1000000 in
theorem isTokenByte_any (c : Int) (w : World) (h0 : 0 ≤ c) (h1 : c ≤ 255) :
    Calls Tryd.prog 9 #[.int .u8 c] w fun e w' => e = .returned (.bool (Ch.token c)) ∧ w' = w := by
  have HT : Hid (Ch.oneOf c Ch.tokens = Ch.token c) := Ch.oneOf_tokens c h0 h1
  have hm := one_any c ⟨Ch.tokens.toArray⟩ w (by decide)
  go_enter Tryd.func9, Tryd.ntmps9
  go_wp2_with fail
  refine hm.mono ?_
  rintro e w' ⟨rfl, rfl⟩
  go_wp2
  go_ret
  exact ⟨ret_bool HT.out, rfl⟩

set_option maxHeartbeats 400000 in
theorem all_token (s : ByteArray) (w : World) (hs : s.size ≤ maxLen) :
    Calls Tryd.prog 32 #[.string s, .func (.func 8) #[] #[]] w fun e w' => e = .returned (.bool (Ch.allToken s.data.toList)) ∧ w' = w := by
  unfold maxLen at hs
  go_enter Tryd.func32, Tryd.ntmps32
  go_wp2
  go_loop [8] (fun i => ∃ k : Nat, k ≤ s.size ∧ i = .int .i64 k ∧ ((s.data.toList.take k).all fun b => Ch.token b.toNat) = true) (fun i => s.size - (intOf i).toNat)
  case atStart => exact ⟨0, Nat.zero_le _, rfl, rfl⟩
  case round =>
    obtain ⟨k, hk, rfl, hno⟩ := hrel
    have HN : Hid (((s.data.toList.take k).all fun b => Ch.token b.toNat) = true) := hno
    clear hno
    by_cases hlt : k < s.size
    · cases he : Ch.token (s[k].toNat : Int)
      · have HE : Hid (Ch.token (s[k].toNat : Int) = false) := he
        go_wp2_with (go_at_call 8; refine (token_any _ _).mono ?_; rintro e w' ⟨rfl, rfl⟩)
        go_ret
        refine ⟨ret_bool ?_, rfl⟩
        exact (Ch.all_of_take (fun b => Ch.token b.toNat) s k hlt HE.out).symm
      · have HE : Hid (Ch.token (s[k].toNat : Int) = true) := he
        go_wp2_with (go_at_call 8; refine (token_any _ _).mono ?_; rintro e w' ⟨rfl, rfl⟩)
        go_round
        case rel => exact ⟨k + 1, by omega, by go_num, by rw [Ch.take_snoc s k hlt, Ch.all_snoc, HN.out, HE.out]; rfl⟩
        case measure => simp [intOf]; omega
    · go_wp2
      go_ret
      refine ⟨ret_bool ?_, rfl⟩
      rw [← HN.out, Ch.take_all s k (by omega)]
      rfl

set_option maxHeartbeats 400000 in
theorem all_visible (s : ByteArray) (w : World) (hs : s.size ≤ maxLen) :
    Calls Tryd.prog 32 #[.string s, .func (.func 10) #[] #[]] w fun e w' => e = .returned (.bool (Ch.isVisible s.data.toList)) ∧ w' = w := by
  unfold maxLen at hs
  go_enter Tryd.func32, Tryd.ntmps32
  go_wp2
  go_loop [8] (fun i => ∃ k : Nat, k ≤ s.size ∧ i = .int .i64 k ∧ ((s.data.toList.take k).all fun b => Ch.visible b.toNat) = true) (fun i => s.size - (intOf i).toNat)
  case atStart => exact ⟨0, Nat.zero_le _, rfl, rfl⟩
  case round =>
    obtain ⟨k, hk, rfl, hno⟩ := hrel
    have HN : Hid (((s.data.toList.take k).all fun b => Ch.visible b.toNat) = true) := hno
    clear hno
    by_cases hlt : k < s.size
    · cases he : Ch.visible (s[k].toNat : Int)
      · have HE : Hid (Ch.visible (s[k].toNat : Int) = false) := he
        go_wp2_with (go_at_call 10; refine (visible_any _ _).mono ?_; rintro e w' ⟨rfl, rfl⟩)
        go_ret
        refine ⟨ret_bool ?_, rfl⟩
        exact (Ch.all_of_take (fun b => Ch.visible b.toNat) s k hlt HE.out).symm
      · have HE : Hid (Ch.visible (s[k].toNat : Int) = true) := he
        go_wp2_with (go_at_call 10; refine (visible_any _ _).mono ?_; rintro e w' ⟨rfl, rfl⟩)
        go_round
        case rel => exact ⟨k + 1, by omega, by go_num, by rw [Ch.take_snoc s k hlt, Ch.all_snoc, HN.out, HE.out]; rfl⟩
        case measure => simp [intOf]; omega
    · go_wp2
      go_ret
      refine ⟨ret_bool ?_, rfl⟩
      rw [← HN.out, Ch.take_all s k (by omega)]
      rfl

set_option maxHeartbeats 400000 in
theorem isToken_any (s : ByteArray) (w : World) (hs : s.size ≤ maxLen) :
    Calls Tryd.prog 18 #[.string s] w fun e w' => e = .returned (.bool (Ch.isToken s.data.toList)) ∧ w' = w := by
  by_cases h0 : s.size = 0
  · obtain rfl := Ch.empty_eq s h0
    go_enter Tryd.func18, Tryd.ntmps18
    go_wp2
    go_ret
    exact ⟨rfl, rfl⟩
  · have hne := Ch.isEmpty_false s (by omega)
    have HT : Hid (Ch.allToken s.data.toList = Ch.isToken s.data.toList) := by
      unfold Hid Ch.isToken Ch.allToken; rw [← Lib.toList_data, hne]; simp
    go_enter Tryd.func18, Tryd.ntmps18
    go_wp2_with (go_at_call 32; refine (all_token _ _ hs).mono ?_; rintro e w' ⟨rfl, rfl⟩)
    go_ret
    exact ⟨ret_bool HT.out, rfl⟩

set_option maxHeartbeats 400000 in
theorem isVisible_any (s : ByteArray) (w : World) (hs : s.size ≤ maxLen) :
    Calls Tryd.prog 20 #[.string s] w fun e w' => e = .returned (.bool (Ch.isVisible s.data.toList)) ∧ w' = w := by
  go_enter Tryd.func20, Tryd.ntmps20
  go_wp2_with (go_at_call 32; refine (all_visible _ _ hs).mono ?_; rintro e w' ⟨rfl, rfl⟩)
  go_ret
  exact ⟨rfl, rfl⟩

set_option maxHeartbeats 400000 in
theorem tokenText_any (s : ByteArray) (w : World) (hs : s.size ≤ maxLen) :
    Calls Tryd.prog 19 #[.string s] w fun e w' => e = .returned (.bool (Ch.isToken s.data.toList)) ∧ w' = w := by
  unfold maxLen at hs
  go_enter Tryd.func19, Tryd.ntmps19
  go_wp2
  go_loop [3] (fun i => ∃ k : Nat, k ≤ s.size ∧ i = .int .i64 k ∧ ((s.data.toList.take k).all fun b => Ch.token b.toNat) = true) (fun i => s.size - (intOf i).toNat)
  case atStart => exact ⟨0, Nat.zero_le _, rfl, rfl⟩
  case round =>
    obtain ⟨k, hk, rfl, hno⟩ := hrel
    have HN : Hid (((s.data.toList.take k).all fun b => Ch.token b.toNat) = true) := hno
    clear hno
    by_cases hlt : k < s.size
    · have hb := s[k].toNat_lt
      cases he : Ch.token (s[k].toNat : Int)
      · have HE : Hid (Ch.token (s[k].toNat : Int) = false) := he
        go_wp2_with (go_at_call 9; refine (isTokenByte_any _ _ (by omega) (by omega)).mono ?_; rintro e w' ⟨rfl, rfl⟩)
        go_ret
        refine ⟨ret_bool ?_, rfl⟩
        unfold Ch.isToken
        rw [Ch.all_of_take (fun b => Ch.token b.toNat) s k hlt HE.out]; simp
      · have HE : Hid (Ch.token (s[k].toNat : Int) = true) := he
        go_wp2_with (go_at_call 9; refine (isTokenByte_any _ _ (by omega) (by omega)).mono ?_; rintro e w' ⟨rfl, rfl⟩)
        go_round
        case rel => exact ⟨k + 1, by omega, by go_num, by rw [Ch.take_snoc s k hlt, Ch.all_snoc, HN.out, HE.out]; rfl⟩
        case measure => simp [intOf]; omega
    · go_wp2
      go_ret
      refine ⟨ret_bool ?_, rfl⟩
      have h : ((s.data.toList).all fun b => Ch.token b.toNat) = true := by rw [← HN.out, Ch.take_all s k (by omega)]
      unfold Ch.isToken
      rw [h]
      by_cases hz : s.size = 0
      · obtain rfl := Ch.empty_eq s hz
        rfl
      · rw [← Lib.toList_data, Ch.isEmpty_false s (by omega)]
        simp; omega

set_option maxHeartbeats 400000 in
theorem seenText_any (s : ByteArray) (w : World) (hs : s.size ≤ maxLen) :
    Calls Tryd.prog 21 #[.string s] w fun e w' => e = .returned (.bool (Ch.isVisible s.data.toList)) ∧ w' = w := by
  unfold maxLen at hs
  go_enter Tryd.func21, Tryd.ntmps21
  go_wp2
  go_loop [3] (fun i => ∃ k : Nat, k ≤ s.size ∧ i = .int .i64 k ∧ ((s.data.toList.take k).all fun b => Ch.visible b.toNat) = true) (fun i => s.size - (intOf i).toNat)
  case atStart => exact ⟨0, Nat.zero_le _, rfl, rfl⟩
  case round =>
    obtain ⟨k, hk, rfl, hno⟩ := hrel
    have HN : Hid (((s.data.toList.take k).all fun b => Ch.visible b.toNat) = true) := hno
    clear hno
    by_cases hlt : k < s.size
    · have hb := s[k].toNat_lt
      cases he : Ch.visible (s[k].toNat : Int)
      · have HE : Hid (Ch.visible (s[k].toNat : Int) = false) := he
        go_wp2_with (go_at_call 11; refine (isSeen_any _ _).mono ?_; rintro e w' ⟨rfl, rfl⟩)
        go_ret
        refine ⟨ret_bool ?_, rfl⟩
        exact (Ch.all_of_take (fun b => Ch.visible b.toNat) s k hlt HE.out).symm
      · have HE : Hid (Ch.visible (s[k].toNat : Int) = true) := he
        go_wp2_with (go_at_call 11; refine (isSeen_any _ _).mono ?_; rintro e w' ⟨rfl, rfl⟩)
        go_round
        case rel => exact ⟨k + 1, by omega, by go_num, by rw [Ch.take_snoc s k hlt, Ch.all_snoc, HN.out, HE.out]; rfl⟩
        case measure => simp [intOf]; omega
    · go_wp2
      go_ret
      refine ⟨ret_bool ?_, rfl⟩
      unfold Ch.isVisible
      rw [← HN.out, Ch.take_all s k (by omega)]

theorem ret_two {k : IntKind} {a : Int} {b : Bool} {p : Int × Bool} (h : p = (a, b)) : Ending.returned (.tuple #[.int k a, .bool b]) = .returned (.tuple #[.int k p.1, .bool p.2]) := by rw [h]

set_option maxHeartbeats 400000 in
theorem number_any (s : ByteArray) (base most : Int) (w : World) (hs : s.size ≤ maxLen) (hb0 : 2 ≤ base) (hb1 : base ≤ 16) (hm0 : 0 ≤ most) (hm1 : most ≤ 9) :
    Calls Tryd.prog 31 #[.string s, .int .i64 base, .int .i64 most] w fun e w' => e = .returned (.tuple #[.int .i64 (Ch.number base most s.data.toList).1, .bool (Ch.number base most s.data.toList).2]) ∧ w' = w := by
  unfold maxLen at hs
  by_cases h0 : s.size = 0
  · obtain rfl := Ch.empty_eq s h0
    go_enter Tryd.func31, Tryd.ntmps31
    go_wp2
    go_ret2
    exact ⟨ret_two (Ch.number_short _ _ _ (Or.inl rfl)), rfl⟩
  · have hne := Ch.isEmpty_false s (by omega)
    by_cases hlong : most < s.size
    · have HL : Hid (most < s.data.toList.length) := by unfold Hid; rw [Ch.len_list]; exact hlong
      go_enter Tryd.func31, Tryd.ntmps31
      go_wp2
      go_ret2
      exact ⟨ret_two (Ch.number_short _ _ _ (Or.inr HL.out)), rfl⟩
    · have hlg : decide (most < (s.size : Int)) = false := decide_eq_false hlong
      have HL : Hid (¬ most < s.data.toList.length) := by unfold Hid; rw [Ch.len_list]; exact hlong
      go_enter Tryd.func31, Tryd.ntmps31
      go_wp2
      go_loop [8, 21] (fun n i => ∃ k : Nat, k ≤ s.size ∧ i = .int .i64 k ∧ (s.data.toList.take k).all (Ch.dig base) = true ∧ n = .int .i64 (Ch.numOf base (s.data.toList.take k))) (fun _ i => s.size - (intOf i).toNat)
      case atStart => exact ⟨0, Nat.zero_le _, rfl, rfl, rfl⟩
      case round =>
        obtain ⟨k, hk, rfl, hall, rfl⟩ := hrel
        have HN : Hid ((s.data.toList.take k).all (Ch.dig base) = true) := hall
        have hbd := Ch.numOf_bound base (by omega) hb1 _ hall (by have : (s.data.toList.take k).length ≤ k := List.length_take_le _ _; omega)
        clear hall
        generalize hn : Ch.numOf base (s.data.toList.take k) = n at hbd
        have Hn : Hid (Ch.numOf base (s.data.toList.take k) = n) := hn
        clear hn
        have p0 : 0 ≤ n * base := Int.mul_nonneg hbd.1 (by omega)
        have p1 : n * base ≤ n * 16 := Int.mul_le_mul_of_nonneg_left hb1 hbd.1
        by_cases hlt : k < s.size
        · have hb := s[k].toNat_lt
          have hx := Ch.hex_byte s[k]
          by_cases hd : 0 ≤ Ch.hex s[k].toNat ∧ Ch.hex s[k].toNat < base
          · have HE : Hid (Ch.dig base s[k] = true) := by unfold Hid Ch.dig; rw [decide_eq_true hd.1, decide_eq_true hd.2]; rfl
            have hd1 : decide (Ch.hex s[k].toNat < 0) = false := decide_eq_false (by omega)
            have hd2 : decide (base ≤ Ch.hex s[k].toNat) = false := decide_eq_false (by omega)
            go_wp2_with (go_at_call 12; refine (hex_any _ _ (by omega) (by omega)).mono ?_; rintro e w' ⟨rfl, rfl⟩)
            go_round
            case rel => exact ⟨k + 1, by omega, by go_num, by rw [Ch.take_snoc s k hlt, Ch.all_snoc, HN.out, HE.out]; rfl, by rw [Ch.take_snoc s k hlt, Ch.numOf_snoc, Hn.out]⟩
            case measure => simp [intOf]; omega
          · have HE : Hid (Ch.dig base s[k] = false) := by
              unfold Hid Ch.dig
              by_cases hz : 0 ≤ Ch.hex s[k].toNat
              · rw [decide_eq_false (show ¬ Ch.hex s[k].toNat < base from fun h => hd ⟨hz, h⟩)]; simp
              · rw [decide_eq_false hz]; rfl
            by_cases hz : 0 ≤ Ch.hex s[k].toNat
            all_goals
              go_wp2_with (go_at_call 12; refine (hex_any _ _ (by omega) (by omega)).mono ?_; rintro e w' ⟨rfl, rfl⟩)
              all_goals first | omega | (go_ret2; exact ⟨ret_two (Ch.number_no _ _ _ (Ch.all_of_take _ s k hlt HE.out)), rfl⟩)
        · go_wp2
          go_ret2
          exact ⟨ret_two (by rw [← Hn.out, Ch.take_all s k (by omega)]; exact Ch.number_yes _ _ _ (Ch.ne_nil s (by omega)) (Int.not_lt.2 HL.out) (by rw [← HN.out, Ch.take_all s k (by omega)])), rfl⟩

set_option maxHeartbeats 400000 in
theorem number10_any (s : ByteArray) (w : World) (hs : s.size ≤ maxLen) :
    Calls Tryd.prog 14 #[.string s] w fun e w' => e = .returned (.tuple #[.int .i64 (Ch.number 10 9 s.data.toList).1, .bool (Ch.number 10 9 s.data.toList).2]) ∧ w' = w := by
  have h := number_any s 10 9 w hs (by decide) (by decide) (by decide) (by decide)
  generalize Ch.number 10 9 s.data.toList = p at h
  go_enter Tryd.func14, Tryd.ntmps14
  go_wp2_with (go_at_call 31; refine h.mono ?_; rintro e w' ⟨rfl, rfl⟩)
  go_ret2
  exact ⟨rfl, rfl⟩

set_option maxHeartbeats 400000 in
theorem number16_any (s : ByteArray) (w : World) (hs : s.size ≤ maxLen) :
    Calls Tryd.prog 16 #[.string s] w fun e w' => e = .returned (.tuple #[.int .i64 (Ch.number 16 6 s.data.toList).1, .bool (Ch.number 16 6 s.data.toList).2]) ∧ w' = w := by
  have h := number_any s 16 6 w hs (by decide) (by decide) (by decide) (by decide)
  generalize Ch.number 16 6 s.data.toList = p at h
  go_enter Tryd.func16, Tryd.ntmps16
  go_wp2_with (go_at_call 31; refine h.mono ?_; rintro e w' ⟨rfl, rfl⟩)
  go_ret2
  exact ⟨rfl, rfl⟩

end Go.Proofs.YtkacjjahbgdchaaDoor
