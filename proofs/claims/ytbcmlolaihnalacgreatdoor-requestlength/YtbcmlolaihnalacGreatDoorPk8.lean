/- Small texts, one behind the other: CsNumber, CsNum16, FdVals, CsCap. -/
import Derived.Test.YtbcmlolaihnalacGreatDoorPk7
import Derived.Test.YtbcmlolaihnalacGreatDoorPk4
import Derived.Test.YtbcmlolaihnalacGreatDoorPk1
import Derived.Test.YtbcmlolaihnalacGreatDoorPk3
import Derived.Test.YtbcmlolaihnalacGreatDoorPk2
import Derived.Test.YtbcmlolaihnalacGreatDoorProg
/- Package chars, walked: number. -/
namespace Go.Proofs.YtbcmlolaihnalacGreatDoor
open Go.RowKit

set_option maxHeartbeats 400000 in
theorem number_any (s : ByteArray) (base most : Int) (w : World) (hs : s.size ≤ maxLen) (hb0 : 2 ≤ base) (hb1 : base ≤ 16) (hm0 : 0 ≤ most) (hm1 : most ≤ 9) :
    Calls Tryz.prog 123 #[.string s, .int .i64 base, .int .i64 most] w fun e w' => e = .returned (.tuple #[.int .i64 (Ch.number base most s.data.toList).1, .bool (Ch.number base most s.data.toList).2]) ∧ w' = w := by
  unfold maxLen at hs
  by_cases h0 : s.size = 0
  · obtain rfl := Ch.empty_eq s h0
    go_enter Tryz.func123, Tryz.ntmps123
    go_wp2
    go_ret2
    exact ⟨ret_two (Ch.number_short _ _ _ (Or.inl rfl)), rfl⟩
  · have hne := Ch.isEmpty_false s (by omega)
    by_cases hlong : most < s.size
    · have HL : Hid (most < s.data.toList.length) := by unfold Hid; rw [Ch.len_list]; exact hlong
      go_enter Tryz.func123, Tryz.ntmps123
      go_wp2
      go_ret2
      exact ⟨ret_two (Ch.number_short _ _ _ (Or.inr HL.out)), rfl⟩
    · have hlg : decide (most < (s.size : Int)) = false := decide_eq_false hlong
      have HL : Hid (¬ most < s.data.toList.length) := by unfold Hid; rw [Ch.len_list]; exact hlong
      go_enter Tryz.func123, Tryz.ntmps123
      go_wp2
      go_loop [8, 21] (fun n i => ∃ k : Nat, k ≤ s.size ∧ i = .int .i64 k ∧ (s.data.toList.take k).all (Ch.dig base) = true ∧ n = .int .i64 (Ch.numOf base (s.data.toList.take k))) (fun _ i => s.size - (intOf i).toNat)
      case atStart => exact ⟨0, Nat.zero_le _, rfl, rfl, rfl⟩
      case round =>
        obtain ⟨k, hk, rfl, hall, rfl⟩ := hrel
        have HN : Hid ((s.data.toList.take k).all (Ch.dig base) = true) := hall
        have hbd := Ch.numOf_bound base (by omega) hb1 _ hall (by have : (s.data.toList.take k).length ≤ k := List.length_take_le _ _; omega)
        clear hall
        generalize hn : Ch.numOf base (s.data.toList.take k) = n at hbd
        have Hn : Hid (Ch.numOf base (s.data.toList.take k) = n) := hn
        clear hn
        have p0 : 0 ≤ n * base := Int.mul_nonneg hbd.1 (by omega)
        have p1 : n * base ≤ n * 16 := Int.mul_le_mul_of_nonneg_left hb1 hbd.1
        by_cases hlt : k < s.size
        · have hb := s[k].toNat_lt
          have hx := Ch.hex_byte s[k]
          by_cases hd : 0 ≤ Ch.hex s[k].toNat ∧ Ch.hex s[k].toNat < base
          · have HE : Hid (Ch.dig base s[k] = true) := by unfold Hid Ch.dig; rw [decide_eq_true hd.1, decide_eq_true hd.2]; rfl
            have hd1 : decide (Ch.hex s[k].toNat < 0) = false := decide_eq_false (by omega)
            have hd2 : decide (base ≤ Ch.hex s[k].toNat) = false := decide_eq_false (by omega)
            go_wp2_with (go_at_call 125; refine (hex_any _ _ (by omega) (by omega)).mono ?_; rintro e w' ⟨rfl, rfl⟩)
            go_round
            case rel => exact ⟨k + 1, by omega, by go_num, by rw [Ch.take_snoc s k hlt, Ch.all_snoc, HN.out, HE.out]; rfl, by rw [Ch.take_snoc s k hlt, Ch.numOf_snoc, Hn.out]⟩
            case measure => simp [intOf]; omega
          · have HE : Hid (Ch.dig base s[k] = false) := by
              unfold Hid Ch.dig
              by_cases hz : 0 ≤ Ch.hex s[k].toNat
              · rw [decide_eq_false (show ¬ Ch.hex s[k].toNat < base from fun h => hd ⟨hz, h⟩)]; simp
              · rw [decide_eq_false hz]; rfl
            by_cases hz : 0 ≤ Ch.hex s[k].toNat
            all_goals
              go_wp2_with (go_at_call 125; refine (hex_any _ _ (by omega) (by omega)).mono ?_; rintro e w' ⟨rfl, rfl⟩)
              all_goals first | omega | (go_ret2; exact ⟨ret_two (Ch.number_no _ _ _ (Ch.all_of_take _ s k hlt HE.out)), rfl⟩)
        · go_wp2
          go_ret2
          exact ⟨ret_two (by rw [← Hn.out, Ch.take_all s k (by omega)]; exact Ch.number_yes _ _ _ (Ch.ne_nil s (by omega)) (Int.not_lt.2 HL.out) (by rw [← HN.out, Ch.take_all s k (by omega)])), rfl⟩
end Go.Proofs.YtbcmlolaihnalacGreatDoor

/- Package chars, walked: HexNumber. -/
namespace Go.Proofs.YtbcmlolaihnalacGreatDoor
open Go.RowKit

set_option maxHeartbeats 400000 in
theorem number16_any (s : ByteArray) (w : World) (hs : s.size ≤ maxLen) :
    Calls Tryz.prog 147 #[.string s] w fun e w' => e = .returned (.tuple #[.int .i64 (Ch.number 16 6 s.data.toList).1, .bool (Ch.number 16 6 s.data.toList).2]) ∧ w' = w := by
  have h := number_any s 16 6 w hs (by decide) (by decide) (by decide) (by decide)
  generalize Ch.number 16 6 s.data.toList = p at h
  go_enter Tryz.func147, Tryz.ntmps147
  go_wp2_with (go_at_call 123; refine h.mono ?_; rintro e w' ⟨rfl, rfl⟩)
  go_ret2
  exact ⟨rfl, rfl⟩
end Go.Proofs.YtbcmlolaihnalacGreatDoor

/- Values of a name's fields, and a field that is told, as plain things and as values. -/
namespace Go.Proofs.YtbcmlolaihnalacGreatDoor
open Go.RowKit

theorem info_str : (Tryz.prog.info? 9).map (fun i => (i.zero, i.size, i.bytes)) = some (some (.string ⟨#[]⟩), 1, 16) := by kernel_rfl

/-- the values of a name's fields, in their order -/
def Fd.vals (name : ByteArray) (l : List (ByteArray × ByteArray)) : List ByteArray := (l.filter fun p => decide (Ch.lower p.1.data.toList = Ch.lower name.data.toList)).map (·.2)
theorem Fd.vals_snoc (name : ByteArray) (l : List (ByteArray × ByteArray)) (p : ByteArray × ByteArray) :
    Fd.vals name (l ++ [p]) = if Ch.lower p.1.data.toList = Ch.lower name.data.toList then Fd.vals name l ++ [p.2] else Fd.vals name l := by
  unfold Fd.vals
  rw [List.filter_append, List.map_append]
  by_cases h : Ch.lower p.1.data.toList = Ch.lower name.data.toList
  · rw [if_pos h]; simp [h]
  · rw [if_neg h]; simp [h]
theorem Fd.vals_length (name : ByteArray) (l : List (ByteArray × ByteArray)) : (Fd.vals name l).length ≤ l.length := by
  unfold Fd.vals; rw [List.length_map]; exact List.length_filter_le _ _

/-- the one value of a name's fields, or a code -/
def Fd.one (vs : List ByteArray) : List UInt8 × Nat :=
  match vs with
  | [] => ([], 10)
  | [v] => (v.data.toList, 0)
  | _ => ([], 9)

/-- what is told, as a value -/
def Fd.val (t : Fd.Told) : Value := .tuple #[.agg #[.string ⟨t.name.toArray⟩, .string ⟨t.value.toArray⟩], .int .i64 (t.code : Int)]
end Go.Proofs.YtbcmlolaihnalacGreatDoor

/- Package chars, walked: capital. -/
namespace Go.Proofs.YtbcmlolaihnalacGreatDoor
open Go.RowKit

set_option maxHeartbeats 400000 in
theorem capital_any (c : Int) (w : World) :
    Calls Tryz.prog 99 #[.int .u8 c] w fun e w' => e = .returned (.bool (Ch.capital c)) ∧ w' = w := by
  go_enter Tryz.func99, Tryz.ntmps99
  go_wp2
  all_goals go_ret
  all_goals refine ⟨ret_bool ?_, rfl⟩
  all_goals (simp [Ch.capital]; try omega)
end Go.Proofs.YtbcmlolaihnalacGreatDoor
