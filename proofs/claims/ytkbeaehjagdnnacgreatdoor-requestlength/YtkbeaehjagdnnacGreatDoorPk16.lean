/- Small texts, one behind the other: RfSmall, RfHexOf, RfOne, RfNumOf. -/
import Derived.Test.YtkbeaehjagdnnacGreatDoorBase
import Derived.Test.YtkbeaehjagdnnacGreatDoorPk1
import Derived.Test.YtkbeaehjagdnnacGreatDoorProg
/- The document's own answer, walked: Small. -/
namespace Go.Proofs.YtkbeaehjagdnnacGreatDoor
open Go.RowKit

set_option maxHeartbeats 400000 in
theorem small_any (s : ByteArray) (w : World) (hs : s.size ≤ 2000) :
    Calls Tryz.prog 47 #[.string s] w fun e w' => e = .returned (.string ⟨(Ch.lower s.data.toList).toArray⟩) ∧ ∃ n, w' = w.drewN n := by
  go_enter Tryz.func47, Tryz.ntmps47
  go_wp2
  go_loopw [3, 4] (fun o i wr => ∃ k n : Nat, ∃ x : ByteArray, k ≤ s.size ∧ i = .int .i64 k ∧ o = .string x ∧ x.data.toList = Ch.lower (s.data.toList.take k) ∧ wr = w.drewN n) (fun _ i _ => s.size - (intOf i).toNat)
  case atStart => exact ⟨0, 0, ⟨#[]⟩, Nat.zero_le _, rfl, rfl, rfl, rfl⟩
  case round =>
    obtain ⟨k, n, x, hk, rfl, rfl, hx, rfl⟩ := hrel
    have hxs : x.size ≤ 2000 := by
      have := Ch.size_of_list hx
      rw [Ch.lower_length] at this
      have h2 : (s.data.toList.take k).length ≤ k := List.length_take_le _ _
      omega
    have HX : Hid (x.data.toList = Ch.lower (s.data.toList.take k)) := hx
    clear hx
    by_cases hlt : k < s.size
    · go_wp2
      go_loopw [5, 6] (fun c i wr => ∃ j n : Nat, ∃ y : ByteArray, j ≤ 26 ∧ i = .int .i64 j ∧ c = .string y ∧ y.data.toList = [Ch.lowTo s[k] j] ∧ wr = w.drewN n) (fun _ i _ => 26 - (intOf i).toNat)
      case atStart => exact ⟨0, n, _, Nat.zero_le _, rfl, rfl, by rw [Ch.one_at s k hlt, Ch.lowTo_zero], rfl⟩
      case round =>
        obtain ⟨j, n, y, hj, rfl, rfl, hy, rfl⟩ := hrel
        have hys : y.size ≤ 1 := by have := Ch.size_of_list hy; simp at this; omega
        have HY : Hid (y.data.toList = [Ch.lowTo s[k] j]) := hy
        clear hy
        by_cases hlj : j < 26
        · go_wp2
          go_quiet (fail)
          go_wp2
          · have he : (((((⟨#[65, 66, 67, 68, 69, 70, 71, 72, 73, 74, 75, 76, 77, 78, 79, 80, 81, 82, 83, 84, 85, 86, 87, 88, 89, 90]⟩ : ByteArray)[j]'hlj).toNat : Nat) : Int) == (s[k].toNat : Int)) = true := by assumption
            go_roundw
            case rel => exact ⟨j + 1, n + nq, _, by omega, by go_num, rfl, Ch.lowTo_hit _ _ hlj he, by simp [World.drewN]⟩
            case measure => simp [intOf]; omega
          · have he : (((((⟨#[65, 66, 67, 68, 69, 70, 71, 72, 73, 74, 75, 76, 77, 78, 79, 80, 81, 82, 83, 84, 85, 86, 87, 88, 89, 90]⟩ : ByteArray)[j]'hlj).toNat : Nat) : Int) == (s[k].toNat : Int)) = false := by assumption
            go_roundw
            case rel => exact ⟨j + 1, n + nq, y, by omega, by go_num, rfl, by rw [HY.out, Ch.lowTo_miss _ _ hlj he], by simp [World.drewN]⟩
            case measure => simp [intOf]; omega
        · obtain rfl : j = 26 := by omega
          go_wp2
          go_roundw
          case rel => exact ⟨k + 1, n, x ++ y, by omega, by go_num, rfl, by rw [Ch.data_append, HX.out, HY.out, Ch.take_snoc s k hlt, Ch.lower_snoc]; rfl, rfl⟩
          case measure => simp [intOf]; omega
    · go_wp2
      go_ret
      exact ⟨ret_str (Ch.str_eq (by rw [HX.out, Ch.take_all s k (by omega)])), n, rfl⟩
end Go.Proofs.YtkbeaehjagdnnacGreatDoor

/- The document's own answer, walked: HexOf. -/
namespace Go.Proofs.YtkbeaehjagdnnacGreatDoor
open Go.RowKit

set_option maxHeartbeats 400000 in
theorem hexOf_any (b : UInt8) (w : World) :
    Calls Tryz.prog 49 #[.int .u8 b.toNat] w fun e w' => e = .returned (.int .i64 (Ch.hex b.toNat)) ∧ Below w.heap.size w w' := by
  have hb := b.toNat_lt
  have hconv : (convert 22 9 (.slice (some ⟨w.heap.size, 0, none⟩) 1 1)).run Tryz.prog (w.alloc (.cells #[.int .u8 b.toNat] 5)) = .ok (.string ⟨#[b]⟩) (w.alloc (.cells #[.int .u8 b.toNat] 5)) :=
    run_convert_bytes_back (P := Tryz.prog) (w.alloc (.cells #[.int .u8 b.toNat] 5)) 22 9 5 ⟨w.heap.size, 0, none⟩ 1 [b] Tryz.underlying22 Tryz.underlying5 Tryz.underlying9 (fun j hj => by
      obtain rfl : j = 0 := by simp at hj; exact hj
      rw [show ((⟨w.heap.size, 0, none⟩ : Addr).add 0) = ⟨w.heap.size, 0, none⟩ from rfl, World.cell?_alloc_at _ _ _ _ rfl]
      rfl)
  have hsm := small_any ⟨#[b]⟩ (w.alloc (.cells #[.int .u8 b.toNat] 5)) (by show 1 ≤ 2000; omega)
  rw [show (⟨(Ch.lower (⟨#[b]⟩ : ByteArray).data.toList).toArray⟩ : ByteArray) = ⟨#[Ch.lowB b]⟩ from rfl] at hsm
  have hB : Below w.heap.size w (w.alloc (.cells #[.int .u8 b.toNat] 5)) := (Below.refl _ _).alloc (Nat.le_refl _) _
  go_enter Tryz.func49, Tryz.ntmps49
  go_wp2_with fail
  refine hsm.mono ?_
  rintro e w1 ⟨rfl, nd, hw1⟩
  have hB1 : Below w.heap.size w w1 := by rw [hw1]; exact ⟨hB.os, hB.tape, hB.output, hB.size, hB.block⟩
  clear hw1 hB hsm hconv
  go_wp2
  go_loop [5] (fun i => ∃ j : Nat, j ≤ 16 ∧ i = .int .i64 j ∧ ∀ m, m < j → Ch.lowB b ≠ Ch.hexs.getD m 0) (fun i => 16 - (intOf i).toNat)
  case atStart => exact ⟨0, Nat.zero_le _, rfl, fun m hm => absurd hm (Nat.not_lt_zero _)⟩
  case round =>
    obtain ⟨j, hj, rfl, hno⟩ := hrel
    have HN : Hid (∀ m, m < j → Ch.lowB b ≠ Ch.hexs.getD m 0) := hno
    clear hno
    by_cases hlt : j < 16
    · have hpe := Ch.piece_eq b j hlt
      by_cases he : Ch.lowB b = Ch.hexs.getD j 0
      · rw [decide_eq_true he] at hpe
        have HE : Hid (Ch.hex b.toNat = j) := Ch.hexs_hit b j hlt he
        clear he
        go_wp2
        go_ret
        exact ⟨ret_int HE.out.symm, hB1⟩
      · rw [decide_eq_false he] at hpe
        have HE : Hid (Ch.lowB b ≠ Ch.hexs.getD j 0) := he
        clear he
        go_wp2
        go_round
        case rel => exact ⟨j + 1, by omega, by go_num, fun m hm => by
          rcases Nat.lt_or_ge m j with h | h
          · exact HN.out m h
          · obtain rfl : m = j := by omega
            exact HE.out⟩
        case measure => simp [intOf]; omega
    · have HE : Hid (Ch.hex b.toNat = -1) := Ch.hexs_miss b (fun m hm => HN.out m (by omega))
      go_wp2
      go_ret
      exact ⟨ret_int HE.out.symm, hB1⟩
end Go.Proofs.YtkbeaehjagdnnacGreatDoor

/- The document's own answer, walked: one. -/
namespace Go.Proofs.YtkbeaehjagdnnacGreatDoor
open Go.RowKit

set_option maxHeartbeats 400000 in
theorem one_any (c : Int) (s : ByteArray) (w : World) (hs : s.size ≤ maxLen) :
    Calls Tryz.prog 48 #[.int .u8 c, .string s] w fun e w' => e = .returned (.bool (Ch.oneOf c s.data.toList)) ∧ w' = w := by
  unfold maxLen at hs
  go_enter Tryz.func48, Tryz.ntmps48
  go_wp2
  go_loop [5] (fun i => ∃ k : Nat, k ≤ s.size ∧ i = .int .i64 k ∧ Ch.oneOf c (s.data.toList.take k) = false) (fun i => s.size - (intOf i).toNat)
  case atStart => exact ⟨0, Nat.zero_le _, rfl, rfl⟩
  case round =>
    obtain ⟨k, hk, rfl, hno⟩ := hrel
    have HN : Hid (Ch.oneOf c (s.data.toList.take k) = false) := hno
    clear hno
    by_cases hlt : k < s.size
    · by_cases he : ((s[k].toNat : Int)) = c
      · have HE : Hid ((s[k].toNat : Int) = c) := he
        have hb : (((s[k].toNat : Int)) == c) = true := beq_iff_eq.2 he
        clear he
        go_wp2
        go_ret
        refine ⟨ret_bool ?_, rfl⟩
        exact (Ch.any_of_take (fun b => (b.toNat : Int) == c) s k hlt (beq_iff_eq.2 HE.out)).symm
      · have hb : (((s[k].toNat : Int)) == c) = false := beq_eq_false_iff_ne.2 he
        have HB : Hid ((((s[k].toNat : Int)) == c) = false) := hb
        clear he
        go_wp2
        go_round
        case rel => exact ⟨k + 1, by omega, by go_num, by rw [Ch.take_snoc s k hlt, Ch.oneOf_snoc, HN.out, HB.out]; rfl⟩
        case measure => simp [intOf]; omega
    · go_wp2
      go_ret
      refine ⟨ret_bool ?_, rfl⟩
      rw [← HN.out, Ch.take_all s k (by omega)]
end Go.Proofs.YtkbeaehjagdnnacGreatDoor

/- The document's own answer, walked: NumberOf. -/
namespace Go.Proofs.YtkbeaehjagdnnacGreatDoor
open Go.RowKit

set_option maxHeartbeats 400000 in
theorem numberOf_any (s : ByteArray) (w : World) (hs : s.size ≤ maxLen) :
    Calls Tryz.prog 23 #[.string s] w fun e w' => e = .returned (.tuple #[.int .i64 (Ch.number 10 9 s.data.toList).1, .bool (Ch.number 10 9 s.data.toList).2]) ∧ Below w.heap.size w w' := by
  unfold maxLen at hs
  by_cases h0 : s.size = 0
  · obtain rfl := Ch.empty_eq s h0
    go_enter Tryz.func23, Tryz.ntmps23
    go_wp2
    go_ret2
    exact ⟨ret_two (Ch.number_short _ _ _ (Or.inl rfl)), Below.refl _ _⟩
  · have hpos : decide ((s.size : Int) < 1) = false := decide_eq_false (by omega)
    by_cases hlong : (9 : Int) < s.size
    · have HL : Hid ((9 : Int) < s.data.toList.length) := by unfold Hid; rw [Ch.len_list]; exact hlong
      go_enter Tryz.func23, Tryz.ntmps23
      go_wp2
      go_ret2
      exact ⟨ret_two (Ch.number_short _ _ _ (Or.inr HL.out)), Below.refl _ _⟩
    · have hlg : decide ((9 : Int) < (s.size : Int)) = false := decide_eq_false hlong
      have HL : Hid ((s.data.toList.length : Int) ≤ 9) := by unfold Hid; rw [Ch.len_list]; omega
      go_enter Tryz.func23, Tryz.ntmps23
      go_wp2
      go_loopw [4, 5] (fun n i wr => ∃ k : Nat, k ≤ s.size ∧ i = .int .i64 k ∧ (s.data.toList.take k).all (Ch.dig 10) = true ∧ n = .int .i64 (Ch.numOf 10 (s.data.toList.take k)) ∧ Below w.heap.size w wr) (fun _ i _ => s.size - (intOf i).toNat)
      case atStart => exact ⟨0, Nat.zero_le _, rfl, rfl, rfl, Below.refl _ _⟩
      case round =>
        obtain ⟨k, hk, rfl, hall, rfl, hbl⟩ := hrel
        have HN : Hid ((s.data.toList.take k).all (Ch.dig 10) = true) := hall
        have hbd := Ch.numOf_bound 10 (by omega) (by omega) _ hall (by have : (s.data.toList.take k).length ≤ k := List.length_take_le _ _; omega)
        clear hall
        generalize hn : Ch.numOf 10 (s.data.toList.take k) = n at hbd
        have Hn : Hid (Ch.numOf 10 (s.data.toList.take k) = n) := hn
        clear hn
        by_cases hlt : k < s.size
        · have hb := s[k].toNat_lt
          have hx := Ch.hex_byte s[k]
          have hone := fun wx => one_any (s[k].toNat : Int) ⟨#[48, 49, 50, 51, 52, 53, 54, 55, 56, 57]⟩ wx (by decide)
          have ho : Ch.oneOf (s[k].toNat : Int) (⟨#[48, 49, 50, 51, 52, 53, 54, 55, 56, 57]⟩ : ByteArray).data.toList = Ch.dig 10 s[k] := (Ch.digits_one _).trans (Ch.dig10 _).symm
          rw [ho] at hone
          clear ho
          have HO : Hid (∀ wx, Calls Tryz.prog 48 #[.int .u8 (s[k].toNat : Int), .string ⟨#[48, 49, 50, 51, 52, 53, 54, 55, 56, 57]⟩] wx fun e w' => e = .returned (.bool (Ch.dig 10 s[k])) ∧ w' = wx) := hone
          clear hone
          cases hd : Ch.dig 10 s[k]
          · have HE : Hid (Ch.dig 10 s[k] = false) := hd
            go_wp2_with fail
            refine (HO.out _).mono ?_
            rintro e w1 ⟨rfl, rfl⟩
            go_wp2
            go_ret2
            exact ⟨ret_two (Ch.number_no _ _ _ (Ch.all_of_take _ s k hlt HE.out)), hbl⟩
          · have HE : Hid (Ch.dig 10 s[k] = true) := hd
            have hx2 : 0 ≤ Ch.hex s[k].toNat := by
              unfold Ch.dig at hd; rw [Bool.and_eq_true] at hd; exact of_decide_eq_true hd.1
            go_wp2_with fail
            refine (HO.out _).mono ?_
            rintro e w1 ⟨rfl, rfl⟩
            go_wp2_with fail
            refine (hexOf_any s[k] _).mono ?_
            rintro e w2 ⟨rfl, hb2⟩
            go_wp2
            go_roundw
            case rel => exact ⟨k + 1, by omega, by go_num, by rw [Ch.take_snoc s k hlt, Ch.all_snoc, HN.out, HE.out]; rfl, by rw [Ch.take_snoc s k hlt, Ch.numOf_snoc, Hn.out, Int.mul_comm], hbl.trans (hb2.mono hbl.size)⟩
            case measure => simp [intOf]; omega
        · go_wp2
          go_ret2
          exact ⟨ret_two (by rw [← Hn.out, Ch.take_all s k (by omega)]; exact Ch.number_yes _ _ _ (Ch.ne_nil s (by omega)) (Int.not_lt.2 HL.out) (by rw [← HN.out, Ch.take_all s k (by omega)])), hbl⟩
end Go.Proofs.YtkbeaehjagdnnacGreatDoor
