/- Small texts, one behind the other: RfSmall, RfHexOf, RfOne, RfNumOf, RfTokB, RfScan, RfSeen, RfSeenT, ParL, RfNum, CsVis, CsAllV. -/
import Derived.Test.YtdclmpdjjkjfjaaGreatDoorBase
import Derived.Test.YtdclmpdjjkjfjaaGreatDoorPk1
import Derived.Test.YtdclmpdjjkjfjaaGreatDoorProg
/- The document's own answer, walked: Small. -/
namespace Go.Proofs.YtdclmpdjjkjfjaaGreatDoor
open Go.RowKit

set_option maxHeartbeats 400000 in
theorem small_any (s : ByteArray) (w : World) (hs : s.size ≤ 2000) :
    Calls Tryz.prog 67 #[.string s] w fun e w' => e = .returned (.string ⟨(Ch.lower s.data.toList).toArray⟩) ∧ ∃ n, w' = w.drewN n := by
  go_enter Tryz.func67, Tryz.ntmps67
  go_wp2
  go_loopw [3, 4] (fun o i wr => ∃ k n : Nat, ∃ x : ByteArray, k ≤ s.size ∧ i = .int .i64 k ∧ o = .string x ∧ x.data.toList = Ch.lower (s.data.toList.take k) ∧ wr = w.drewN n) (fun _ i _ => s.size - (intOf i).toNat)
  case atStart => exact ⟨0, 0, ⟨#[]⟩, Nat.zero_le _, rfl, rfl, rfl, rfl⟩
  case round =>
    obtain ⟨k, n, x, hk, rfl, rfl, hx, rfl⟩ := hrel
    have hxs : x.size ≤ 2000 := by
      have := Ch.size_of_list hx
      rw [Ch.lower_length] at this
      have h2 : (s.data.toList.take k).length ≤ k := List.length_take_le _ _
      omega
    have HX : Hid (x.data.toList = Ch.lower (s.data.toList.take k)) := hx
    clear hx
    by_cases hlt : k < s.size
    · go_wp2
      go_loopw [5, 6] (fun c i wr => ∃ j n : Nat, ∃ y : ByteArray, j ≤ 26 ∧ i = .int .i64 j ∧ c = .string y ∧ y.data.toList = [Ch.lowTo s[k] j] ∧ wr = w.drewN n) (fun _ i _ => 26 - (intOf i).toNat)
      case atStart => exact ⟨0, n, _, Nat.zero_le _, rfl, rfl, by rw [Ch.one_at s k hlt, Ch.lowTo_zero], rfl⟩
      case round =>
        obtain ⟨j, n, y, hj, rfl, rfl, hy, rfl⟩ := hrel
        have hys : y.size ≤ 1 := by have := Ch.size_of_list hy; simp at this; omega
        have HY : Hid (y.data.toList = [Ch.lowTo s[k] j]) := hy
        clear hy
        by_cases hlj : j < 26
        · go_wp2
          go_quiet (fail)
          go_wp2
          · have he : (((((⟨#[65, 66, 67, 68, 69, 70, 71, 72, 73, 74, 75, 76, 77, 78, 79, 80, 81, 82, 83, 84, 85, 86, 87, 88, 89, 90]⟩ : ByteArray)[j]'hlj).toNat : Nat) : Int) == (s[k].toNat : Int)) = true := by assumption
            go_roundw
            case rel => exact ⟨j + 1, n + nq, _, by omega, by go_num, rfl, Ch.lowTo_hit _ _ hlj he, by simp [World.drewN]⟩
            case measure => simp [intOf]; omega
          · have he : (((((⟨#[65, 66, 67, 68, 69, 70, 71, 72, 73, 74, 75, 76, 77, 78, 79, 80, 81, 82, 83, 84, 85, 86, 87, 88, 89, 90]⟩ : ByteArray)[j]'hlj).toNat : Nat) : Int) == (s[k].toNat : Int)) = false := by assumption
            go_roundw
            case rel => exact ⟨j + 1, n + nq, y, by omega, by go_num, rfl, by rw [HY.out, Ch.lowTo_miss _ _ hlj he], by simp [World.drewN]⟩
            case measure => simp [intOf]; omega
        · obtain rfl : j = 26 := by omega
          go_wp2
          go_roundw
          case rel => exact ⟨k + 1, n, x ++ y, by omega, by go_num, rfl, by rw [Ch.data_append, HX.out, HY.out, Ch.take_snoc s k hlt, Ch.lower_snoc]; rfl, rfl⟩
          case measure => simp [intOf]; omega
    · go_wp2
      go_ret
      exact ⟨ret_str (Ch.str_eq (by rw [HX.out, Ch.take_all s k (by omega)])), n, rfl⟩
end Go.Proofs.YtdclmpdjjkjfjaaGreatDoor

/- The document's own answer, walked: HexOf. -/
namespace Go.Proofs.YtdclmpdjjkjfjaaGreatDoor
open Go.RowKit

set_option maxHeartbeats 400000 in
theorem hexOf_any (b : UInt8) (w : World) :
    Calls Tryz.prog 43 #[.int .u8 b.toNat] w fun e w' => e = .returned (.int .i64 (Ch.hex b.toNat)) ∧ Below w.heap.size w w' := by
  have hb := b.toNat_lt
  have hconv : (convert 30 9 (.slice (some ⟨w.heap.size, 0, none⟩) 1 1)).run Tryz.prog (w.alloc (.cells #[.int .u8 b.toNat] 5)) = .ok (.string ⟨#[b]⟩) (w.alloc (.cells #[.int .u8 b.toNat] 5)) :=
    run_convert_bytes_back (P := Tryz.prog) (w.alloc (.cells #[.int .u8 b.toNat] 5)) 30 9 5 ⟨w.heap.size, 0, none⟩ 1 [b] Tryz.underlying30 Tryz.underlying5 Tryz.underlying9 (fun j hj => by
      obtain rfl : j = 0 := by simp at hj; exact hj
      rw [show ((⟨w.heap.size, 0, none⟩ : Addr).add 0) = ⟨w.heap.size, 0, none⟩ from rfl, World.cell?_alloc_at _ _ _ _ rfl]
      rfl)
  have hsm := small_any ⟨#[b]⟩ (w.alloc (.cells #[.int .u8 b.toNat] 5)) (by show 1 ≤ 2000; omega)
  rw [show (⟨(Ch.lower (⟨#[b]⟩ : ByteArray).data.toList).toArray⟩ : ByteArray) = ⟨#[Ch.lowB b]⟩ from rfl] at hsm
  have hB : Below w.heap.size w (w.alloc (.cells #[.int .u8 b.toNat] 5)) := (Below.refl _ _).alloc (Nat.le_refl _) _
  go_enter Tryz.func43, Tryz.ntmps43
  go_wp2_with fail
  refine hsm.mono ?_
  rintro e w1 ⟨rfl, nd, hw1⟩
  have hB1 : Below w.heap.size w w1 := by rw [hw1]; exact ⟨hB.os, hB.tape, hB.output, hB.size, hB.block⟩
  clear hw1 hB hsm hconv
  go_wp2
  go_loop [5] (fun i => ∃ j : Nat, j ≤ 16 ∧ i = .int .i64 j ∧ ∀ m, m < j → Ch.lowB b ≠ Ch.hexs.getD m 0) (fun i => 16 - (intOf i).toNat)
  case atStart => exact ⟨0, Nat.zero_le _, rfl, fun m hm => absurd hm (Nat.not_lt_zero _)⟩
  case round =>
    obtain ⟨j, hj, rfl, hno⟩ := hrel
    have HN : Hid (∀ m, m < j → Ch.lowB b ≠ Ch.hexs.getD m 0) := hno
    clear hno
    by_cases hlt : j < 16
    · have hpe := Ch.piece_eq b j hlt
      by_cases he : Ch.lowB b = Ch.hexs.getD j 0
      · rw [decide_eq_true he] at hpe
        have HE : Hid (Ch.hex b.toNat = j) := Ch.hexs_hit b j hlt he
        clear he
        go_wp2
        go_ret
        exact ⟨ret_int HE.out.symm, hB1⟩
      · rw [decide_eq_false he] at hpe
        have HE : Hid (Ch.lowB b ≠ Ch.hexs.getD j 0) := he
        clear he
        go_wp2
        go_round
        case rel => exact ⟨j + 1, by omega, by go_num, fun m hm => by
          rcases Nat.lt_or_ge m j with h | h
          · exact HN.out m h
          · obtain rfl : m = j := by omega
            exact HE.out⟩
        case measure => simp [intOf]; omega
    · have HE : Hid (Ch.hex b.toNat = -1) := Ch.hexs_miss b (fun m hm => HN.out m (by omega))
      go_wp2
      go_ret
      exact ⟨ret_int HE.out.symm, hB1⟩
end Go.Proofs.YtdclmpdjjkjfjaaGreatDoor

/- The document's own answer, walked: one. -/
namespace Go.Proofs.YtdclmpdjjkjfjaaGreatDoor
open Go.RowKit

set_option maxHeartbeats 400000 in
theorem one_any (c : Int) (s : ByteArray) (w : World) (hs : s.size ≤ maxLen) :
    Calls Tryz.prog 42 #[.int .u8 c, .string s] w fun e w' => e = .returned (.bool (Ch.oneOf c s.data.toList)) ∧ w' = w := by
  unfold maxLen at hs
  go_enter Tryz.func42, Tryz.ntmps42
  go_wp2
  go_loop [5] (fun i => ∃ k : Nat, k ≤ s.size ∧ i = .int .i64 k ∧ Ch.oneOf c (s.data.toList.take k) = false) (fun i => s.size - (intOf i).toNat)
  case atStart => exact ⟨0, Nat.zero_le _, rfl, rfl⟩
  case round =>
    obtain ⟨k, hk, rfl, hno⟩ := hrel
    have HN : Hid (Ch.oneOf c (s.data.toList.take k) = false) := hno
    clear hno
    by_cases hlt : k < s.size
    · by_cases he : ((s[k].toNat : Int)) = c
      · have HE : Hid ((s[k].toNat : Int) = c) := he
        have hb : (((s[k].toNat : Int)) == c) = true := beq_iff_eq.2 he
        clear he
        go_wp2
        go_ret
        refine ⟨ret_bool ?_, rfl⟩
        exact (Ch.any_of_take (fun b => (b.toNat : Int) == c) s k hlt (beq_iff_eq.2 HE.out)).symm
      · have hb : (((s[k].toNat : Int)) == c) = false := beq_eq_false_iff_ne.2 he
        have HB : Hid ((((s[k].toNat : Int)) == c) = false) := hb
        clear he
        go_wp2
        go_round
        case rel => exact ⟨k + 1, by omega, by go_num, by rw [Ch.take_snoc s k hlt, Ch.oneOf_snoc, HN.out, HB.out]; rfl⟩
        case measure => simp [intOf]; omega
    · go_wp2
      go_ret
      refine ⟨ret_bool ?_, rfl⟩
      rw [← HN.out, Ch.take_all s k (by omega)]
end Go.Proofs.YtdclmpdjjkjfjaaGreatDoor

/- The document's own answer, walked: NumberOf. -/
namespace Go.Proofs.YtdclmpdjjkjfjaaGreatDoor
open Go.RowKit

set_option maxHeartbeats 400000 in
theorem numberOf_any (s : ByteArray) (w : World) (hs : s.size ≤ maxLen) :
    Calls Tryz.prog 19 #[.string s] w fun e w' => e = .returned (.tuple #[.int .i64 (Ch.number 10 9 s.data.toList).1, .bool (Ch.number 10 9 s.data.toList).2]) ∧ Below w.heap.size w w' := by
  unfold maxLen at hs
  by_cases h0 : s.size = 0
  · obtain rfl := Ch.empty_eq s h0
    go_enter Tryz.func19, Tryz.ntmps19
    go_wp2
    go_ret2
    exact ⟨ret_two (Ch.number_short _ _ _ (Or.inl rfl)), Below.refl _ _⟩
  · have hpos : decide ((s.size : Int) < 1) = false := decide_eq_false (by omega)
    by_cases hlong : (9 : Int) < s.size
    · have HL : Hid ((9 : Int) < s.data.toList.length) := by unfold Hid; rw [Ch.len_list]; exact hlong
      go_enter Tryz.func19, Tryz.ntmps19
      go_wp2
      go_ret2
      exact ⟨ret_two (Ch.number_short _ _ _ (Or.inr HL.out)), Below.refl _ _⟩
    · have hlg : decide ((9 : Int) < (s.size : Int)) = false := decide_eq_false hlong
      have HL : Hid ((s.data.toList.length : Int) ≤ 9) := by unfold Hid; rw [Ch.len_list]; omega
      go_enter Tryz.func19, Tryz.ntmps19
      go_wp2
      go_loopw [4, 5] (fun n i wr => ∃ k : Nat, k ≤ s.size ∧ i = .int .i64 k ∧ (s.data.toList.take k).all (Ch.dig 10) = true ∧ n = .int .i64 (Ch.numOf 10 (s.data.toList.take k)) ∧ Below w.heap.size w wr) (fun _ i _ => s.size - (intOf i).toNat)
      case atStart => exact ⟨0, Nat.zero_le _, rfl, rfl, rfl, Below.refl _ _⟩
      case round =>
        obtain ⟨k, hk, rfl, hall, rfl, hbl⟩ := hrel
        have HN : Hid ((s.data.toList.take k).all (Ch.dig 10) = true) := hall
        have hbd := Ch.numOf_bound 10 (by omega) (by omega) _ hall (by have : (s.data.toList.take k).length ≤ k := List.length_take_le _ _; omega)
        clear hall
        generalize hn : Ch.numOf 10 (s.data.toList.take k) = n at hbd
        have Hn : Hid (Ch.numOf 10 (s.data.toList.take k) = n) := hn
        clear hn
        by_cases hlt : k < s.size
        · have hb := s[k].toNat_lt
          have hx := Ch.hex_byte s[k]
          have hone := fun wx => one_any (s[k].toNat : Int) ⟨#[48, 49, 50, 51, 52, 53, 54, 55, 56, 57]⟩ wx (by decide)
          have ho : Ch.oneOf (s[k].toNat : Int) (⟨#[48, 49, 50, 51, 52, 53, 54, 55, 56, 57]⟩ : ByteArray).data.toList = Ch.dig 10 s[k] := (Ch.digits_one _).trans (Ch.dig10 _).symm
          rw [ho] at hone
          clear ho
          have HO : Hid (∀ wx, Calls Tryz.prog 42 #[.int .u8 (s[k].toNat : Int), .string ⟨#[48, 49, 50, 51, 52, 53, 54, 55, 56, 57]⟩] wx fun e w' => e = .returned (.bool (Ch.dig 10 s[k])) ∧ w' = wx) := hone
          clear hone
          cases hd : Ch.dig 10 s[k]
          · have HE : Hid (Ch.dig 10 s[k] = false) := hd
            go_wp2_with fail
            refine (HO.out _).mono ?_
            rintro e w1 ⟨rfl, rfl⟩
            go_wp2
            go_ret2
            exact ⟨ret_two (Ch.number_no _ _ _ (Ch.all_of_take _ s k hlt HE.out)), hbl⟩
          · have HE : Hid (Ch.dig 10 s[k] = true) := hd
            have hx2 : 0 ≤ Ch.hex s[k].toNat := by
              unfold Ch.dig at hd; rw [Bool.and_eq_true] at hd; exact of_decide_eq_true hd.1
            go_wp2_with fail
            refine (HO.out _).mono ?_
            rintro e w1 ⟨rfl, rfl⟩
            go_wp2_with fail
            refine (hexOf_any s[k] _).mono ?_
            rintro e w2 ⟨rfl, hb2⟩
            go_wp2
            go_roundw
            case rel => exact ⟨k + 1, by omega, by go_num, by rw [Ch.take_snoc s k hlt, Ch.all_snoc, HN.out, HE.out]; rfl, by rw [Ch.take_snoc s k hlt, Ch.numOf_snoc, Hn.out, Int.mul_comm], hbl.trans (hb2.mono hbl.size)⟩
            case measure => simp [intOf]; omega
        · go_wp2
          go_ret2
          exact ⟨ret_two (by rw [← Hn.out, Ch.take_all s k (by omega)]; exact Ch.number_yes _ _ _ (Ch.ne_nil s (by omega)) (Int.not_lt.2 HL.out) (by rw [← HN.out, Ch.take_all s k (by omega)])), hbl⟩
end Go.Proofs.YtdclmpdjjkjfjaaGreatDoor

/- The document's own answer, walked: IsTokenByte. -/
namespace Go.Proofs.YtdclmpdjjkjfjaaGreatDoor
open Go.RowKit

set_option maxHeartbeats 1000000 in
theorem isTokenByte_any (c : Int) (w : World) (h0 : 0 ≤ c) (h1 : c ≤ 255) :
    Calls Tryz.prog 126 #[.int .u8 c] w fun e w' => e = .returned (.bool (Ch.token c)) ∧ w' = w := by
  have HT : Hid (Ch.oneOf c Ch.tokens = Ch.token c) := Ch.oneOf_tokens c h0 h1
  have hm := one_any c ⟨Ch.tokens.toArray⟩ w (by decide)
  go_enter Tryz.func126, Tryz.ntmps126
  go_wp2_with fail
  refine hm.mono ?_
  rintro e w' ⟨rfl, rfl⟩
  go_wp2
  go_ret
  exact ⟨ret_bool HT.out, rfl⟩
end Go.Proofs.YtdclmpdjjkjfjaaGreatDoor

/- The document's own answer, walked: blanks, word. -/
namespace Go.Proofs.YtdclmpdjjkjfjaaGreatDoor
open Go.RowKit

theorem list_at (s : ByteArray) (k : Nat) (h : k < s.size) : s.data.toList[k]'(by rw [Array.length_toList]; exact h) = s[k] := by simp [ByteArray.getElem_eq_getElem_data]

set_option maxHeartbeats 800000 in
theorem blanks_any (s : ByteArray) (i : Nat) (w : World) (hs : s.size ≤ 1000000) (hi : i ≤ s.size) :
    Calls Tryz.prog 92 #[.string s, .int .i64 i] w fun e w' => e = .returned (.int .i64 (Pm.blanks s.data.toList i)) ∧ w' = w := by
  have hl : s.data.toList.length = s.size := by rw [Array.length_toList]; rfl
  have HL := Hid.mk' hl
  clear hl
  go_enter Tryz.func92, Tryz.ntmps92
  go_wp2
  go_loop [1] (fun t => ∃ k : Nat, k ≤ s.size ∧ t = .int .i64 k ∧ Pm.blanks s.data.toList i = Pm.blanks s.data.toList k) (fun t => s.size - (intOf t).toNat)
  case atStart => exact ⟨i, hi, rfl, rfl⟩
  case round =>
    obtain ⟨k, hk, rfl, hg⟩ := hrel
    have HG := Hid.mk' hg
    clear hg
    by_cases hlt : k < s.size
    · have HLL : Hid (k < s.data.toList.length) := by unfold Hid; rw [HL.out]; exact hlt
      have hat := list_at s k hlt
      have hlt' : (k : Int) < s.size := by omega
      have tl : decide ((k : Int) < s.size) = true := by rw [decide_eq_true_eq]; omega
      cases hb : Pm.blank s[k]
      · have HR : Hid (Pm.blanks s.data.toList i = k) := by
          refine HG.out.trans ?_
          unfold Pm.blanks; rw [Pm.run_stop HLL.out (by rw [hat]; exact hb)]; rfl
        unfold Pm.blank at hb
        rw [Bool.or_eq_false_iff, beq_eq_false_iff_ne, beq_eq_false_iff_ne] at hb
        have b1 : ((s[k].toNat : Int) == 32) = false := byte_ne' hb.1
        have b2 : ((s[k].toNat : Int) == 9) = false := byte_ne' hb.2
        have n1 : ¬ (s[k].toNat : Int) = 32 := beq_eq_false_iff_ne.1 b1
        have n2 : ¬ (s[k].toNat : Int) = 9 := beq_eq_false_iff_ne.1 b2
        clear hat hb
        go_wp2
        case roundEnd =>
          exfalso
          have hx : ((s[k].toNat : Int) == 32) = true ∨ ((s[k].toNat : Int) == 9) = true := by assumption
          rw [b1, b2] at hx
          rcases hx with hx | hx <;> cases hx
        go_ret
        exact ⟨ret_int (by rw [HR.out]), rfl⟩
      · have HR : Hid (Pm.blanks s.data.toList i = Pm.blanks s.data.toList (k + 1)) := by
          refine HG.out.trans ?_
          unfold Pm.blanks; rw [Pm.run_step HLL.out (by rw [hat]; exact hb)]; omega
        unfold Pm.blank at hb
        rw [Bool.or_eq_true, beq_iff_eq, beq_iff_eq] at hb
        by_cases h32 : s[k] = 32
        · have b1 : ((s[k].toNat : Int) == 32) = true := by rw [h32]; rfl
          have n1 : (s[k].toNat : Int) = 32 := beq_iff_eq.1 b1
          clear hat hb h32 b1
          go_wp2
          go_round
          case rel => exact ⟨k + 1, by omega, by go_num, HR.out⟩
          case measure => simp [intOf]; omega
        · have b1 : ((s[k].toNat : Int) == 32) = false := byte_ne' h32
          have b2 : ((s[k].toNat : Int) == 9) = true := by rw [hb.resolve_left h32]; rfl
          have n1 : ¬ (s[k].toNat : Int) = 32 := beq_eq_false_iff_ne.1 b1
          clear hat hb h32
          go_wp2
          case roundEnd =>
            go_round
            case rel => exact ⟨k + 1, by omega, by go_num, HR.out⟩
            case measure => simp [intOf]; omega
          exfalso
          have hx : ((s[k].toNat : Int) == 32) = false ∧ ((s[k].toNat : Int) == 9) = false := by assumption
          rw [b2] at hx
          cases hx.2
    · obtain rfl : k = s.size := by omega
      have HR : Hid (Pm.blanks s.data.toList i = s.size) := by
        refine HG.out.trans ?_
        unfold Pm.blanks; rw [Pm.run_end _ (by rw [HL.out]; exact Nat.le_refl _)]; rfl
      go_wp2
      go_ret
      exact ⟨ret_int (by rw [HR.out]), rfl⟩

set_option maxHeartbeats 800000 in
theorem word_any (s : ByteArray) (i : Nat) (w : World) (hs : s.size ≤ 1000000) (hi : i ≤ s.size) :
    Calls Tryz.prog 93 #[.string s, .int .i64 i] w fun e w' => e = .returned (.int .i64 (Pm.word s.data.toList i)) ∧ w' = w := by
  have hl : s.data.toList.length = s.size := by rw [Array.length_toList]; rfl
  have HL := Hid.mk' hl
  clear hl
  go_enter Tryz.func93, Tryz.ntmps93
  go_wp2
  go_loop [5] (fun t => ∃ n : Nat, i + n ≤ s.size ∧ t = .int .i64 n ∧ Pm.word s.data.toList i = n + Pm.word s.data.toList (i + n)) (fun t => s.size - (intOf t).toNat)
  case atStart => exact ⟨0, hi, rfl, by rw [Nat.zero_add]; rfl⟩
  case round =>
    obtain ⟨n, hn, rfl, hg⟩ := hrel
    have HG := Hid.mk' hg
    clear hg
    by_cases hlt : i + n < s.size
    · have HLL : Hid (i + n < s.data.toList.length) := by unfold Hid; rw [HL.out]; exact hlt
      have hat := list_at s (i + n) hlt
      have hlt' : (i : Int) + n < s.size := by omega
      have tl : decide ((i : Int) + n < s.size) = true := by rw [decide_eq_true_eq]; omega
      have hb := s[i + n].toNat_lt
      have HT := Hid.mk' (isTokenByte_any (s[i + n].toNat : Int) w (by omega) (by omega))
      cases ht : Ch.token (s[i + n].toNat : Int)
      · have HR : Hid (Pm.word s.data.toList i = n) := by
          refine HG.out.trans ?_
          unfold Pm.word; rw [Pm.run_stop HLL.out (by rw [hat]; exact ht)]; rfl
        rw [ht] at HT
        clear hat ht
        go_wp2_with fail
        refine HT.out.mono ?_
        rintro e w1 ⟨rfl, hw⟩
        subst hw
        go_wp2
        go_ret
        exact ⟨ret_int (by rw [HR.out]), rfl⟩
      · have HR : Hid (Pm.word s.data.toList i = (n + 1) + Pm.word s.data.toList (i + (n + 1))) := by
          refine HG.out.trans ?_
          unfold Pm.word; rw [Pm.run_step HLL.out (by rw [hat]; exact ht), ← Nat.add_assoc i n 1]; omega
        rw [ht] at HT
        clear hat ht
        go_wp2_with fail
        refine HT.out.mono ?_
        rintro e w1 ⟨rfl, hw⟩
        subst hw
        go_wp2
        go_round
        case rel => exact ⟨n + 1, by omega, by go_num, HR.out⟩
        case measure => simp [intOf]; omega
    · have ht : decide ((i : Int) + n < s.size) = false := by rw [decide_eq_false_iff_not]; omega
      have HR : Hid (Pm.word s.data.toList i = n) := by
        refine HG.out.trans ?_
        unfold Pm.word; rw [Pm.run_end _ (by rw [HL.out]; omega)]; rfl
      go_wp2
      go_ret
      exact ⟨ret_int (by rw [HR.out]), rfl⟩
end Go.Proofs.YtdclmpdjjkjfjaaGreatDoor

/- The document's own answer, walked: IsSeen. -/
namespace Go.Proofs.YtdclmpdjjkjfjaaGreatDoor
open Go.RowKit

set_option maxHeartbeats 400000 in
theorem isSeen_any (c : Int) (w : World) :
    Calls Tryz.prog 125 #[.int .u8 c] w fun e w' => e = .returned (.bool (Ch.visible c)) ∧ w' = w := by
  by_cases h9 : c = 9
  · subst h9
    go_enter Tryz.func125, Tryz.ntmps125
    go_wp2
    go_ret
    exact ⟨ret_bool (by decide), rfl⟩
  · have h9' : (c == 9) = false := beq_eq_false_iff_ne.2 h9
    go_enter Tryz.func125, Tryz.ntmps125
    go_wp2
    all_goals go_ret
    all_goals refine ⟨ret_bool ?_, rfl⟩
    all_goals (unfold Ch.visible; rw [h9']; first | (rw [decide_eq_true (show 32 ≤ c by omega)]; simp) | (rw [decide_eq_false (show ¬ 32 ≤ c by omega)]; simp))
end Go.Proofs.YtdclmpdjjkjfjaaGreatDoor

/- The document's own answer, walked: SeenText. -/
namespace Go.Proofs.YtdclmpdjjkjfjaaGreatDoor
open Go.RowKit

set_option maxHeartbeats 400000 in
theorem seenText_any (s : ByteArray) (w : World) (hs : s.size ≤ maxLen) :
    Calls Tryz.prog 91 #[.string s] w fun e w' => e = .returned (.bool (Ch.isVisible s.data.toList)) ∧ w' = w := by
  unfold maxLen at hs
  go_enter Tryz.func91, Tryz.ntmps91
  go_wp2
  go_loop [3] (fun i => ∃ k : Nat, k ≤ s.size ∧ i = .int .i64 k ∧ ((s.data.toList.take k).all fun b => Ch.visible b.toNat) = true) (fun i => s.size - (intOf i).toNat)
  case atStart => exact ⟨0, Nat.zero_le _, rfl, rfl⟩
  case round =>
    obtain ⟨k, hk, rfl, hno⟩ := hrel
    have HN : Hid (((s.data.toList.take k).all fun b => Ch.visible b.toNat) = true) := hno
    clear hno
    by_cases hlt : k < s.size
    · have hb := s[k].toNat_lt
      cases he : Ch.visible (s[k].toNat : Int)
      · have HE : Hid (Ch.visible (s[k].toNat : Int) = false) := he
        go_wp2_with (go_at_call 125; refine (isSeen_any _ _).mono ?_; rintro e w' ⟨rfl, rfl⟩)
        go_ret
        refine ⟨ret_bool ?_, rfl⟩
        exact (Ch.all_of_take (fun b => Ch.visible b.toNat) s k hlt HE.out).symm
      · have HE : Hid (Ch.visible (s[k].toNat : Int) = true) := he
        go_wp2_with (go_at_call 125; refine (isSeen_any _ _).mono ?_; rintro e w' ⟨rfl, rfl⟩)
        go_round
        case rel => exact ⟨k + 1, by omega, by go_num, by rw [Ch.take_snoc s k hlt, Ch.all_snoc, HN.out, HE.out]; rfl⟩
        case measure => simp [intOf]; omega
    · go_wp2
      go_ret
      refine ⟨ret_bool ?_, rfl⟩
      unfold Ch.isVisible
      rw [← HN.out, Ch.take_all s k (by omega)]
end Go.Proofs.YtdclmpdjjkjfjaaGreatDoor

/- Parameters as they lie in memory, as plain texts. -/
namespace Go.Proofs.YtdclmpdjjkjfjaaGreatDoor
open Go.RowKit

theorem info_param : (Tryz.prog.info? 133).map (fun i => (i.zero, i.size, i.bytes)) = some (some (.agg #[.string ⟨#[]⟩, .string ⟨#[]⟩]), 2, 32) := by kernel_rfl

theorem same_text (a b : ByteArray) : (a.toList == b.toList) = decide (a.data.toList = b.data.toList) := by
  rw [Lib.toList_data, Lib.toList_data, Bool.eq_iff_iff]; simp
/-- parameters as plain texts -/
def parL (ps : List (ByteArray × ByteArray)) : List Pm.Par := ps.map fun p => (p.1.data.toList, p.2.data.toList)
theorem parL_length (ps : List (ByteArray × ByteArray)) : (parL ps).length = ps.length := by simp [parL]
theorem parL_append (a b : List (ByteArray × ByteArray)) : parL (a ++ b) = parL a ++ parL b := by simp [parL]
theorem parL_any {ps : List (ByteArray × ByteArray)} {nm : ByteArray} {k : Nat} (hk : k < ps.length) (h : ps[k].1.data.toList = nm.data.toList) : ((parL ps).any fun q => q.1 == nm.data.toList) = true := by
  rw [List.any_eq_true]
  exact ⟨_, List.mem_map.2 ⟨ps[k], List.getElem_mem hk, rfl⟩, by simp [h]⟩
theorem parL_none {ps : List (ByteArray × ByteArray)} {nm : ByteArray} (h : ∀ p ∈ ps, p.1.data.toList ≠ nm.data.toList) : ((parL ps).any fun q => q.1 == nm.data.toList) = false := by
  rw [List.any_eq_false]
  intro q hq
  obtain ⟨p, hp, rfl⟩ := List.mem_map.1 hq
  simpa using h p hp
end Go.Proofs.YtdclmpdjjkjfjaaGreatDoor

/- The document's own answer, walked: Num. -/
namespace Go.Proofs.YtdclmpdjjkjfjaaGreatDoor
open Go.RowKit

set_option maxHeartbeats 400000 in
theorem num_f (f : Nat) : ∀ (n : Nat) (w : World), n < 10 ^ (f + 1) → n < 4611686018427387904 → f < 30 →
    Calls Tryz.prog 21 #[.int .i64 n] w fun e w' => e = .returned (.string ⟨(Ch.decF f n).toArray⟩) ∧ ∃ m, w' = w.drewN m := by
  induction f with
  | zero =>
    intro n w hn _ _
    have hn' : n < 10 := by simpa using hn
    have HD : Hid (((⟨#[48, 49, 50, 51, 52, 53, 54, 55, 56, 57]⟩ : ByteArray).extract n (n + 1)) = ⟨(Ch.decF 0 n).toArray⟩) := Ch.str_eq (Ch.digs_at n hn')
    clear hn
    go_enter Tryz.func21, Tryz.ntmps21
    go_wp2
    go_ret
    exact ⟨ret_str HD.out, 0, rfl⟩
  | succ f ih =>
    intro n w hn hb hf
    by_cases hlt : n < 10
    · have HD : Hid (((⟨#[48, 49, 50, 51, 52, 53, 54, 55, 56, 57]⟩ : ByteArray).extract n (n + 1)) = ⟨(Ch.decF (f + 1) n).toArray⟩) := Ch.str_eq (by rw [Ch.digs_at n hlt, Ch.decF, if_pos hlt])
      clear hn ih
      go_enter Tryz.func21, Tryz.ntmps21
      go_wp2
      go_ret
      exact ⟨ret_str HD.out, 0, rfl⟩
    · have hq : n / 10 < 10 ^ (f + 1) := by
        rw [Nat.pow_succ] at hn
        omega
      have IH : Hid (∀ w, Calls Tryz.prog 21 #[.int .i64 ((n : Int) / 10)] w fun e w' => e = .returned (.string ⟨(Ch.decF f (n / 10)).toArray⟩) ∧ ∃ m, w' = w.drewN m) := fun w => (show ((n / 10 : Nat) : Int) = (n : Int) / 10 by omega) ▸ ih (n / 10) w hq (by omega) (by omega)
      have hl := Ch.decF_length f (n / 10)
      clear ih hn hq
      go_enter Tryz.func21, Tryz.ntmps21
      go_wp2
      have HD : Hid ((⟨(Ch.decF f (n / 10)).toArray⟩ : ByteArray) ++ (⟨#[48, 49, 50, 51, 52, 53, 54, 55, 56, 57]⟩ : ByteArray).extract (n % 10) (n % 10 + 1) = ⟨(Ch.decF (f + 1) n).toArray⟩) :=
        Ch.str_eq (by rw [Ch.data_append, Ch.digs_at _ (by omega), Ch.decF, if_neg hlt])
      generalize (Ch.decF f (n / 10)) = d at IH hl HD
      go_quiet ((go_at_call 21; exact Calls.quiet_of (IH.out _)))
      go_wp2
      go_ret
      exact ⟨ret_str HD.out, nq, rfl⟩
end Go.Proofs.YtdclmpdjjkjfjaaGreatDoor

/- Package chars, walked: visible. -/
namespace Go.Proofs.YtdclmpdjjkjfjaaGreatDoor
open Go.RowKit

set_option maxHeartbeats 400000 in
theorem visible_any (c : Int) (w : World) :
    Calls Tryz.prog 155 #[.int .u8 c] w fun e w' => e = .returned (.bool (Ch.visible c)) ∧ w' = w := by
  by_cases h9 : c = 9
  · subst h9
    go_enter Tryz.func155, Tryz.ntmps155
    go_wp2
    go_ret
    exact ⟨ret_bool (by decide), rfl⟩
  · have h9' : (c == 9) = false := beq_eq_false_iff_ne.2 h9
    go_enter Tryz.func155, Tryz.ntmps155
    go_wp2
    all_goals go_ret
    all_goals refine ⟨ret_bool ?_, rfl⟩
    all_goals (unfold Ch.visible; rw [h9']; first | (rw [decide_eq_true (show 32 ≤ c by omega)]; simp) | (rw [decide_eq_false (show ¬ 32 ≤ c by omega)]; simp))
end Go.Proofs.YtdclmpdjjkjfjaaGreatDoor

/- Package chars, walked: all, of Visible. -/
namespace Go.Proofs.YtdclmpdjjkjfjaaGreatDoor
open Go.RowKit

set_option maxHeartbeats 400000 in
theorem all_visible (s : ByteArray) (w : World) (hs : s.size ≤ maxLen) :
    Calls Tryz.prog 154 #[.string s, .func (.func 155) #[] #[]] w fun e w' => e = .returned (.bool (Ch.isVisible s.data.toList)) ∧ w' = w := by
  unfold maxLen at hs
  go_enter Tryz.func154, Tryz.ntmps154
  go_wp2
  go_loop [8] (fun i => ∃ k : Nat, k ≤ s.size ∧ i = .int .i64 k ∧ ((s.data.toList.take k).all fun b => Ch.visible b.toNat) = true) (fun i => s.size - (intOf i).toNat)
  case atStart => exact ⟨0, Nat.zero_le _, rfl, rfl⟩
  case round =>
    obtain ⟨k, hk, rfl, hno⟩ := hrel
    have HN : Hid (((s.data.toList.take k).all fun b => Ch.visible b.toNat) = true) := hno
    clear hno
    by_cases hlt : k < s.size
    · cases he : Ch.visible (s[k].toNat : Int)
      · have HE : Hid (Ch.visible (s[k].toNat : Int) = false) := he
        go_wp2_with (go_at_call 155; refine (visible_any _ _).mono ?_; rintro e w' ⟨rfl, rfl⟩)
        go_ret
        refine ⟨ret_bool ?_, rfl⟩
        exact (Ch.all_of_take (fun b => Ch.visible b.toNat) s k hlt HE.out).symm
      · have HE : Hid (Ch.visible (s[k].toNat : Int) = true) := he
        go_wp2_with (go_at_call 155; refine (visible_any _ _).mono ?_; rintro e w' ⟨rfl, rfl⟩)
        go_round
        case rel => exact ⟨k + 1, by omega, by go_num, by rw [Ch.take_snoc s k hlt, Ch.all_snoc, HN.out, HE.out]; rfl⟩
        case measure => simp [intOf]; omega
    · go_wp2
      go_ret
      refine ⟨ret_bool ?_, rfl⟩
      rw [← HN.out, Ch.take_all s k (by omega)]
      rfl
end Go.Proofs.YtdclmpdjjkjfjaaGreatDoor
