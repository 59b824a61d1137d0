/- Small texts, one behind the other: StCut, CsHex, CsNumber, CsNum16, RfOne, RfTokB, RfScan, RfSeen, RfSeenT, RfSmall. -/
import Derived.Test.YtjpenioloeplgadGreatDoorPk12
import Derived.Test.YtjpenioloeplgadGreatDoorPk2
import Derived.Test.YtjpenioloeplgadGreatDoorBase
import Derived.Test.YtjpenioloeplgadGreatDoorPk1
import Derived.Test.YtjpenioloeplgadGreatDoorProg
/- strings.Cut at a mark of one byte, walked. -/
namespace Go.Proofs.YtjpenioloeplgadGreatDoor
open Go.RowKit

set_option maxHeartbeats 2000000 in
set_option maxRecDepth 100000 in
theorem index_one (s : ByteArray) (c : UInt8) (w : World) :
    Calls Tryz.prog 149 #[.string s, .string ⟨#[c]⟩] w fun e w' => e = .returned (.int .i64 (Lib.indexByte s.data.toList c)) ∧ w' = w := by
  go_enter Tryz.func149, Tryz.ntmps149
  go_wp2_with (go_at_call 150; refine (sl_indexByte _ _ _).mono ?_; rintro e w' ⟨rfl, rfl⟩)
  · have h : ([c] == s.toList) = true := by assumption
    go_ret
    refine ⟨?_, rfl⟩
    have e : s.data.toList = [c] := by rw [← Lib.toList_data]; exact (beq_iff_eq.1 h).symm
    rw [e]
    simp [Lib.indexByte]
  · go_ret
    exact ⟨rfl, rfl⟩

/-- what is cut at a byte: what stands ahead of it, what stands behind it, and is it there? -/
def Fd.cutV (c : UInt8) (s : ByteArray) : Value :=
  if Fd.at_ c s.data.toList = s.size then .tuple #[.string s, .string ⟨#[]⟩, .bool false]
  else .tuple #[.string (s.extract 0 (Fd.at_ c s.data.toList)), .string (s.extract (Fd.at_ c s.data.toList + 1) s.size), .bool true]

set_option maxHeartbeats 800000 in
theorem slCut_one (s : ByteArray) (c : UInt8) (w : World) (hs : s.size ≤ maxLen) :
    Calls Tryz.prog 139 #[.string s, .string ⟨#[c]⟩] w fun e w' => e = .returned (Fd.cutV c s) ∧ ∃ n, w' = w.drewN n := by
  have HI := Hid.mk' (index_one s c w)
  have hl : s.data.toList.length = s.size := by rw [Array.length_toList]; rfl
  unfold maxLen at hs
  rcases Fd.index_at s.data.toList c with ⟨h1, h2⟩ | ⟨h1, h2⟩
  · rw [h1] at HI
    have HR : Hid (Fd.cutV c s = .tuple #[.string s, .string ⟨#[]⟩, .bool false]) := by unfold Hid Fd.cutV; rw [if_pos (by rw [h2, hl])]
    clear h1 h2 hl
    go_enter Tryz.func139, Tryz.ntmps139
    go_wp2_with fail
    refine HI.out.mono ?_
    rintro e w1 ⟨rfl, hw⟩
    subst hw
    go_wp2
    go_ret3
    exact ⟨by rw [HR.out]; rfl, 0, rfl⟩
  · rw [h1] at HI
    rw [hl] at h2
    have HR : Hid (Fd.cutV c s = .tuple #[.string (s.extract 0 (Fd.at_ c s.data.toList)), .string (s.extract (Fd.at_ c s.data.toList + 1) s.size), .bool true]) := by unfold Hid Fd.cutV; rw [if_neg (by omega)]
    clear h1 hl
    generalize Fd.at_ c s.data.toList = k at HI HR h2
    have c1 : (0 : Int) ≤ k := by omega
    have c2 : (k : Int) ≤ s.size := by omega
    have c3 : (k : Int) + 1 ≤ s.size := by omega
    have c4 : IntKind.i64.wrap ((k : Int) + 1) = (k : Int) + 1 := wrap_id (by omega) (by omega)
    have c5 : (0 : Int) ≤ (k : Int) + 1 := by omega
    have c6 : ((k : Int) + 1).toNat = k + 1 := by omega
    go_enter Tryz.func139, Tryz.ntmps139
    go_wp2_with fail
    refine HI.out.mono ?_
    rintro e w1 ⟨rfl, hw⟩
    subst hw
    go_wp2
    go_quiet (fail)
    go_wp2
    go_ret3
    exact ⟨by rw [HR.out]; rfl, nq, rfl⟩

set_option maxHeartbeats 400000 in
theorem cut_one (s : ByteArray) (c : UInt8) (w : World) (hs : s.size ≤ maxLen) :
    Calls Tryz.prog 119 #[.string s, .string ⟨#[c]⟩] w fun e w' => e = .returned (Fd.cutV c s) ∧ ∃ n, w' = w.drewN n := by
  have HC := Hid.mk' (slCut_one s c w hs)
  unfold Fd.cutV at HC ⊢
  split at HC
  · rename_i h
    rw [if_pos h]
    go_enter Tryz.func119, Tryz.ntmps119
    go_wp2_with fail
    refine HC.out.mono ?_
    rintro e w1 ⟨rfl, n, hw⟩
    subst hw
    go_wp2
    go_ret3
    exact ⟨rfl, n, rfl⟩
  · rename_i h
    rw [if_neg h]
    go_enter Tryz.func119, Tryz.ntmps119
    go_wp2_with fail
    refine HC.out.mono ?_
    rintro e w1 ⟨rfl, n, hw⟩
    subst hw
    go_wp2
    go_ret3
    exact ⟨rfl, n, rfl⟩
end Go.Proofs.YtjpenioloeplgadGreatDoor

/- Package chars, walked: Hex. -/
namespace Go.Proofs.YtjpenioloeplgadGreatDoor
open Go.RowKit

set_option maxHeartbeats 400000 in
theorem hex_any (c : Int) (w : World) (h0 : 0 ≤ c) (h1 : c ≤ 255) :
    Calls Tryz.prog 133 #[.int .u8 c] w fun e w' => e = .returned (.int .i64 (Ch.hex c)) ∧ w' = w := by
  have HH : Hid (Ch.hex c = if Ch.digit c then c - 48 else if decide (97 ≤ c) && decide (c ≤ 102) then c - 87 else if decide (65 ≤ c) && decide (c ≤ 70) then c - 55 else -1) := rfl
  cases hd : Ch.digit c
  · go_enter Tryz.func133, Tryz.ntmps133
    go_wp2_with (go_at_call 140; refine (digit_any _ _).mono ?_; rintro e w' ⟨rfl, rfl⟩)
    all_goals go_ret
    all_goals refine ⟨ret_int ?_, rfl⟩
    all_goals (rw [HH.out, hd]; simp only [Bool.false_eq_true, if_false, Bool.and_eq_true, decide_eq_true_eq]; repeat' split) <;> omega
  · have hd' : 48 ≤ c ∧ c ≤ 57 := by simpa [Ch.digit] using hd
    go_enter Tryz.func133, Tryz.ntmps133
    go_wp2_with (go_at_call 140; refine (digit_any _ _).mono ?_; rintro e w' ⟨rfl, rfl⟩)
    go_ret
    refine ⟨ret_int ?_, rfl⟩
    rw [HH.out, hd, if_pos rfl]
end Go.Proofs.YtjpenioloeplgadGreatDoor

/- Package chars, walked: number. -/
namespace Go.Proofs.YtjpenioloeplgadGreatDoor
open Go.RowKit

set_option maxHeartbeats 400000 in
theorem number_any (s : ByteArray) (base most : Int) (w : World) (hs : s.size ≤ maxLen) (hb0 : 2 ≤ base) (hb1 : base ≤ 16) (hm0 : 0 ≤ most) (hm1 : most ≤ 9) :
    Calls Tryz.prog 114 #[.string s, .int .i64 base, .int .i64 most] w fun e w' => e = .returned (.tuple #[.int .i64 (Ch.number base most s.data.toList).1, .bool (Ch.number base most s.data.toList).2]) ∧ w' = w := by
  unfold maxLen at hs
  by_cases h0 : s.size = 0
  · obtain rfl := Ch.empty_eq s h0
    go_enter Tryz.func114, Tryz.ntmps114
    go_wp2
    go_ret2
    exact ⟨ret_two (Ch.number_short _ _ _ (Or.inl rfl)), rfl⟩
  · have hne := Ch.isEmpty_false s (by omega)
    by_cases hlong : most < s.size
    · have HL : Hid (most < s.data.toList.length) := by unfold Hid; rw [Ch.len_list]; exact hlong
      go_enter Tryz.func114, Tryz.ntmps114
      go_wp2
      go_ret2
      exact ⟨ret_two (Ch.number_short _ _ _ (Or.inr HL.out)), rfl⟩
    · have hlg : decide (most < (s.size : Int)) = false := decide_eq_false hlong
      have HL : Hid (¬ most < s.data.toList.length) := by unfold Hid; rw [Ch.len_list]; exact hlong
      go_enter Tryz.func114, Tryz.ntmps114
      go_wp2
      go_loop [8, 21] (fun n i => ∃ k : Nat, k ≤ s.size ∧ i = .int .i64 k ∧ (s.data.toList.take k).all (Ch.dig base) = true ∧ n = .int .i64 (Ch.numOf base (s.data.toList.take k))) (fun _ i => s.size - (intOf i).toNat)
      case atStart => exact ⟨0, Nat.zero_le _, rfl, rfl, rfl⟩
      case round =>
        obtain ⟨k, hk, rfl, hall, rfl⟩ := hrel
        have HN : Hid ((s.data.toList.take k).all (Ch.dig base) = true) := hall
        have hbd := Ch.numOf_bound base (by omega) hb1 _ hall (by have : (s.data.toList.take k).length ≤ k := List.length_take_le _ _; omega)
        clear hall
        generalize hn : Ch.numOf base (s.data.toList.take k) = n at hbd
        have Hn : Hid (Ch.numOf base (s.data.toList.take k) = n) := hn
        clear hn
        have p0 : 0 ≤ n * base := Int.mul_nonneg hbd.1 (by omega)
        have p1 : n * base ≤ n * 16 := Int.mul_le_mul_of_nonneg_left hb1 hbd.1
        by_cases hlt : k < s.size
        · have hb := s[k].toNat_lt
          have hx := Ch.hex_byte s[k]
          by_cases hd : 0 ≤ Ch.hex s[k].toNat ∧ Ch.hex s[k].toNat < base
          · have HE : Hid (Ch.dig base s[k] = true) := by unfold Hid Ch.dig; rw [decide_eq_true hd.1, decide_eq_true hd.2]; rfl
            have hd1 : decide (Ch.hex s[k].toNat < 0) = false := decide_eq_false (by omega)
            have hd2 : decide (base ≤ Ch.hex s[k].toNat) = false := decide_eq_false (by omega)
            go_wp2_with (go_at_call 133; refine (hex_any _ _ (by omega) (by omega)).mono ?_; rintro e w' ⟨rfl, rfl⟩)
            go_round
            case rel => exact ⟨k + 1, by omega, by go_num, by rw [Ch.take_snoc s k hlt, Ch.all_snoc, HN.out, HE.out]; rfl, by rw [Ch.take_snoc s k hlt, Ch.numOf_snoc, Hn.out]⟩
            case measure => simp [intOf]; omega
          · have HE : Hid (Ch.dig base s[k] = false) := by
              unfold Hid Ch.dig
              by_cases hz : 0 ≤ Ch.hex s[k].toNat
              · rw [decide_eq_false (show ¬ Ch.hex s[k].toNat < base from fun h => hd ⟨hz, h⟩)]; simp
              · rw [decide_eq_false hz]; rfl
            by_cases hz : 0 ≤ Ch.hex s[k].toNat
            all_goals
              go_wp2_with (go_at_call 133; refine (hex_any _ _ (by omega) (by omega)).mono ?_; rintro e w' ⟨rfl, rfl⟩)
              all_goals first | omega | (go_ret2; exact ⟨ret_two (Ch.number_no _ _ _ (Ch.all_of_take _ s k hlt HE.out)), rfl⟩)
        · go_wp2
          go_ret2
          exact ⟨ret_two (by rw [← Hn.out, Ch.take_all s k (by omega)]; exact Ch.number_yes _ _ _ (Ch.ne_nil s (by omega)) (Int.not_lt.2 HL.out) (by rw [← HN.out, Ch.take_all s k (by omega)])), rfl⟩
end Go.Proofs.YtjpenioloeplgadGreatDoor

/- Package chars, walked: HexNumber. -/
namespace Go.Proofs.YtjpenioloeplgadGreatDoor
open Go.RowKit

set_option maxHeartbeats 400000 in
theorem number16_any (s : ByteArray) (w : World) (hs : s.size ≤ maxLen) :
    Calls Tryz.prog 81 #[.string s] w fun e w' => e = .returned (.tuple #[.int .i64 (Ch.number 16 6 s.data.toList).1, .bool (Ch.number 16 6 s.data.toList).2]) ∧ w' = w := by
  have h := number_any s 16 6 w hs (by decide) (by decide) (by decide) (by decide)
  generalize Ch.number 16 6 s.data.toList = p at h
  go_enter Tryz.func81, Tryz.ntmps81
  go_wp2_with (go_at_call 114; refine h.mono ?_; rintro e w' ⟨rfl, rfl⟩)
  go_ret2
  exact ⟨rfl, rfl⟩
end Go.Proofs.YtjpenioloeplgadGreatDoor

/- The document's own answer, walked: one. -/
namespace Go.Proofs.YtjpenioloeplgadGreatDoor
open Go.RowKit

set_option maxHeartbeats 400000 in
theorem one_any (c : Int) (s : ByteArray) (w : World) (hs : s.size ≤ maxLen) :
    Calls Tryz.prog 115 #[.int .u8 c, .string s] w fun e w' => e = .returned (.bool (Ch.oneOf c s.data.toList)) ∧ w' = w := by
  unfold maxLen at hs
  go_enter Tryz.func115, Tryz.ntmps115
  go_wp2
  go_loop [5] (fun i => ∃ k : Nat, k ≤ s.size ∧ i = .int .i64 k ∧ Ch.oneOf c (s.data.toList.take k) = false) (fun i => s.size - (intOf i).toNat)
  case atStart => exact ⟨0, Nat.zero_le _, rfl, rfl⟩
  case round =>
    obtain ⟨k, hk, rfl, hno⟩ := hrel
    have HN : Hid (Ch.oneOf c (s.data.toList.take k) = false) := hno
    clear hno
    by_cases hlt : k < s.size
    · by_cases he : ((s[k].toNat : Int)) = c
      · have HE : Hid ((s[k].toNat : Int) = c) := he
        have hb : (((s[k].toNat : Int)) == c) = true := beq_iff_eq.2 he
        clear he
        go_wp2
        go_ret
        refine ⟨ret_bool ?_, rfl⟩
        exact (Ch.any_of_take (fun b => (b.toNat : Int) == c) s k hlt (beq_iff_eq.2 HE.out)).symm
      · have hb : (((s[k].toNat : Int)) == c) = false := beq_eq_false_iff_ne.2 he
        have HB : Hid ((((s[k].toNat : Int)) == c) = false) := hb
        clear he
        go_wp2
        go_round
        case rel => exact ⟨k + 1, by omega, by go_num, by rw [Ch.take_snoc s k hlt, Ch.oneOf_snoc, HN.out, HB.out]; rfl⟩
        case measure => simp [intOf]; omega
    · go_wp2
      go_ret
      refine ⟨ret_bool ?_, rfl⟩
      rw [← HN.out, Ch.take_all s k (by omega)]
end Go.Proofs.YtjpenioloeplgadGreatDoor

/- The document's own answer, walked: IsTokenByte. -/
namespace Go.Proofs.YtjpenioloeplgadGreatDoor
open Go.RowKit

set_option maxHeartbeats 1000000 in
theorem isTokenByte_any (c : Int) (w : World) (h0 : 0 ≤ c) (h1 : c ≤ 255) :
    Calls Tryz.prog 82 #[.int .u8 c] w fun e w' => e = .returned (.bool (Ch.token c)) ∧ w' = w := by
  have HT : Hid (Ch.oneOf c Ch.tokens = Ch.token c) := Ch.oneOf_tokens c h0 h1
  have hm := one_any c ⟨Ch.tokens.toArray⟩ w (by decide)
  go_enter Tryz.func82, Tryz.ntmps82
  go_wp2_with fail
  refine hm.mono ?_
  rintro e w' ⟨rfl, rfl⟩
  go_wp2
  go_ret
  exact ⟨ret_bool HT.out, rfl⟩
end Go.Proofs.YtjpenioloeplgadGreatDoor

/- The document's own answer, walked: blanks, word. -/
namespace Go.Proofs.YtjpenioloeplgadGreatDoor
open Go.RowKit

theorem list_at (s : ByteArray) (k : Nat) (h : k < s.size) : s.data.toList[k]'(by rw [Array.length_toList]; exact h) = s[k] := by simp [ByteArray.getElem_eq_getElem_data]

set_option maxHeartbeats 800000 in
theorem blanks_any (s : ByteArray) (i : Nat) (w : World) (hs : s.size ≤ 1000000) (hi : i ≤ s.size) :
    Calls Tryz.prog 55 #[.string s, .int .i64 i] w fun e w' => e = .returned (.int .i64 (Pm.blanks s.data.toList i)) ∧ w' = w := by
  have hl : s.data.toList.length = s.size := by rw [Array.length_toList]; rfl
  have HL := Hid.mk' hl
  clear hl
  go_enter Tryz.func55, Tryz.ntmps55
  go_wp2
  go_loop [1] (fun t => ∃ k : Nat, k ≤ s.size ∧ t = .int .i64 k ∧ Pm.blanks s.data.toList i = Pm.blanks s.data.toList k) (fun t => s.size - (intOf t).toNat)
  case atStart => exact ⟨i, hi, rfl, rfl⟩
  case round =>
    obtain ⟨k, hk, rfl, hg⟩ := hrel
    have HG := Hid.mk' hg
    clear hg
    by_cases hlt : k < s.size
    · have HLL : Hid (k < s.data.toList.length) := by unfold Hid; rw [HL.out]; exact hlt
      have hat := list_at s k hlt
      have hlt' : (k : Int) < s.size := by omega
      have tl : decide ((k : Int) < s.size) = true := by rw [decide_eq_true_eq]; omega
      cases hb : Pm.blank s[k]
      · have HR : Hid (Pm.blanks s.data.toList i = k) := by
          refine HG.out.trans ?_
          unfold Pm.blanks; rw [Pm.run_stop HLL.out (by rw [hat]; exact hb)]; rfl
        unfold Pm.blank at hb
        rw [Bool.or_eq_false_iff, beq_eq_false_iff_ne, beq_eq_false_iff_ne] at hb
        have b1 : ((s[k].toNat : Int) == 32) = false := byte_ne' hb.1
        have b2 : ((s[k].toNat : Int) == 9) = false := byte_ne' hb.2
        have n1 : ¬ (s[k].toNat : Int) = 32 := beq_eq_false_iff_ne.1 b1
        have n2 : ¬ (s[k].toNat : Int) = 9 := beq_eq_false_iff_ne.1 b2
        clear hat hb
        go_wp2
        case roundEnd =>
          exfalso
          have hx : ((s[k].toNat : Int) == 32) = true ∨ ((s[k].toNat : Int) == 9) = true := by assumption
          rw [b1, b2] at hx
          rcases hx with hx | hx <;> cases hx
        go_ret
        exact ⟨ret_int (by rw [HR.out]), rfl⟩
      · have HR : Hid (Pm.blanks s.data.toList i = Pm.blanks s.data.toList (k + 1)) := by
          refine HG.out.trans ?_
          unfold Pm.blanks; rw [Pm.run_step HLL.out (by rw [hat]; exact hb)]; omega
        unfold Pm.blank at hb
        rw [Bool.or_eq_true, beq_iff_eq, beq_iff_eq] at hb
        by_cases h32 : s[k] = 32
        · have b1 : ((s[k].toNat : Int) == 32) = true := by rw [h32]; rfl
          have n1 : (s[k].toNat : Int) = 32 := beq_iff_eq.1 b1
          clear hat hb h32 b1
          go_wp2
          go_round
          case rel => exact ⟨k + 1, by omega, by go_num, HR.out⟩
          case measure => simp [intOf]; omega
        · have b1 : ((s[k].toNat : Int) == 32) = false := byte_ne' h32
          have b2 : ((s[k].toNat : Int) == 9) = true := by rw [hb.resolve_left h32]; rfl
          have n1 : ¬ (s[k].toNat : Int) = 32 := beq_eq_false_iff_ne.1 b1
          clear hat hb h32
          go_wp2
          case roundEnd =>
            go_round
            case rel => exact ⟨k + 1, by omega, by go_num, HR.out⟩
            case measure => simp [intOf]; omega
          exfalso
          have hx : ((s[k].toNat : Int) == 32) = false ∧ ((s[k].toNat : Int) == 9) = false := by assumption
          rw [b2] at hx
          cases hx.2
    · obtain rfl : k = s.size := by omega
      have HR : Hid (Pm.blanks s.data.toList i = s.size) := by
        refine HG.out.trans ?_
        unfold Pm.blanks; rw [Pm.run_end _ (by rw [HL.out]; exact Nat.le_refl _)]; rfl
      go_wp2
      go_ret
      exact ⟨ret_int (by rw [HR.out]), rfl⟩

set_option maxHeartbeats 800000 in
theorem word_any (s : ByteArray) (i : Nat) (w : World) (hs : s.size ≤ 1000000) (hi : i ≤ s.size) :
    Calls Tryz.prog 56 #[.string s, .int .i64 i] w fun e w' => e = .returned (.int .i64 (Pm.word s.data.toList i)) ∧ w' = w := by
  have hl : s.data.toList.length = s.size := by rw [Array.length_toList]; rfl
  have HL := Hid.mk' hl
  clear hl
  go_enter Tryz.func56, Tryz.ntmps56
  go_wp2
  go_loop [5] (fun t => ∃ n : Nat, i + n ≤ s.size ∧ t = .int .i64 n ∧ Pm.word s.data.toList i = n + Pm.word s.data.toList (i + n)) (fun t => s.size - (intOf t).toNat)
  case atStart => exact ⟨0, hi, rfl, by rw [Nat.zero_add]; rfl⟩
  case round =>
    obtain ⟨n, hn, rfl, hg⟩ := hrel
    have HG := Hid.mk' hg
    clear hg
    by_cases hlt : i + n < s.size
    · have HLL : Hid (i + n < s.data.toList.length) := by unfold Hid; rw [HL.out]; exact hlt
      have hat := list_at s (i + n) hlt
      have hlt' : (i : Int) + n < s.size := by omega
      have tl : decide ((i : Int) + n < s.size) = true := by rw [decide_eq_true_eq]; omega
      have hb := s[i + n].toNat_lt
      have HT := Hid.mk' (isTokenByte_any (s[i + n].toNat : Int) w (by omega) (by omega))
      cases ht : Ch.token (s[i + n].toNat : Int)
      · have HR : Hid (Pm.word s.data.toList i = n) := by
          refine HG.out.trans ?_
          unfold Pm.word; rw [Pm.run_stop HLL.out (by rw [hat]; exact ht)]; rfl
        rw [ht] at HT
        clear hat ht
        go_wp2_with fail
        refine HT.out.mono ?_
        rintro e w1 ⟨rfl, hw⟩
        subst hw
        go_wp2
        go_ret
        exact ⟨ret_int (by rw [HR.out]), rfl⟩
      · have HR : Hid (Pm.word s.data.toList i = (n + 1) + Pm.word s.data.toList (i + (n + 1))) := by
          refine HG.out.trans ?_
          unfold Pm.word; rw [Pm.run_step HLL.out (by rw [hat]; exact ht), ← Nat.add_assoc i n 1]; omega
        rw [ht] at HT
        clear hat ht
        go_wp2_with fail
        refine HT.out.mono ?_
        rintro e w1 ⟨rfl, hw⟩
        subst hw
        go_wp2
        go_round
        case rel => exact ⟨n + 1, by omega, by go_num, HR.out⟩
        case measure => simp [intOf]; omega
    · have ht : decide ((i : Int) + n < s.size) = false := by rw [decide_eq_false_iff_not]; omega
      have HR : Hid (Pm.word s.data.toList i = n) := by
        refine HG.out.trans ?_
        unfold Pm.word; rw [Pm.run_end _ (by rw [HL.out]; omega)]; rfl
      go_wp2
      go_ret
      exact ⟨ret_int (by rw [HR.out]), rfl⟩
end Go.Proofs.YtjpenioloeplgadGreatDoor

/- The document's own answer, walked: IsSeen. -/
namespace Go.Proofs.YtjpenioloeplgadGreatDoor
open Go.RowKit

set_option maxHeartbeats 400000 in
theorem isSeen_any (c : Int) (w : World) :
    Calls Tryz.prog 38 #[.int .u8 c] w fun e w' => e = .returned (.bool (Ch.visible c)) ∧ w' = w := by
  by_cases h9 : c = 9
  · subst h9
    go_enter Tryz.func38, Tryz.ntmps38
    go_wp2
    go_ret
    exact ⟨ret_bool (by decide), rfl⟩
  · have h9' : (c == 9) = false := beq_eq_false_iff_ne.2 h9
    go_enter Tryz.func38, Tryz.ntmps38
    go_wp2
    all_goals go_ret
    all_goals refine ⟨ret_bool ?_, rfl⟩
    all_goals (unfold Ch.visible; rw [h9']; first | (rw [decide_eq_true (show 32 ≤ c by omega)]; simp) | (rw [decide_eq_false (show ¬ 32 ≤ c by omega)]; simp))
end Go.Proofs.YtjpenioloeplgadGreatDoor

/- The document's own answer, walked: SeenText. -/
namespace Go.Proofs.YtjpenioloeplgadGreatDoor
open Go.RowKit

set_option maxHeartbeats 400000 in
theorem seenText_any (s : ByteArray) (w : World) (hs : s.size ≤ maxLen) :
    Calls Tryz.prog 13 #[.string s] w fun e w' => e = .returned (.bool (Ch.isVisible s.data.toList)) ∧ w' = w := by
  unfold maxLen at hs
  go_enter Tryz.func13, Tryz.ntmps13
  go_wp2
  go_loop [3] (fun i => ∃ k : Nat, k ≤ s.size ∧ i = .int .i64 k ∧ ((s.data.toList.take k).all fun b => Ch.visible b.toNat) = true) (fun i => s.size - (intOf i).toNat)
  case atStart => exact ⟨0, Nat.zero_le _, rfl, rfl⟩
  case round =>
    obtain ⟨k, hk, rfl, hno⟩ := hrel
    have HN : Hid (((s.data.toList.take k).all fun b => Ch.visible b.toNat) = true) := hno
    clear hno
    by_cases hlt : k < s.size
    · have hb := s[k].toNat_lt
      cases he : Ch.visible (s[k].toNat : Int)
      · have HE : Hid (Ch.visible (s[k].toNat : Int) = false) := he
        go_wp2_with (go_at_call 38; refine (isSeen_any _ _).mono ?_; rintro e w' ⟨rfl, rfl⟩)
        go_ret
        refine ⟨ret_bool ?_, rfl⟩
        exact (Ch.all_of_take (fun b => Ch.visible b.toNat) s k hlt HE.out).symm
      · have HE : Hid (Ch.visible (s[k].toNat : Int) = true) := he
        go_wp2_with (go_at_call 38; refine (isSeen_any _ _).mono ?_; rintro e w' ⟨rfl, rfl⟩)
        go_round
        case rel => exact ⟨k + 1, by omega, by go_num, by rw [Ch.take_snoc s k hlt, Ch.all_snoc, HN.out, HE.out]; rfl⟩
        case measure => simp [intOf]; omega
    · go_wp2
      go_ret
      refine ⟨ret_bool ?_, rfl⟩
      unfold Ch.isVisible
      rw [← HN.out, Ch.take_all s k (by omega)]
end Go.Proofs.YtjpenioloeplgadGreatDoor

/- The document's own answer, walked: Small. -/
namespace Go.Proofs.YtjpenioloeplgadGreatDoor
open Go.RowKit

set_option maxHeartbeats 400000 in
theorem small_any (s : ByteArray) (w : World) (hs : s.size ≤ 2000) :
    Calls Tryz.prog 31 #[.string s] w fun e w' => e = .returned (.string ⟨(Ch.lower s.data.toList).toArray⟩) ∧ ∃ n, w' = w.drewN n := by
  go_enter Tryz.func31, Tryz.ntmps31
  go_wp2
  go_loopw [3, 4] (fun o i wr => ∃ k n : Nat, ∃ x : ByteArray, k ≤ s.size ∧ i = .int .i64 k ∧ o = .string x ∧ x.data.toList = Ch.lower (s.data.toList.take k) ∧ wr = w.drewN n) (fun _ i _ => s.size - (intOf i).toNat)
  case atStart => exact ⟨0, 0, ⟨#[]⟩, Nat.zero_le _, rfl, rfl, rfl, rfl⟩
  case round =>
    obtain ⟨k, n, x, hk, rfl, rfl, hx, rfl⟩ := hrel
    have hxs : x.size ≤ 2000 := by
      have := Ch.size_of_list hx
      rw [Ch.lower_length] at this
      have h2 : (s.data.toList.take k).length ≤ k := List.length_take_le _ _
      omega
    have HX : Hid (x.data.toList = Ch.lower (s.data.toList.take k)) := hx
    clear hx
    by_cases hlt : k < s.size
    · go_wp2
      go_loopw [5, 6] (fun c i wr => ∃ j n : Nat, ∃ y : ByteArray, j ≤ 26 ∧ i = .int .i64 j ∧ c = .string y ∧ y.data.toList = [Ch.lowTo s[k] j] ∧ wr = w.drewN n) (fun _ i _ => 26 - (intOf i).toNat)
      case atStart => exact ⟨0, n, _, Nat.zero_le _, rfl, rfl, by rw [Ch.one_at s k hlt, Ch.lowTo_zero], rfl⟩
      case round =>
        obtain ⟨j, n, y, hj, rfl, rfl, hy, rfl⟩ := hrel
        have hys : y.size ≤ 1 := by have := Ch.size_of_list hy; simp at this; omega
        have HY : Hid (y.data.toList = [Ch.lowTo s[k] j]) := hy
        clear hy
        by_cases hlj : j < 26
        · go_wp2
          go_quiet (fail)
          go_wp2
          · have he : (((((⟨#[65, 66, 67, 68, 69, 70, 71, 72, 73, 74, 75, 76, 77, 78, 79, 80, 81, 82, 83, 84, 85, 86, 87, 88, 89, 90]⟩ : ByteArray)[j]'hlj).toNat : Nat) : Int) == (s[k].toNat : Int)) = true := by assumption
            go_roundw
            case rel => exact ⟨j + 1, n + nq, _, by omega, by go_num, rfl, Ch.lowTo_hit _ _ hlj he, by simp [World.drewN]⟩
            case measure => simp [intOf]; omega
          · have he : (((((⟨#[65, 66, 67, 68, 69, 70, 71, 72, 73, 74, 75, 76, 77, 78, 79, 80, 81, 82, 83, 84, 85, 86, 87, 88, 89, 90]⟩ : ByteArray)[j]'hlj).toNat : Nat) : Int) == (s[k].toNat : Int)) = false := by assumption
            go_roundw
            case rel => exact ⟨j + 1, n + nq, y, by omega, by go_num, rfl, by rw [HY.out, Ch.lowTo_miss _ _ hlj he], by simp [World.drewN]⟩
            case measure => simp [intOf]; omega
        · obtain rfl : j = 26 := by omega
          go_wp2
          go_roundw
          case rel => exact ⟨k + 1, n, x ++ y, by omega, by go_num, rfl, by rw [Ch.data_append, HX.out, HY.out, Ch.take_snoc s k hlt, Ch.lower_snoc]; rfl, rfl⟩
          case measure => simp [intOf]; omega
    · go_wp2
      go_ret
      exact ⟨ret_str (Ch.str_eq (by rw [HX.out, Ch.take_all s k (by omega)])), n, rfl⟩
end Go.Proofs.YtjpenioloeplgadGreatDoor
