/- Small texts, one behind the other: CsVis, StIndexB, StCut, CsDigit, CsCap, CsLetter, CsToken, CsAllT, CsIsTok, CsAllV, CsIsVis, CsHex. -/
import Derived.Test.YtjpenioloeplgacGreatDoorBase
import Derived.Test.YtjpenioloeplgacGreatDoorPk1
import Derived.Test.YtjpenioloeplgacGreatDoorProg
import Derived.Lib.Bytealg
import Derived.Test.YtjpenioloeplgacGreatDoorPk2
/- Package chars, walked: visible. -/
namespace Go.Proofs.YtjpenioloeplgacGreatDoor
open Go.RowKit

set_option maxHeartbeats 400000 in
theorem visible_any (c : Int) (w : World) :
    Calls Tryz.prog 96 #[.int .u8 c] w fun e w' => e = .returned (.bool (Ch.visible c)) ∧ w' = w := by
  by_cases h9 : c = 9
  · subst h9
    go_enter Tryz.func96, Tryz.ntmps96
    go_wp2
    go_ret
    exact ⟨ret_bool (by decide), rfl⟩
  · have h9' : (c == 9) = false := beq_eq_false_iff_ne.2 h9
    go_enter Tryz.func96, Tryz.ntmps96
    go_wp2
    all_goals go_ret
    all_goals refine ⟨ret_bool ?_, rfl⟩
    all_goals (unfold Ch.visible; rw [h9']; first | (rw [decide_eq_true (show 32 ≤ c by omega)]; simp) | (rw [decide_eq_false (show ¬ 32 ≤ c by omega)]; simp))
end Go.Proofs.YtjpenioloeplgacGreatDoor

/- strings.IndexByte, walked. -/
namespace Go.Proofs.YtjpenioloeplgacGreatDoor
open Go.RowKit

set_option maxHeartbeats 1000000 in
set_option maxRecDepth 100000 in
theorem sl_indexByte (s : ByteArray) (c : Int) (w : World) :
    Calls Tryz.prog 173 #[.string s, .int .u8 c] w fun e w' => e = .returned (.int .i64 (Lib.indexByte s.data.toList c.toNat.toUInt8)) ∧ w' = w := by
  go_enter Tryz.func173, Tryz.ntmps173
  go_wp2
  rw [run_callFunc_extern Tryz.func190 (by kernel_rfl) (by kernel_rfl) (by kernel_rfl) (e := Extern.BytealgIndexByte.indexByte) (by kernel_rfl), Lib.run_indexByteString]
  simp only [Result.andThen]
  rw [Oper.upon_value]
  go_wp2
  go_ret
  exact ⟨rfl, rfl⟩

set_option maxHeartbeats 400000 in
theorem indexByte_any (s : ByteArray) (c : Int) (w : World) :
    Calls Tryz.prog 150 #[.string s, .int .u8 c] w fun e w' => e = .returned (.int .i64 (Lib.indexByte s.data.toList c.toNat.toUInt8)) ∧ w' = w := by
  go_enter Tryz.func150, Tryz.ntmps150
  go_wp2_with (go_at_call 173; refine (sl_indexByte _ _ _).mono ?_; rintro e w' ⟨rfl, rfl⟩)
  go_ret
  exact ⟨rfl, rfl⟩
end Go.Proofs.YtjpenioloeplgacGreatDoor

/- strings.Cut at a mark of one byte, walked. -/
namespace Go.Proofs.YtjpenioloeplgacGreatDoor
open Go.RowKit

set_option maxHeartbeats 2000000 in
set_option maxRecDepth 100000 in
theorem index_one (s : ByteArray) (c : UInt8) (w : World) :
    Calls Tryz.prog 188 #[.string s, .string ⟨#[c]⟩] w fun e w' => e = .returned (.int .i64 (Lib.indexByte s.data.toList c)) ∧ w' = w := by
  go_enter Tryz.func188, Tryz.ntmps188
  go_wp2_with (go_at_call 173; refine (sl_indexByte _ _ _).mono ?_; rintro e w' ⟨rfl, rfl⟩)
  · have h : ([c] == s.toList) = true := by assumption
    go_ret
    refine ⟨?_, rfl⟩
    have e : s.data.toList = [c] := by rw [← Lib.toList_data]; exact (beq_iff_eq.1 h).symm
    rw [e]
    simp [Lib.indexByte]
  · go_ret
    exact ⟨rfl, rfl⟩

/-- what is cut at a byte: what stands ahead of it, what stands behind it, and is it there? -/
def Fd.cutV (c : UInt8) (s : ByteArray) : Value :=
  if Fd.at_ c s.data.toList = s.size then .tuple #[.string s, .string ⟨#[]⟩, .bool false]
  else .tuple #[.string (s.extract 0 (Fd.at_ c s.data.toList)), .string (s.extract (Fd.at_ c s.data.toList + 1) s.size), .bool true]

set_option maxHeartbeats 800000 in
theorem slCut_one (s : ByteArray) (c : UInt8) (w : World) (hs : s.size ≤ maxLen) :
    Calls Tryz.prog 167 #[.string s, .string ⟨#[c]⟩] w fun e w' => e = .returned (Fd.cutV c s) ∧ ∃ n, w' = w.drewN n := by
  have HI := Hid.mk' (index_one s c w)
  have hl : s.data.toList.length = s.size := by rw [Array.length_toList]; rfl
  unfold maxLen at hs
  rcases Fd.index_at s.data.toList c with ⟨h1, h2⟩ | ⟨h1, h2⟩
  · rw [h1] at HI
    have HR : Hid (Fd.cutV c s = .tuple #[.string s, .string ⟨#[]⟩, .bool false]) := by unfold Hid Fd.cutV; rw [if_pos (by rw [h2, hl])]
    clear h1 h2 hl
    go_enter Tryz.func167, Tryz.ntmps167
    go_wp2_with fail
    refine HI.out.mono ?_
    rintro e w1 ⟨rfl, hw⟩
    subst hw
    go_wp2
    go_ret3
    exact ⟨by rw [HR.out]; rfl, 0, rfl⟩
  · rw [h1] at HI
    rw [hl] at h2
    have HR : Hid (Fd.cutV c s = .tuple #[.string (s.extract 0 (Fd.at_ c s.data.toList)), .string (s.extract (Fd.at_ c s.data.toList + 1) s.size), .bool true]) := by unfold Hid Fd.cutV; rw [if_neg (by omega)]
    clear h1 hl
    generalize Fd.at_ c s.data.toList = k at HI HR h2
    have c1 : (0 : Int) ≤ k := by omega
    have c2 : (k : Int) ≤ s.size := by omega
    have c3 : (k : Int) + 1 ≤ s.size := by omega
    have c4 : IntKind.i64.wrap ((k : Int) + 1) = (k : Int) + 1 := wrap_id (by omega) (by omega)
    have c5 : (0 : Int) ≤ (k : Int) + 1 := by omega
    have c6 : ((k : Int) + 1).toNat = k + 1 := by omega
    go_enter Tryz.func167, Tryz.ntmps167
    go_wp2_with fail
    refine HI.out.mono ?_
    rintro e w1 ⟨rfl, hw⟩
    subst hw
    go_wp2
    go_quiet (fail)
    go_wp2
    go_ret3
    exact ⟨by rw [HR.out]; rfl, nq, rfl⟩

set_option maxHeartbeats 400000 in
theorem cut_one (s : ByteArray) (c : UInt8) (w : World) (hs : s.size ≤ maxLen) :
    Calls Tryz.prog 142 #[.string s, .string ⟨#[c]⟩] w fun e w' => e = .returned (Fd.cutV c s) ∧ ∃ n, w' = w.drewN n := by
  have HC := Hid.mk' (slCut_one s c w hs)
  unfold Fd.cutV at HC ⊢
  split at HC
  · rename_i h
    rw [if_pos h]
    go_enter Tryz.func142, Tryz.ntmps142
    go_wp2_with fail
    refine HC.out.mono ?_
    rintro e w1 ⟨rfl, n, hw⟩
    subst hw
    go_wp2
    go_ret3
    exact ⟨rfl, n, rfl⟩
  · rename_i h
    rw [if_neg h]
    go_enter Tryz.func142, Tryz.ntmps142
    go_wp2_with fail
    refine HC.out.mono ?_
    rintro e w1 ⟨rfl, n, hw⟩
    subst hw
    go_wp2
    go_ret3
    exact ⟨rfl, n, rfl⟩
end Go.Proofs.YtjpenioloeplgacGreatDoor

/- Package chars, walked: digit. -/
namespace Go.Proofs.YtjpenioloeplgacGreatDoor
open Go.RowKit

set_option maxHeartbeats 400000 in
theorem digit_any (c : Int) (w : World) :
    Calls Tryz.prog 148 #[.int .u8 c] w fun e w' => e = .returned (.bool (Ch.digit c)) ∧ w' = w := by
  go_enter Tryz.func148, Tryz.ntmps148
  go_wp2
  all_goals go_ret
  all_goals refine ⟨ret_bool ?_, rfl⟩
  all_goals (simp [Ch.digit]; try omega)
end Go.Proofs.YtjpenioloeplgacGreatDoor

/- Package chars, walked: capital. -/
namespace Go.Proofs.YtjpenioloeplgacGreatDoor
open Go.RowKit

set_option maxHeartbeats 400000 in
theorem capital_any (c : Int) (w : World) :
    Calls Tryz.prog 172 #[.int .u8 c] w fun e w' => e = .returned (.bool (Ch.capital c)) ∧ w' = w := by
  go_enter Tryz.func172, Tryz.ntmps172
  go_wp2
  all_goals go_ret
  all_goals refine ⟨ret_bool ?_, rfl⟩
  all_goals (simp [Ch.capital]; try omega)
end Go.Proofs.YtjpenioloeplgacGreatDoor

/- Package chars, walked: Letter. -/
namespace Go.Proofs.YtjpenioloeplgacGreatDoor
open Go.RowKit

set_option maxHeartbeats 400000 in
theorem letter_any (c : Int) (w : World) :
    Calls Tryz.prog 149 #[.int .u8 c] w fun e w' => e = .returned (.bool (Ch.letter c)) ∧ w' = w := by
  go_enter Tryz.func149, Tryz.ntmps149
  go_wp2_with (go_at_call 172; refine (capital_any _ _).mono ?_; rintro e w' ⟨rfl, rfl⟩)
  all_goals go_ret
  all_goals refine ⟨ret_bool ?_, rfl⟩
  all_goals (unfold Ch.letter; first | (rw [decide_eq_true (show 97 ≤ c by omega)]; simp; try omega) | (rw [decide_eq_false (show ¬ 97 ≤ c by omega)]; simp; try omega))
end Go.Proofs.YtjpenioloeplgacGreatDoor

/- Package chars, walked: Token. -/
namespace Go.Proofs.YtjpenioloeplgacGreatDoor
open Go.RowKit

set_option maxHeartbeats 400000 in
theorem token_any (c : Int) (w : World) :
    Calls Tryz.prog 117 #[.int .u8 c] w fun e w' => e = .returned (.bool (Ch.token c)) ∧ w' = w := by
  have hm := indexByte_any ⟨#[33, 35, 36, 37, 38, 39, 42, 43, 45, 46, 94, 95, 96, 124, 126]⟩ c w
  have HM : Hid (Lib.indexByte [33, 35, 36, 37, 38, 39, 42, 43, 45, 46, 94, 95, 96, 124, 126] c.toNat.toUInt8 = Lib.indexByte Ch.marks c.toNat.toUInt8) := rfl
  generalize (Lib.indexByte [33, 35, 36, 37, 38, 39, 42, 43, 45, 46, 94, 95, 96, 124, 126] c.toNat.toUInt8) = r at hm HM
  cases hd : Ch.digit c
  · cases hl : Ch.letter c
    all_goals
      have HH : Hid (Ch.token c = (Ch.digit c || Ch.letter c || decide (0 ≤ r))) := by rw [HM.out]; rfl
      go_enter Tryz.func117, Tryz.ntmps117
      go_wp2_with (first | (go_at_call 148; refine (digit_any _ _).mono ?_; rintro e w' ⟨rfl, rfl⟩) | (go_at_call 149; refine (letter_any _ _).mono ?_; rintro e w' ⟨rfl, rfl⟩) | (go_at_call 150; refine hm.mono ?_; rintro e w' ⟨rfl, rfl⟩))
      go_ret
      refine ⟨ret_bool ?_, rfl⟩
      rw [HH.out, hd, hl]
      simp
  · have HH : Hid (Ch.token c = (Ch.digit c || Ch.letter c || decide (0 ≤ r))) := by rw [HM.out]; rfl
    go_enter Tryz.func117, Tryz.ntmps117
    go_wp2_with (first | (go_at_call 148; refine (digit_any _ _).mono ?_; rintro e w' ⟨rfl, rfl⟩) | (go_at_call 149; refine (letter_any _ _).mono ?_; rintro e w' ⟨rfl, rfl⟩) | (go_at_call 150; refine hm.mono ?_; rintro e w' ⟨rfl, rfl⟩))
    go_ret
    refine ⟨ret_bool ?_, rfl⟩
    rw [HH.out, hd]
    simp
end Go.Proofs.YtjpenioloeplgacGreatDoor

/- Package chars, walked: all, of Token. -/
namespace Go.Proofs.YtjpenioloeplgacGreatDoor
open Go.RowKit

set_option maxHeartbeats 400000 in
theorem all_token (s : ByteArray) (w : World) (hs : s.size ≤ maxLen) :
    Calls Tryz.prog 101 #[.string s, .func (.func 117) #[] #[]] w fun e w' => e = .returned (.bool (Ch.allToken s.data.toList)) ∧ w' = w := by
  unfold maxLen at hs
  go_enter Tryz.func101, Tryz.ntmps101
  go_wp2
  go_loop [8] (fun i => ∃ k : Nat, k ≤ s.size ∧ i = .int .i64 k ∧ ((s.data.toList.take k).all fun b => Ch.token b.toNat) = true) (fun i => s.size - (intOf i).toNat)
  case atStart => exact ⟨0, Nat.zero_le _, rfl, rfl⟩
  case round =>
    obtain ⟨k, hk, rfl, hno⟩ := hrel
    have HN : Hid (((s.data.toList.take k).all fun b => Ch.token b.toNat) = true) := hno
    clear hno
    by_cases hlt : k < s.size
    · cases he : Ch.token (s[k].toNat : Int)
      · have HE : Hid (Ch.token (s[k].toNat : Int) = false) := he
        go_wp2_with (go_at_call 117; refine (token_any _ _).mono ?_; rintro e w' ⟨rfl, rfl⟩)
        go_ret
        refine ⟨ret_bool ?_, rfl⟩
        exact (Ch.all_of_take (fun b => Ch.token b.toNat) s k hlt HE.out).symm
      · have HE : Hid (Ch.token (s[k].toNat : Int) = true) := he
        go_wp2_with (go_at_call 117; refine (token_any _ _).mono ?_; rintro e w' ⟨rfl, rfl⟩)
        go_round
        case rel => exact ⟨k + 1, by omega, by go_num, by rw [Ch.take_snoc s k hlt, Ch.all_snoc, HN.out, HE.out]; rfl⟩
        case measure => simp [intOf]; omega
    · go_wp2
      go_ret
      refine ⟨ret_bool ?_, rfl⟩
      rw [← HN.out, Ch.take_all s k (by omega)]
      rfl
end Go.Proofs.YtjpenioloeplgacGreatDoor

/- Package chars, walked: IsToken. -/
namespace Go.Proofs.YtjpenioloeplgacGreatDoor
open Go.RowKit

set_option maxHeartbeats 400000 in
theorem isToken_any (s : ByteArray) (w : World) (hs : s.size ≤ maxLen) :
    Calls Tryz.prog 87 #[.string s] w fun e w' => e = .returned (.bool (Ch.isToken s.data.toList)) ∧ w' = w := by
  by_cases h0 : s.size = 0
  · obtain rfl := Ch.empty_eq s h0
    go_enter Tryz.func87, Tryz.ntmps87
    go_wp2
    go_ret
    exact ⟨rfl, rfl⟩
  · have hne := Ch.isEmpty_false s (by omega)
    have HT : Hid (Ch.allToken s.data.toList = Ch.isToken s.data.toList) := by
      unfold Hid Ch.isToken Ch.allToken; rw [← Lib.toList_data, hne]; simp
    go_enter Tryz.func87, Tryz.ntmps87
    go_wp2_with (go_at_call 101; refine (all_token _ _ hs).mono ?_; rintro e w' ⟨rfl, rfl⟩)
    go_ret
    exact ⟨ret_bool HT.out, rfl⟩
end Go.Proofs.YtjpenioloeplgacGreatDoor

/- Package chars, walked: all, of Visible. -/
namespace Go.Proofs.YtjpenioloeplgacGreatDoor
open Go.RowKit

set_option maxHeartbeats 400000 in
theorem all_visible (s : ByteArray) (w : World) (hs : s.size ≤ maxLen) :
    Calls Tryz.prog 101 #[.string s, .func (.func 96) #[] #[]] w fun e w' => e = .returned (.bool (Ch.isVisible s.data.toList)) ∧ w' = w := by
  unfold maxLen at hs
  go_enter Tryz.func101, Tryz.ntmps101
  go_wp2
  go_loop [8] (fun i => ∃ k : Nat, k ≤ s.size ∧ i = .int .i64 k ∧ ((s.data.toList.take k).all fun b => Ch.visible b.toNat) = true) (fun i => s.size - (intOf i).toNat)
  case atStart => exact ⟨0, Nat.zero_le _, rfl, rfl⟩
  case round =>
    obtain ⟨k, hk, rfl, hno⟩ := hrel
    have HN : Hid (((s.data.toList.take k).all fun b => Ch.visible b.toNat) = true) := hno
    clear hno
    by_cases hlt : k < s.size
    · cases he : Ch.visible (s[k].toNat : Int)
      · have HE : Hid (Ch.visible (s[k].toNat : Int) = false) := he
        go_wp2_with (go_at_call 96; refine (visible_any _ _).mono ?_; rintro e w' ⟨rfl, rfl⟩)
        go_ret
        refine ⟨ret_bool ?_, rfl⟩
        exact (Ch.all_of_take (fun b => Ch.visible b.toNat) s k hlt HE.out).symm
      · have HE : Hid (Ch.visible (s[k].toNat : Int) = true) := he
        go_wp2_with (go_at_call 96; refine (visible_any _ _).mono ?_; rintro e w' ⟨rfl, rfl⟩)
        go_round
        case rel => exact ⟨k + 1, by omega, by go_num, by rw [Ch.take_snoc s k hlt, Ch.all_snoc, HN.out, HE.out]; rfl⟩
        case measure => simp [intOf]; omega
    · go_wp2
      go_ret
      refine ⟨ret_bool ?_, rfl⟩
      rw [← HN.out, Ch.take_all s k (by omega)]
      rfl
end Go.Proofs.YtjpenioloeplgacGreatDoor

/- Package chars, walked: IsVisible. -/
namespace Go.Proofs.YtjpenioloeplgacGreatDoor
open Go.RowKit

set_option maxHeartbeats 400000 in
theorem isVisible_any (s : ByteArray) (w : World) (hs : s.size ≤ maxLen) :
    Calls Tryz.prog 66 #[.string s] w fun e w' => e = .returned (.bool (Ch.isVisible s.data.toList)) ∧ w' = w := by
  go_enter Tryz.func66, Tryz.ntmps66
  go_wp2_with (go_at_call 101; refine (all_visible _ _ hs).mono ?_; rintro e w' ⟨rfl, rfl⟩)
  go_ret
  exact ⟨rfl, rfl⟩
end Go.Proofs.YtjpenioloeplgacGreatDoor

/- Package chars, walked: Hex. -/
namespace Go.Proofs.YtjpenioloeplgacGreatDoor
open Go.RowKit

set_option maxHeartbeats 400000 in
theorem hex_any (c : Int) (w : World) (h0 : 0 ≤ c) (h1 : c ≤ 255) :
    Calls Tryz.prog 208 #[.int .u8 c] w fun e w' => e = .returned (.int .i64 (Ch.hex c)) ∧ w' = w := by
  have HH : Hid (Ch.hex c = if Ch.digit c then c - 48 else if decide (97 ≤ c) && decide (c ≤ 102) then c - 87 else if decide (65 ≤ c) && decide (c ≤ 70) then c - 55 else -1) := rfl
  cases hd : Ch.digit c
  · go_enter Tryz.func208, Tryz.ntmps208
    go_wp2_with (go_at_call 148; refine (digit_any _ _).mono ?_; rintro e w' ⟨rfl, rfl⟩)
    all_goals go_ret
    all_goals refine ⟨ret_int ?_, rfl⟩
    all_goals (rw [HH.out, hd]; simp only [Bool.false_eq_true, if_false, Bool.and_eq_true, decide_eq_true_eq]; repeat' split) <;> omega
  · have hd' : 48 ≤ c ∧ c ≤ 57 := by simpa [Ch.digit] using hd
    go_enter Tryz.func208, Tryz.ntmps208
    go_wp2_with (go_at_call 148; refine (digit_any _ _).mono ?_; rintro e w' ⟨rfl, rfl⟩)
    go_ret
    refine ⟨ret_int ?_, rfl⟩
    rw [HH.out, hd, if_pos rfl]
end Go.Proofs.YtjpenioloeplgacGreatDoor
