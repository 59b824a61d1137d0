/- Small texts, one behind the other: RfOne, RfTokB, RfScan, RfSeen. -/
import Derived.Test.YtohddkniphcecabPk2
import Derived.Test.YtohddkniphcecabPk1
import Derived.Test.YtohddkniphcecabProg
/- The document's own answer, walked: one. -/
namespace Go.Proofs.Ytohddkniphcecab
open Go.RowKit

set_option maxHeartbeats 400000 in
theorem one_any (c : Int) (s : ByteArray) (w : World) (hs : s.size ≤ maxLen) :
    Calls Try.prog 52 #[.int .u8 c, .string s] w fun e w' => e = .returned (.bool (Ch.oneOf c s.data.toList)) ∧ w' = w := by
  unfold maxLen at hs
  go_enter Try.func52, Try.ntmps52
  go_wp2
  go_loop [5] (fun i => ∃ k : Nat, k ≤ s.size ∧ i = .int .i64 k ∧ Ch.oneOf c (s.data.toList.take k) = false) (fun i => s.size - (intOf i).toNat)
  case atStart => exact ⟨0, Nat.zero_le _, rfl, rfl⟩
  case round =>
    obtain ⟨k, hk, rfl, hno⟩ := hrel
    have HN : Hid (Ch.oneOf c (s.data.toList.take k) = false) := hno
    clear hno
    by_cases hlt : k < s.size
    · by_cases he : ((s[k].toNat : Int)) = c
      · have HE : Hid ((s[k].toNat : Int) = c) := he
        have hb : (((s[k].toNat : Int)) == c) = true := beq_iff_eq.2 he
        clear he
        go_wp2
        go_ret
        refine ⟨ret_bool ?_, rfl⟩
        exact (Ch.any_of_take (fun b => (b.toNat : Int) == c) s k hlt (beq_iff_eq.2 HE.out)).symm
      · have hb : (((s[k].toNat : Int)) == c) = false := beq_eq_false_iff_ne.2 he
        have HB : Hid ((((s[k].toNat : Int)) == c) = false) := hb
        clear he
        go_wp2
        go_round
        case rel => exact ⟨k + 1, by omega, by go_num, by rw [Ch.take_snoc s k hlt, Ch.oneOf_snoc, HN.out, HB.out]; rfl⟩
        case measure => simp [intOf]; omega
    · go_wp2
      go_ret
      refine ⟨ret_bool ?_, rfl⟩
      rw [← HN.out, Ch.take_all s k (by omega)]
end Go.Proofs.Ytohddkniphcecab

/- The document's own answer, walked: IsTokenByte. -/
namespace Go.Proofs.Ytohddkniphcecab
open Go.RowKit

set_option maxHeartbeats 1000000 in
theorem isTokenByte_any (c : Int) (w : World) (h0 : 0 ≤ c) (h1 : c ≤ 255) :
    Calls Try.prog 40 #[.int .u8 c] w fun e w' => e = .returned (.bool (Ch.token c)) ∧ w' = w := by
  have HT : Hid (Ch.oneOf c Ch.tokens = Ch.token c) := Ch.oneOf_tokens c h0 h1
  have hm := one_any c ⟨Ch.tokens.toArray⟩ w (by decide)
  go_enter Try.func40, Try.ntmps40
  go_wp2_with fail
  refine hm.mono ?_
  rintro e w' ⟨rfl, rfl⟩
  go_wp2
  go_ret
  exact ⟨ret_bool HT.out, rfl⟩
end Go.Proofs.Ytohddkniphcecab

/- The document's own answer, walked: blanks, word. -/
namespace Go.Proofs.Ytohddkniphcecab
open Go.RowKit

theorem list_at (s : ByteArray) (k : Nat) (h : k < s.size) : s.data.toList[k]'(by rw [Array.length_toList]; exact h) = s[k] := by simp [ByteArray.getElem_eq_getElem_data]

set_option maxHeartbeats 800000 in
theorem blanks_any (s : ByteArray) (i : Nat) (w : World) (hs : s.size ≤ 1000000) (hi : i ≤ s.size) :
    Calls Try.prog 19 #[.string s, .int .i64 i] w fun e w' => e = .returned (.int .i64 (Pm.blanks s.data.toList i)) ∧ w' = w := by
  have hl : s.data.toList.length = s.size := by rw [Array.length_toList]; rfl
  have HL := Hid.mk' hl
  clear hl
  go_enter Try.func19, Try.ntmps19
  go_wp2
  go_loop [1] (fun t => ∃ k : Nat, k ≤ s.size ∧ t = .int .i64 k ∧ Pm.blanks s.data.toList i = Pm.blanks s.data.toList k) (fun t => s.size - (intOf t).toNat)
  case atStart => exact ⟨i, hi, rfl, rfl⟩
  case round =>
    obtain ⟨k, hk, rfl, hg⟩ := hrel
    have HG := Hid.mk' hg
    clear hg
    by_cases hlt : k < s.size
    · have HLL : Hid (k < s.data.toList.length) := by unfold Hid; rw [HL.out]; exact hlt
      have hat := list_at s k hlt
      have hlt' : (k : Int) < s.size := by omega
      have tl : decide ((k : Int) < s.size) = true := by rw [decide_eq_true_eq]; omega
      cases hb : Pm.blank s[k]
      · have HR : Hid (Pm.blanks s.data.toList i = k) := by
          refine HG.out.trans ?_
          unfold Pm.blanks; rw [Pm.run_stop HLL.out (by rw [hat]; exact hb)]; rfl
        unfold Pm.blank at hb
        rw [Bool.or_eq_false_iff, beq_eq_false_iff_ne, beq_eq_false_iff_ne] at hb
        have b1 : ((s[k].toNat : Int) == 32) = false := byte_ne' hb.1
        have b2 : ((s[k].toNat : Int) == 9) = false := byte_ne' hb.2
        have n1 : ¬ (s[k].toNat : Int) = 32 := beq_eq_false_iff_ne.1 b1
        have n2 : ¬ (s[k].toNat : Int) = 9 := beq_eq_false_iff_ne.1 b2
        clear hat hb
        go_wp2
        case roundEnd =>
          exfalso
          have hx : ((s[k].toNat : Int) == 32) = true ∨ ((s[k].toNat : Int) == 9) = true := by assumption
          rw [b1, b2] at hx
          rcases hx with hx | hx <;> cases hx
        go_ret
        exact ⟨ret_int (by rw [HR.out]), rfl⟩
      · have HR : Hid (Pm.blanks s.data.toList i = Pm.blanks s.data.toList (k + 1)) := by
          refine HG.out.trans ?_
          unfold Pm.blanks; rw [Pm.run_step HLL.out (by rw [hat]; exact hb)]; omega
        unfold Pm.blank at hb
        rw [Bool.or_eq_true, beq_iff_eq, beq_iff_eq] at hb
        by_cases h32 : s[k] = 32
        · have b1 : ((s[k].toNat : Int) == 32) = true := by rw [h32]; rfl
          have n1 : (s[k].toNat : Int) = 32 := beq_iff_eq.1 b1
          clear hat hb h32 b1
          go_wp2
          go_round
          case rel => exact ⟨k + 1, by omega, by go_num, HR.out⟩
          case measure => simp [intOf]; omega
        · have b1 : ((s[k].toNat : Int) == 32) = false := byte_ne' h32
          have b2 : ((s[k].toNat : Int) == 9) = true := by rw [hb.resolve_left h32]; rfl
          have n1 : ¬ (s[k].toNat : Int) = 32 := beq_eq_false_iff_ne.1 b1
          clear hat hb h32
          go_wp2
          case roundEnd =>
            go_round
            case rel => exact ⟨k + 1, by omega, by go_num, HR.out⟩
            case measure => simp [intOf]; omega
          exfalso
          have hx : ((s[k].toNat : Int) == 32) = false ∧ ((s[k].toNat : Int) == 9) = false := by assumption
          rw [b2] at hx
          cases hx.2
    · obtain rfl : k = s.size := by omega
      have HR : Hid (Pm.blanks s.data.toList i = s.size) := by
        refine HG.out.trans ?_
        unfold Pm.blanks; rw [Pm.run_end _ (by rw [HL.out]; exact Nat.le_refl _)]; rfl
      go_wp2
      go_ret
      exact ⟨ret_int (by rw [HR.out]), rfl⟩

set_option maxHeartbeats 800000 in
theorem word_any (s : ByteArray) (i : Nat) (w : World) (hs : s.size ≤ 1000000) (hi : i ≤ s.size) :
    Calls Try.prog 20 #[.string s, .int .i64 i] w fun e w' => e = .returned (.int .i64 (Pm.word s.data.toList i)) ∧ w' = w := by
  have hl : s.data.toList.length = s.size := by rw [Array.length_toList]; rfl
  have HL := Hid.mk' hl
  clear hl
  go_enter Try.func20, Try.ntmps20
  go_wp2
  go_loop [5] (fun t => ∃ n : Nat, i + n ≤ s.size ∧ t = .int .i64 n ∧ Pm.word s.data.toList i = n + Pm.word s.data.toList (i + n)) (fun t => s.size - (intOf t).toNat)
  case atStart => exact ⟨0, hi, rfl, by rw [Nat.zero_add]; rfl⟩
  case round =>
    obtain ⟨n, hn, rfl, hg⟩ := hrel
    have HG := Hid.mk' hg
    clear hg
    by_cases hlt : i + n < s.size
    · have HLL : Hid (i + n < s.data.toList.length) := by unfold Hid; rw [HL.out]; exact hlt
      have hat := list_at s (i + n) hlt
      have hlt' : (i : Int) + n < s.size := by omega
      have tl : decide ((i : Int) + n < s.size) = true := by rw [decide_eq_true_eq]; omega
      have hb := s[i + n].toNat_lt
      have HT := Hid.mk' (isTokenByte_any (s[i + n].toNat : Int) w (by omega) (by omega))
      cases ht : Ch.token (s[i + n].toNat : Int)
      · have HR : Hid (Pm.word s.data.toList i = n) := by
          refine HG.out.trans ?_
          unfold Pm.word; rw [Pm.run_stop HLL.out (by rw [hat]; exact ht)]; rfl
        rw [ht] at HT
        clear hat ht
        go_wp2_with fail
        refine HT.out.mono ?_
        rintro e w1 ⟨rfl, hw⟩
        subst hw
        go_wp2
        go_ret
        exact ⟨ret_int (by rw [HR.out]), rfl⟩
      · have HR : Hid (Pm.word s.data.toList i = (n + 1) + Pm.word s.data.toList (i + (n + 1))) := by
          refine HG.out.trans ?_
          unfold Pm.word; rw [Pm.run_step HLL.out (by rw [hat]; exact ht), ← Nat.add_assoc i n 1]; omega
        rw [ht] at HT
        clear hat ht
        go_wp2_with fail
        refine HT.out.mono ?_
        rintro e w1 ⟨rfl, hw⟩
        subst hw
        go_wp2
        go_round
        case rel => exact ⟨n + 1, by omega, by go_num, HR.out⟩
        case measure => simp [intOf]; omega
    · have ht : decide ((i : Int) + n < s.size) = false := by rw [decide_eq_false_iff_not]; omega
      have HR : Hid (Pm.word s.data.toList i = n) := by
        refine HG.out.trans ?_
        unfold Pm.word; rw [Pm.run_end _ (by rw [HL.out]; omega)]; rfl
      go_wp2
      go_ret
      exact ⟨ret_int (by rw [HR.out]), rfl⟩
end Go.Proofs.Ytohddkniphcecab

/- The document's own answer, walked: IsSeen. -/
namespace Go.Proofs.Ytohddkniphcecab
open Go.RowKit

set_option maxHeartbeats 400000 in
theorem isSeen_any (c : Int) (w : World) :
    Calls Try.prog 39 #[.int .u8 c] w fun e w' => e = .returned (.bool (Ch.visible c)) ∧ w' = w := by
  by_cases h9 : c = 9
  · subst h9
    go_enter Try.func39, Try.ntmps39
    go_wp2
    go_ret
    exact ⟨ret_bool (by decide), rfl⟩
  · have h9' : (c == 9) = false := beq_eq_false_iff_ne.2 h9
    go_enter Try.func39, Try.ntmps39
    go_wp2
    all_goals go_ret
    all_goals refine ⟨ret_bool ?_, rfl⟩
    all_goals (unfold Ch.visible; rw [h9']; first | (rw [decide_eq_true (show 32 ≤ c by omega)]; simp) | (rw [decide_eq_false (show ¬ 32 ≤ c by omega)]; simp))
end Go.Proofs.Ytohddkniphcecab
