/- Small texts, one behind the other: RfSmall, RfOne, RfTokB, RfTokT, RfSeen, RfSeenT, RfTrim, RfFText, RfNum. -/
import Derived.Test.YtjhbiipbmlpgoaaDoorBase
import Derived.Test.YtjhbiipbmlpgoaaDoorPk1
import Derived.Test.YtjhbiipbmlpgoaaDoorProg
/- The document's own answer, walked: Small. -/
namespace Go.Proofs.YtjhbiipbmlpgoaaDoor
open Go.RowKit

set_option maxHeartbeats 400000 in
theorem small_any (s : ByteArray) (w : World) (hs : s.size ≤ 2000) :
    Calls Tryd.prog 32 #[.string s] w fun e w' => e = .returned (.string ⟨(Ch.lower s.data.toList).toArray⟩) ∧ ∃ n, w' = w.drewN n := by
  go_enter Tryd.func32, Tryd.ntmps32
  go_wp2
  go_loopw [3, 4] (fun o i wr => ∃ k n : Nat, ∃ x : ByteArray, k ≤ s.size ∧ i = .int .i64 k ∧ o = .string x ∧ x.data.toList = Ch.lower (s.data.toList.take k) ∧ wr = w.drewN n) (fun _ i _ => s.size - (intOf i).toNat)
  case atStart => exact ⟨0, 0, ⟨#[]⟩, Nat.zero_le _, rfl, rfl, rfl, rfl⟩
  case round =>
    obtain ⟨k, n, x, hk, rfl, rfl, hx, rfl⟩ := hrel
    have hxs : x.size ≤ 2000 := by
      have := Ch.size_of_list hx
      rw [Ch.lower_length] at this
      have h2 : (s.data.toList.take k).length ≤ k := List.length_take_le _ _
      omega
    have HX : Hid (x.data.toList = Ch.lower (s.data.toList.take k)) := hx
    clear hx
    by_cases hlt : k < s.size
    · go_wp2
      go_loopw [5, 6] (fun c i wr => ∃ j n : Nat, ∃ y : ByteArray, j ≤ 26 ∧ i = .int .i64 j ∧ c = .string y ∧ y.data.toList = [Ch.lowTo s[k] j] ∧ wr = w.drewN n) (fun _ i _ => 26 - (intOf i).toNat)
      case atStart => exact ⟨0, n, _, Nat.zero_le _, rfl, rfl, by rw [Ch.one_at s k hlt, Ch.lowTo_zero], rfl⟩
      case round =>
        obtain ⟨j, n, y, hj, rfl, rfl, hy, rfl⟩ := hrel
        have hys : y.size ≤ 1 := by have := Ch.size_of_list hy; simp at this; omega
        have HY : Hid (y.data.toList = [Ch.lowTo s[k] j]) := hy
        clear hy
        by_cases hlj : j < 26
        · go_wp2
          go_quiet (fail)
          go_wp2
          · have he : (((((⟨#[65, 66, 67, 68, 69, 70, 71, 72, 73, 74, 75, 76, 77, 78, 79, 80, 81, 82, 83, 84, 85, 86, 87, 88, 89, 90]⟩ : ByteArray)[j]'hlj).toNat : Nat) : Int) == (s[k].toNat : Int)) = true := by assumption
            go_roundw
            case rel => exact ⟨j + 1, n + nq, _, by omega, by go_num, rfl, Ch.lowTo_hit _ _ hlj he, by simp [World.drewN]⟩
            case measure => simp [intOf]; omega
          · have he : (((((⟨#[65, 66, 67, 68, 69, 70, 71, 72, 73, 74, 75, 76, 77, 78, 79, 80, 81, 82, 83, 84, 85, 86, 87, 88, 89, 90]⟩ : ByteArray)[j]'hlj).toNat : Nat) : Int) == (s[k].toNat : Int)) = false := by assumption
            go_roundw
            case rel => exact ⟨j + 1, n + nq, y, by omega, by go_num, rfl, by rw [HY.out, Ch.lowTo_miss _ _ hlj he], by simp [World.drewN]⟩
            case measure => simp [intOf]; omega
        · obtain rfl : j = 26 := by omega
          go_wp2
          go_roundw
          case rel => exact ⟨k + 1, n, x ++ y, by omega, by go_num, rfl, by rw [Ch.data_append, HX.out, HY.out, Ch.take_snoc s k hlt, Ch.lower_snoc]; rfl, rfl⟩
          case measure => simp [intOf]; omega
    · go_wp2
      go_ret
      exact ⟨ret_str (Ch.str_eq (by rw [HX.out, Ch.take_all s k (by omega)])), n, rfl⟩
end Go.Proofs.YtjhbiipbmlpgoaaDoor

/- The document's own answer, walked: one. -/
namespace Go.Proofs.YtjhbiipbmlpgoaaDoor
open Go.RowKit

set_option maxHeartbeats 400000 in
theorem one_any (c : Int) (s : ByteArray) (w : World) (hs : s.size ≤ maxLen) :
    Calls Tryd.prog 41 #[.int .u8 c, .string s] w fun e w' => e = .returned (.bool (Ch.oneOf c s.data.toList)) ∧ w' = w := by
  unfold maxLen at hs
  go_enter Tryd.func41, Tryd.ntmps41
  go_wp2
  go_loop [5] (fun i => ∃ k : Nat, k ≤ s.size ∧ i = .int .i64 k ∧ Ch.oneOf c (s.data.toList.take k) = false) (fun i => s.size - (intOf i).toNat)
  case atStart => exact ⟨0, Nat.zero_le _, rfl, rfl⟩
  case round =>
    obtain ⟨k, hk, rfl, hno⟩ := hrel
    have HN : Hid (Ch.oneOf c (s.data.toList.take k) = false) := hno
    clear hno
    by_cases hlt : k < s.size
    · by_cases he : ((s[k].toNat : Int)) = c
      · have HE : Hid ((s[k].toNat : Int) = c) := he
        have hb : (((s[k].toNat : Int)) == c) = true := beq_iff_eq.2 he
        clear he
        go_wp2
        go_ret
        refine ⟨ret_bool ?_, rfl⟩
        exact (Ch.any_of_take (fun b => (b.toNat : Int) == c) s k hlt (beq_iff_eq.2 HE.out)).symm
      · have hb : (((s[k].toNat : Int)) == c) = false := beq_eq_false_iff_ne.2 he
        have HB : Hid ((((s[k].toNat : Int)) == c) = false) := hb
        clear he
        go_wp2
        go_round
        case rel => exact ⟨k + 1, by omega, by go_num, by rw [Ch.take_snoc s k hlt, Ch.oneOf_snoc, HN.out, HB.out]; rfl⟩
        case measure => simp [intOf]; omega
    · go_wp2
      go_ret
      refine ⟨ret_bool ?_, rfl⟩
      rw [← HN.out, Ch.take_all s k (by omega)]
end Go.Proofs.YtjhbiipbmlpgoaaDoor

/- The document's own answer, walked: IsTokenByte. -/
namespace Go.Proofs.YtjhbiipbmlpgoaaDoor
open Go.RowKit

set_option maxHeartbeats 1000000 in
theorem isTokenByte_any (c : Int) (w : World) (h0 : 0 ≤ c) (h1 : c ≤ 255) :
    Calls Tryd.prog 33 #[.int .u8 c] w fun e w' => e = .returned (.bool (Ch.token c)) ∧ w' = w := by
  have HT : Hid (Ch.oneOf c Ch.tokens = Ch.token c) := Ch.oneOf_tokens c h0 h1
  have hm := one_any c ⟨Ch.tokens.toArray⟩ w (by decide)
  go_enter Tryd.func33, Tryd.ntmps33
  go_wp2_with fail
  refine hm.mono ?_
  rintro e w' ⟨rfl, rfl⟩
  go_wp2
  go_ret
  exact ⟨ret_bool HT.out, rfl⟩
end Go.Proofs.YtjhbiipbmlpgoaaDoor

/- The document's own answer, walked: TokenText. -/
namespace Go.Proofs.YtjhbiipbmlpgoaaDoor
open Go.RowKit

set_option maxHeartbeats 400000 in
theorem tokenText_any (s : ByteArray) (w : World) (hs : s.size ≤ maxLen) :
    Calls Tryd.prog 24 #[.string s] w fun e w' => e = .returned (.bool (Ch.isToken s.data.toList)) ∧ w' = w := by
  unfold maxLen at hs
  go_enter Tryd.func24, Tryd.ntmps24
  go_wp2
  go_loop [3] (fun i => ∃ k : Nat, k ≤ s.size ∧ i = .int .i64 k ∧ ((s.data.toList.take k).all fun b => Ch.token b.toNat) = true) (fun i => s.size - (intOf i).toNat)
  case atStart => exact ⟨0, Nat.zero_le _, rfl, rfl⟩
  case round =>
    obtain ⟨k, hk, rfl, hno⟩ := hrel
    have HN : Hid (((s.data.toList.take k).all fun b => Ch.token b.toNat) = true) := hno
    clear hno
    by_cases hlt : k < s.size
    · have hb := s[k].toNat_lt
      cases he : Ch.token (s[k].toNat : Int)
      · have HE : Hid (Ch.token (s[k].toNat : Int) = false) := he
        go_wp2_with (go_at_call 33; refine (isTokenByte_any _ _ (by omega) (by omega)).mono ?_; rintro e w' ⟨rfl, rfl⟩)
        go_ret
        refine ⟨ret_bool ?_, rfl⟩
        unfold Ch.isToken
        rw [Ch.all_of_take (fun b => Ch.token b.toNat) s k hlt HE.out]; simp
      · have HE : Hid (Ch.token (s[k].toNat : Int) = true) := he
        go_wp2_with (go_at_call 33; refine (isTokenByte_any _ _ (by omega) (by omega)).mono ?_; rintro e w' ⟨rfl, rfl⟩)
        go_round
        case rel => exact ⟨k + 1, by omega, by go_num, by rw [Ch.take_snoc s k hlt, Ch.all_snoc, HN.out, HE.out]; rfl⟩
        case measure => simp [intOf]; omega
    · go_wp2
      go_ret
      refine ⟨ret_bool ?_, rfl⟩
      have h : ((s.data.toList).all fun b => Ch.token b.toNat) = true := by rw [← HN.out, Ch.take_all s k (by omega)]
      unfold Ch.isToken
      rw [h]
      by_cases hz : s.size = 0
      · obtain rfl := Ch.empty_eq s hz
        rfl
      · rw [← Lib.toList_data, Ch.isEmpty_false s (by omega)]
        simp; omega
end Go.Proofs.YtjhbiipbmlpgoaaDoor

/- The document's own answer, walked: IsSeen. -/
namespace Go.Proofs.YtjhbiipbmlpgoaaDoor
open Go.RowKit

set_option maxHeartbeats 400000 in
theorem isSeen_any (c : Int) (w : World) :
    Calls Tryd.prog 22 #[.int .u8 c] w fun e w' => e = .returned (.bool (Ch.visible c)) ∧ w' = w := by
  by_cases h9 : c = 9
  · subst h9
    go_enter Tryd.func22, Tryd.ntmps22
    go_wp2
    go_ret
    exact ⟨ret_bool (by decide), rfl⟩
  · have h9' : (c == 9) = false := beq_eq_false_iff_ne.2 h9
    go_enter Tryd.func22, Tryd.ntmps22
    go_wp2
    all_goals go_ret
    all_goals refine ⟨ret_bool ?_, rfl⟩
    all_goals (unfold Ch.visible; rw [h9']; first | (rw [decide_eq_true (show 32 ≤ c by omega)]; simp) | (rw [decide_eq_false (show ¬ 32 ≤ c by omega)]; simp))
end Go.Proofs.YtjhbiipbmlpgoaaDoor

/- The document's own answer, walked: SeenText. -/
namespace Go.Proofs.YtjhbiipbmlpgoaaDoor
open Go.RowKit

set_option maxHeartbeats 400000 in
theorem seenText_any (s : ByteArray) (w : World) (hs : s.size ≤ maxLen) :
    Calls Tryd.prog 25 #[.string s] w fun e w' => e = .returned (.bool (Ch.isVisible s.data.toList)) ∧ w' = w := by
  unfold maxLen at hs
  go_enter Tryd.func25, Tryd.ntmps25
  go_wp2
  go_loop [3] (fun i => ∃ k : Nat, k ≤ s.size ∧ i = .int .i64 k ∧ ((s.data.toList.take k).all fun b => Ch.visible b.toNat) = true) (fun i => s.size - (intOf i).toNat)
  case atStart => exact ⟨0, Nat.zero_le _, rfl, rfl⟩
  case round =>
    obtain ⟨k, hk, rfl, hno⟩ := hrel
    have HN : Hid (((s.data.toList.take k).all fun b => Ch.visible b.toNat) = true) := hno
    clear hno
    by_cases hlt : k < s.size
    · have hb := s[k].toNat_lt
      cases he : Ch.visible (s[k].toNat : Int)
      · have HE : Hid (Ch.visible (s[k].toNat : Int) = false) := he
        go_wp2_with (go_at_call 22; refine (isSeen_any _ _).mono ?_; rintro e w' ⟨rfl, rfl⟩)
        go_ret
        refine ⟨ret_bool ?_, rfl⟩
        exact (Ch.all_of_take (fun b => Ch.visible b.toNat) s k hlt HE.out).symm
      · have HE : Hid (Ch.visible (s[k].toNat : Int) = true) := he
        go_wp2_with (go_at_call 22; refine (isSeen_any _ _).mono ?_; rintro e w' ⟨rfl, rfl⟩)
        go_round
        case rel => exact ⟨k + 1, by omega, by go_num, by rw [Ch.take_snoc s k hlt, Ch.all_snoc, HN.out, HE.out]; rfl⟩
        case measure => simp [intOf]; omega
    · go_wp2
      go_ret
      refine ⟨ret_bool ?_, rfl⟩
      unfold Ch.isVisible
      rw [← HN.out, Ch.take_all s k (by omega)]
end Go.Proofs.YtjhbiipbmlpgoaaDoor

/- The document's own answer, walked: Trimmed. -/
namespace Go.Proofs.YtjhbiipbmlpgoaaDoor
open Go.RowKit

set_option maxHeartbeats 400000 in
theorem trimmed_any (s : ByteArray) (w : World) (hs : s.size ≤ maxLen) :
    Calls Tryd.prog 26 #[.string s] w fun e w' => e = .returned (.string ⟨(Lib.trimS s.data.toList Ch.ws).toArray⟩) ∧ w' = w := by
  unfold maxLen at hs
  go_enter Tryd.func26, Tryd.ntmps26
  go_wp2
  go_loop [0] (fun v => ∃ x : ByteArray, v = .string x ∧ x.size ≤ s.size ∧ Lib.trimLeftS x.data.toList Ch.ws = Lib.trimLeftS s.data.toList Ch.ws) (fun v => strLen v)
  case atStart => exact ⟨s, rfl, Nat.le_refl _, rfl⟩
  case round =>
    obtain ⟨x, rfl, hxs, hx⟩ := hrel
    have HX : Hid (Lib.trimLeftS x.data.toList Ch.ws = Lib.trimLeftS s.data.toList Ch.ws) := hx
    clear hx
    by_cases hgo : ∃ h : 0 < x.size, Ch.ws.contains (x[0]'h) = true
    · obtain ⟨h0, hp⟩ := hgo
      have hpos : decide ((0 : Int) < (x.size : Int)) = true := decide_eq_true (by omega)
      have HP : Hid (Ch.ws.contains (x[0]'h0) = true) := hp
      rw [Ch.ws_eq] at hp
      cases h32 : (((x[0]'h0).toNat : Int) == 32)
      · rw [h32, Bool.false_or] at hp
        go_wp2
        go_round
        case rel => exact ⟨x.extract 1 x.size, rfl, by simp; omega, by rw [Lib.extract_to_end, Ch.left_step x h0 HP.out, HX.out]⟩
        case measure => simp [strLen]; omega
      · clear hp
        go_wp2
        go_round
        case rel => exact ⟨x.extract 1 x.size, rfl, by simp; omega, by rw [Lib.extract_to_end, Ch.left_step x h0 HP.out, HX.out]⟩
        case measure => simp [strLen]; omega
    · have hstop : ∀ h : 0 < x.size, Ch.ws.contains (x[0]'h) = false := fun h => by
        cases e : Ch.ws.contains (x[0]'h)
        · rfl
        · exact absurd ⟨h, e⟩ hgo
      have HD : Hid (x.data.toList = Lib.trimLeftS s.data.toList Ch.ws) := (Ch.left_stop x hstop).symm.trans HX.out
      clear hgo HX
      have hne : x.size = 0 ∨ (0 < x.size ∧ ∀ h : 0 < x.size, (((x[0]'h).toNat : Int) == 32) = false ∧ (((x[0]'h).toNat : Int) == 9) = false) := by
        rcases Nat.eq_zero_or_pos x.size with h | h
        · exact Or.inl h
        · refine Or.inr ⟨h, fun h' => ?_⟩
          have := hstop h'
          rw [Ch.ws_eq, Bool.or_eq_false_iff] at this
          exact this
      clear hstop
      rcases hne with hz | ⟨h0, hne⟩
      · have hpos : decide ((0 : Int) < (x.size : Int)) = false := decide_eq_false (by omega)
        obtain rfl := Ch.empty_eq x hz
        go_wp2
        refine wp_loop_rounds 1 ?_
        rw [rounds_succ]
        go_wp2
        go_ret
        refine ⟨ret_str ?_, rfl⟩
        rw [← Ch.trim_both, ← HD.out]
        rfl
      · have hpos : decide ((0 : Int) < (x.size : Int)) = true := decide_eq_true (by omega)
        have h32 := (hne h0).1
        have h9 := (hne h0).2
        clear hne
        go_wp2
        go_loop [0] (fun v => ∃ y : ByteArray, v = .string y ∧ y.size ≤ x.size ∧ Lib.trimRightS y.data.toList Ch.ws = Lib.trimRightS x.data.toList Ch.ws) (fun v => strLen v)
        case atStart => exact ⟨x, rfl, Nat.le_refl _, rfl⟩
        case round =>
          obtain ⟨y, rfl, hys, hy⟩ := hrel
          have HY : Hid (Lib.trimRightS y.data.toList Ch.ws = Lib.trimRightS x.data.toList Ch.ws) := hy
          clear hy h32 h9 hpos
          by_cases hgo : ∃ h : 0 < y.size, Ch.ws.contains (y[y.size - 1]'(by omega)) = true
          · obtain ⟨hy0, hp⟩ := hgo
            have hypos : decide ((0 : Int) < (y.size : Int)) = true := decide_eq_true (by omega)
            have HP : Hid (Ch.ws.contains (y[y.size - 1]'(by omega)) = true) := hp
            rw [Ch.ws_eq] at hp
            cases hy32 : (((y[y.size - 1]'(by omega)).toNat : Int) == 32)
            · rw [hy32, Bool.false_or] at hp
              go_wp2
              go_round
              case rel => exact ⟨y.extract 0 (y.size - 1), rfl, by simp; omega, by rw [Lib.extract_data, List.drop_zero, Nat.sub_zero, Ch.right_step y hy0 HP.out, HY.out]⟩
              case measure => simp [strLen]; omega
            · clear hp
              go_wp2
              go_round
              case rel => exact ⟨y.extract 0 (y.size - 1), rfl, by simp; omega, by rw [Lib.extract_data, List.drop_zero, Nat.sub_zero, Ch.right_step y hy0 HP.out, HY.out]⟩
              case measure => simp [strLen]; omega
          · have hstop : ∀ h : 0 < y.size, Ch.ws.contains (y[y.size - 1]'(by omega)) = false := fun h => by
              cases e : Ch.ws.contains (y[y.size - 1]'(by omega))
              · rfl
              · exact absurd ⟨h, e⟩ hgo
            have HF : Hid (y = ⟨(Lib.trimS s.data.toList Ch.ws).toArray⟩) := Ch.str_eq (by rw [← Ch.trim_both, ← HD.out, ← HY.out, Ch.right_stop y hstop])
            clear hgo HY HD
            rcases Nat.eq_zero_or_pos y.size with hz | hy0
            · have hypos : decide ((0 : Int) < (y.size : Int)) = false := decide_eq_false (by omega)
              go_wp2
              go_ret
              exact ⟨ret_str HF.out, rfl⟩
            · have hypos : decide ((0 : Int) < (y.size : Int)) = true := decide_eq_true (by omega)
              have hst := hstop hy0
              rw [Ch.ws_eq, Bool.or_eq_false_iff] at hst
              have hy32 := hst.1
              have hy9 := hst.2
              clear hst hstop
              go_wp2
              go_ret
              exact ⟨ret_str HF.out, rfl⟩
end Go.Proofs.YtjhbiipbmlpgoaaDoor

/- The document's own answer, walked: FieldText. -/
namespace Go.Proofs.YtjhbiipbmlpgoaaDoor
open Go.RowKit

set_option maxHeartbeats 1600000 in
theorem fieldText_any (n v : ByteArray) (w : World) (hn : n.size ≤ 1000000) (hv : v.size ≤ 1000000) :
    Calls Tryd.prog 21 #[.agg #[.string n, .string v]] w fun e w' => e = .returned (txVal (Fd.text n.data.toList v.data.toList)) ∧ Below w.heap.size w w' := by
  have HT := Hid.mk' (fun W => tokenText_any n W (by unfold maxLen; omega))
  have HV := Hid.mk' (fun W => seenText_any v W (by unfold maxLen; omega))
  have HTr := Hid.mk' (fun W => trimmed_any v W (by unfold maxLen; omega))
  have hln : n.data.toList.length = n.size := by rw [Array.length_toList]; rfl
  have hlv : v.data.toList.length = v.size := by rw [Array.length_toList]; rfl
  have hof : Fd.text n.data.toList v.data.toList = if Ch.isToken n.data.toList = false then ([], 6) else if 40 < n.size ∨ 200 < n.size + 2 + v.size then ([], 4) else if Ch.isVisible v.data.toList = false ∨ Lib.trimS v.data.toList Ch.ws ≠ v.data.toList then ([], 3) else (n.data.toList ++ [58, 32] ++ v.data.toList, 0) := by
    unfold Fd.text; rw [hln, hlv]
  clear hln hlv
  have HO := Hid.mk' hof
  clear hof
  cases ht : Ch.isToken n.data.toList
  · rw [ht] at HT
    have HR : Hid (Fd.text n.data.toList v.data.toList = ([], 6)) := by have := HO.out; rw [if_pos ht] at this; exact this
    clear HO ht HV HTr
    go_enter Tryd.func21, Tryd.ntmps21
    go_wp2_with fail
    refine (HT.out _).mono ?_
    rintro e w3 ⟨rfl, hw⟩
    have hB := below_box ⟨0, hw⟩
    clear hw
    go_wp2
    go_ret2
    exact ⟨ret_tx HR.out rfl, hB⟩
  · rw [ht] at HT
    have h6 := HO.out
    rw [if_neg (by rw [ht]; simp)] at h6
    have HO6 := Hid.mk' h6
    clear HO ht h6
    by_cases h40 : 40 < n.size ∨ 200 < n.size + 2 + v.size
    · have HR : Hid (Fd.text n.data.toList v.data.toList = ([], 4)) := by have := HO6.out; rw [if_pos h40] at this; exact this
      clear HO6 HV HTr
      by_cases h4 : 40 < n.size
      · have t1 : decide ((n.size : Int) > 40) = true := by rw [decide_eq_true_eq]; omega
        go_enter Tryd.func21, Tryd.ntmps21
        go_wp2_with fail
        refine (HT.out _).mono ?_
        rintro e w3 ⟨rfl, hw⟩
        subst hw
        go_wp2
        go_ret2
        exact ⟨ret_tx HR.out rfl, below_box ⟨0, rfl⟩⟩
      · have t1 : decide ((n.size : Int) > 40) = false := by rw [decide_eq_false_iff_not]; omega
        have t2 : decide ((n.size : Int) + 2 + v.size > 200) = true := by rw [decide_eq_true_eq]; omega
        go_enter Tryd.func21, Tryd.ntmps21
        go_wp2_with fail
        refine (HT.out _).mono ?_
        rintro e w3 ⟨rfl, hw⟩
        subst hw
        go_wp2
        go_ret2
        exact ⟨ret_tx HR.out rfl, below_box ⟨0, rfl⟩⟩
    · have h4 := HO6.out
      rw [if_neg h40] at h4
      have HO4 := Hid.mk' h4
      clear HO6 h4
      have t1 : decide ((n.size : Int) > 40) = false := by rw [decide_eq_false_iff_not]; omega
      have t2 : decide ((n.size : Int) + 2 + v.size > 200) = false := by rw [decide_eq_false_iff_not]; omega
      have q1 : n.size ≤ 40 := by omega
      have q2 : v.size ≤ 198 := by omega
      clear h40
      cases hvi : Ch.isVisible v.data.toList
      · rw [hvi] at HV
        have HR : Hid (Fd.text n.data.toList v.data.toList = ([], 3)) := by have := HO4.out; rw [if_pos (Or.inl hvi)] at this; exact this
        clear HO4 hvi
        go_enter Tryd.func21, Tryd.ntmps21
        go_wp2_with fail
        refine (HT.out _).mono ?_
        rintro e w3 ⟨rfl, hw⟩
        subst hw
        go_wp2
        go_quiet ((first | (go_at_call 25; exact Calls.quiet_of_same (HV.out _)) | (go_at_call 26; exact Calls.quiet_of_same (HTr.out _))))
        go_wp2
        go_ret2
        exact ⟨ret_tx HR.out rfl, below_box ⟨_, rfl⟩⟩
      · rw [hvi] at HV
        by_cases htr : Lib.trimS v.data.toList Ch.ws = v.data.toList
        · have HR : Hid (Fd.text n.data.toList v.data.toList = (n.data.toList ++ [58, 32] ++ v.data.toList, 0)) := by have := HO4.out; rw [if_neg (by rw [hvi, htr]; simp)] at this; exact this
          have HE : Hid (n ++ ⟨#[58, 32]⟩ ++ v = ⟨(n.data.toList ++ [58, 32] ++ v.data.toList).toArray⟩) := Ch.str_eq (by rw [Ch.data_append, Ch.data_append])
          rw [htr] at HTr
          have hve : (⟨v.data.toList.toArray⟩ : ByteArray) = v := rfl
          rw [hve] at HTr
          clear HO4 hvi htr hve
          go_enter Tryd.func21, Tryd.ntmps21
          go_wp2_with fail
          refine (HT.out _).mono ?_
          rintro e w3 ⟨rfl, hw⟩
          subst hw
          go_wp2
          go_quiet ((first | (go_at_call 25; exact Calls.quiet_of_same (HV.out _)) | (go_at_call 26; exact Calls.quiet_of_same (HTr.out _))))
          go_wp2
          go_ret2
          exact ⟨ret_tx HR.out (by unfold txVal; rw [← HE.out]; rfl), below_box ⟨_, rfl⟩⟩
        · have HR : Hid (Fd.text n.data.toList v.data.toList = ([], 3)) := by have := HO4.out; rw [if_pos (Or.inr htr)] at this; exact this
          have hne : ((⟨(Lib.trimS v.data.toList Ch.ws).toArray⟩ : ByteArray).toList == v.toList) = false := by
            rw [Lib.toList_data, Lib.toList_data, beq_eq_false_iff_ne]; simpa using htr
          clear HO4 hvi htr
          generalize (⟨(Lib.trimS v.data.toList Ch.ws).toArray⟩ : ByteArray) = tv at HTr hne
          go_enter Tryd.func21, Tryd.ntmps21
          go_wp2_with fail
          refine (HT.out _).mono ?_
          rintro e w3 ⟨rfl, hw⟩
          subst hw
          go_wp2
          go_quiet ((first | (go_at_call 25; exact Calls.quiet_of_same (HV.out _)) | (go_at_call 26; exact Calls.quiet_of_same (HTr.out _))))
          go_wp2
          go_ret2
          exact ⟨ret_tx HR.out rfl, below_box ⟨_, rfl⟩⟩
end Go.Proofs.YtjhbiipbmlpgoaaDoor

/- The document's own answer, walked: Num. -/
namespace Go.Proofs.YtjhbiipbmlpgoaaDoor
open Go.RowKit

set_option maxHeartbeats 400000 in
theorem num_f (f : Nat) : ∀ (n : Nat) (w : World), n < 10 ^ (f + 1) → n < 4611686018427387904 → f < 30 →
    Calls Tryd.prog 13 #[.int .i64 n] w fun e w' => e = .returned (.string ⟨(Ch.decF f n).toArray⟩) ∧ ∃ m, w' = w.drewN m := by
  induction f with
  | zero =>
    intro n w hn _ _
    have hn' : n < 10 := by simpa using hn
    have HD : Hid (((⟨#[48, 49, 50, 51, 52, 53, 54, 55, 56, 57]⟩ : ByteArray).extract n (n + 1)) = ⟨(Ch.decF 0 n).toArray⟩) := Ch.str_eq (Ch.digs_at n hn')
    clear hn
    go_enter Tryd.func13, Tryd.ntmps13
    go_wp2
    go_ret
    exact ⟨ret_str HD.out, 0, rfl⟩
  | succ f ih =>
    intro n w hn hb hf
    by_cases hlt : n < 10
    · have HD : Hid (((⟨#[48, 49, 50, 51, 52, 53, 54, 55, 56, 57]⟩ : ByteArray).extract n (n + 1)) = ⟨(Ch.decF (f + 1) n).toArray⟩) := Ch.str_eq (by rw [Ch.digs_at n hlt, Ch.decF, if_pos hlt])
      clear hn ih
      go_enter Tryd.func13, Tryd.ntmps13
      go_wp2
      go_ret
      exact ⟨ret_str HD.out, 0, rfl⟩
    · have hq : n / 10 < 10 ^ (f + 1) := by
        rw [Nat.pow_succ] at hn
        omega
      have IH : Hid (∀ w, Calls Tryd.prog 13 #[.int .i64 ((n : Int) / 10)] w fun e w' => e = .returned (.string ⟨(Ch.decF f (n / 10)).toArray⟩) ∧ ∃ m, w' = w.drewN m) := fun w => (show ((n / 10 : Nat) : Int) = (n : Int) / 10 by omega) ▸ ih (n / 10) w hq (by omega) (by omega)
      have hl := Ch.decF_length f (n / 10)
      clear ih hn hq
      go_enter Tryd.func13, Tryd.ntmps13
      go_wp2
      have HD : Hid ((⟨(Ch.decF f (n / 10)).toArray⟩ : ByteArray) ++ (⟨#[48, 49, 50, 51, 52, 53, 54, 55, 56, 57]⟩ : ByteArray).extract (n % 10) (n % 10 + 1) = ⟨(Ch.decF (f + 1) n).toArray⟩) :=
        Ch.str_eq (by rw [Ch.data_append, Ch.digs_at _ (by omega), Ch.decF, if_neg hlt])
      generalize (Ch.decF f (n / 10)) = d at IH hl HD
      go_quiet ((go_at_call 13; exact Calls.quiet_of (IH.out _)))
      go_wp2
      go_ret
      exact ⟨ret_str HD.out, nq, rfl⟩
end Go.Proofs.YtjhbiipbmlpgoaaDoor
