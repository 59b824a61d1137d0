/- Numbers as texts, and texts without blanks at their ends, as the document's own answer has them; small letters as package chars has them: walked. -/
import Derived.Test.YtkacjjahbgdchaaDoorPlainB
import Derived.Test.YtkacjjahbgdchaaDoorWalksD
import Derived.Lib.IndexBytes
namespace Go.Proofs.YtkacjjahbgdchaaDoor
open Go.RowKit

def strLen : Value → Nat | .string x => x.size | _ => 0

set_option maxHeartbeats 400000 in
theorem trimmed_any (s : ByteArray) (w : World) (hs : s.size ≤ maxLen) :
    Calls Tryd.prog 25 #[.string s] w fun e w' => e = .returned (.string ⟨(Lib.trimS s.data.toList Ch.ws).toArray⟩) ∧ w' = w := by
  unfold maxLen at hs
  go_enter Tryd.func25, Tryd.ntmps25
  go_wp2
  go_loop [0] (fun v => ∃ x : ByteArray, v = .string x ∧ x.size ≤ s.size ∧ Lib.trimLeftS x.data.toList Ch.ws = Lib.trimLeftS s.data.toList Ch.ws) (fun v => strLen v)
  case atStart => exact ⟨s, rfl, Nat.le_refl _, rfl⟩
  case round =>
    obtain ⟨x, rfl, hxs, hx⟩ := hrel
    have HX : Hid (Lib.trimLeftS x.data.toList Ch.ws = Lib.trimLeftS s.data.toList Ch.ws) := hx
    clear hx
    by_cases hgo : ∃ h : 0 < x.size, Ch.ws.contains (x[0]'h) = true
    · obtain ⟨h0, hp⟩ := hgo
      have hpos : decide ((0 : Int) < (x.size : Int)) = true := decide_eq_true (by omega)
      have HP : Hid (Ch.ws.contains (x[0]'h0) = true) := hp
      rw [Ch.ws_eq] at hp
      cases h32 : (((x[0]'h0).toNat : Int) == 32)
      · rw [h32, Bool.false_or] at hp
        go_wp2
        go_round
        case rel => exact ⟨x.extract 1 x.size, rfl, by simp; omega, by rw [Lib.extract_to_end, Ch.left_step x h0 HP.out, HX.out]⟩
        case measure => simp [strLen]; omega
      · clear hp
        go_wp2
        go_round
        case rel => exact ⟨x.extract 1 x.size, rfl, by simp; omega, by rw [Lib.extract_to_end, Ch.left_step x h0 HP.out, HX.out]⟩
        case measure => simp [strLen]; omega
    · have hstop : ∀ h : 0 < x.size, Ch.ws.contains (x[0]'h) = false := fun h => by
        cases e : Ch.ws.contains (x[0]'h)
        · rfl
        · exact absurd ⟨h, e⟩ hgo
      have HD : Hid (x.data.toList = Lib.trimLeftS s.data.toList Ch.ws) := (Ch.left_stop x hstop).symm.trans HX.out
      clear hgo HX
      have hne : x.size = 0 ∨ (0 < x.size ∧ ∀ h : 0 < x.size, (((x[0]'h).toNat : Int) == 32) = false ∧ (((x[0]'h).toNat : Int) == 9) = false) := by
        rcases Nat.eq_zero_or_pos x.size with h | h
        · exact Or.inl h
        · refine Or.inr ⟨h, fun h' => ?_⟩
          have := hstop h'
          rw [Ch.ws_eq, Bool.or_eq_false_iff] at this
          exact this
      clear hstop
      rcases hne with hz | ⟨h0, hne⟩
      · have hpos : decide ((0 : Int) < (x.size : Int)) = false := decide_eq_false (by omega)
        obtain rfl := Ch.empty_eq x hz
        go_wp2
        refine wp_loop_rounds 1 ?_
        rw [rounds_succ]
        go_wp2
        go_ret
        refine ⟨ret_str ?_, rfl⟩
        rw [← Ch.trim_both, ← HD.out]
        rfl
      · have hpos : decide ((0 : Int) < (x.size : Int)) = true := decide_eq_true (by omega)
        have h32 := (hne h0).1
        have h9 := (hne h0).2
        clear hne
        go_wp2
        go_loop [0] (fun v => ∃ y : ByteArray, v = .string y ∧ y.size ≤ x.size ∧ Lib.trimRightS y.data.toList Ch.ws = Lib.trimRightS x.data.toList Ch.ws) (fun v => strLen v)
        case atStart => exact ⟨x, rfl, Nat.le_refl _, rfl⟩
        case round =>
          obtain ⟨y, rfl, hys, hy⟩ := hrel
          have HY : Hid (Lib.trimRightS y.data.toList Ch.ws = Lib.trimRightS x.data.toList Ch.ws) := hy
          clear hy h32 h9 hpos
          by_cases hgo : ∃ h : 0 < y.size, Ch.ws.contains (y[y.size - 1]'(by omega)) = true
          · obtain ⟨hy0, hp⟩ := hgo
            have hypos : decide ((0 : Int) < (y.size : Int)) = true := decide_eq_true (by omega)
            have HP : Hid (Ch.ws.contains (y[y.size - 1]'(by omega)) = true) := hp
            rw [Ch.ws_eq] at hp
            cases hy32 : (((y[y.size - 1]'(by omega)).toNat : Int) == 32)
            · rw [hy32, Bool.false_or] at hp
              go_wp2
              go_round
              case rel => exact ⟨y.extract 0 (y.size - 1), rfl, by simp; omega, by rw [Lib.extract_data, List.drop_zero, Nat.sub_zero, Ch.right_step y hy0 HP.out, HY.out]⟩
              case measure => simp [strLen]; omega
            · clear hp
              go_wp2
              go_round
              case rel => exact ⟨y.extract 0 (y.size - 1), rfl, by simp; omega, by rw [Lib.extract_data, List.drop_zero, Nat.sub_zero, Ch.right_step y hy0 HP.out, HY.out]⟩
              case measure => simp [strLen]; omega
          · have hstop : ∀ h : 0 < y.size, Ch.ws.contains (y[y.size - 1]'(by omega)) = false := fun h => by
              cases e : Ch.ws.contains (y[y.size - 1]'(by omega))
              · rfl
              · exact absurd ⟨h, e⟩ hgo
            have HF : Hid (y = ⟨(Lib.trimS s.data.toList Ch.ws).toArray⟩) := Ch.str_eq (by rw [← Ch.trim_both, ← HD.out, ← HY.out, Ch.right_stop y hstop])
            clear hgo HY HD
            rcases Nat.eq_zero_or_pos y.size with hz | hy0
            · have hypos : decide ((0 : Int) < (y.size : Int)) = false := decide_eq_false (by omega)
              go_wp2
              go_ret
              exact ⟨ret_str HF.out, rfl⟩
            · have hypos : decide ((0 : Int) < (y.size : Int)) = true := decide_eq_true (by omega)
              have hst := hstop hy0
              rw [Ch.ws_eq, Bool.or_eq_false_iff] at hst
              have hy32 := hst.1
              have hy9 := hst.2
              clear hst hstop
              go_wp2
              go_ret
              exact ⟨ret_str HF.out, rfl⟩

set_option maxHeartbeats 400000 in
theorem num_f (f : Nat) : ∀ (n : Nat) (w : World), n < 10 ^ (f + 1) → n < 4611686018427387904 → f < 30 →
    Calls Tryd.prog 26 #[.int .i64 n] w fun e w' => e = .returned (.string ⟨(Ch.decF f n).toArray⟩) ∧ ∃ m, w' = w.drewN m := by
  induction f with
  | zero =>
    intro n w hn _ _
    have hn' : n < 10 := by simpa using hn
    have HD : Hid (((⟨#[48, 49, 50, 51, 52, 53, 54, 55, 56, 57]⟩ : ByteArray).extract n (n + 1)) = ⟨(Ch.decF 0 n).toArray⟩) := Ch.str_eq (Ch.digs_at n hn')
    clear hn
    go_enter Tryd.func26, Tryd.ntmps26
    go_wp2
    go_ret
    exact ⟨ret_str HD.out, 0, rfl⟩
  | succ f ih =>
    intro n w hn hb hf
    by_cases hlt : n < 10
    · have HD : Hid (((⟨#[48, 49, 50, 51, 52, 53, 54, 55, 56, 57]⟩ : ByteArray).extract n (n + 1)) = ⟨(Ch.decF (f + 1) n).toArray⟩) := Ch.str_eq (by rw [Ch.digs_at n hlt, Ch.decF, if_pos hlt])
      clear hn ih
      go_enter Tryd.func26, Tryd.ntmps26
      go_wp2
      go_ret
      exact ⟨ret_str HD.out, 0, rfl⟩
    · have hq : n / 10 < 10 ^ (f + 1) := by
        rw [Nat.pow_succ] at hn
        omega
      have IH : Hid (∀ w, Calls Tryd.prog 26 #[.int .i64 ((n : Int) / 10)] w fun e w' => e = .returned (.string ⟨(Ch.decF f (n / 10)).toArray⟩) ∧ ∃ m, w' = w.drewN m) := fun w => (show ((n / 10 : Nat) : Int) = (n : Int) / 10 by omega) ▸ ih (n / 10) w hq (by omega) (by omega)
      have hl := Ch.decF_length f (n / 10)
      clear ih hn hq
      go_enter Tryd.func26, Tryd.ntmps26
      go_wp2
      have HD : Hid ((⟨(Ch.decF f (n / 10)).toArray⟩ : ByteArray) ++ (⟨#[48, 49, 50, 51, 52, 53, 54, 55, 56, 57]⟩ : ByteArray).extract (n % 10) (n % 10 + 1) = ⟨(Ch.decF (f + 1) n).toArray⟩) :=
        Ch.str_eq (by rw [Ch.data_append, Ch.digs_at _ (by omega), Ch.decF, if_neg hlt])
      generalize (Ch.decF f (n / 10)) = d at IH hl HD
      go_quiet ((go_at_call 26; exact Calls.quiet_of (IH.out _)))
      go_wp2
      go_ret
      exact ⟨ret_str HD.out, nq, rfl⟩

set_option maxHeartbeats 400000 in
theorem hexText_f (f : Nat) : ∀ (n : Nat) (w : World), n < 16 ^ (f + 1) → n < 4611686018427387904 → f < 30 →
    Calls Tryd.prog 27 #[.int .i64 n] w fun e w' => e = .returned (.string ⟨(Ch.hexF f n).toArray⟩) ∧ w' = w := by
  induction f with
  | zero =>
    intro n w hn _ _
    have hn' : n < 16 := by simpa using hn
    have HD : Hid (((⟨#[48, 49, 50, 51, 52, 53, 54, 55, 56, 57, 97, 98, 99, 100, 101, 102]⟩ : ByteArray).extract n (n + 1)) = ⟨(Ch.hexF 0 n).toArray⟩) := Ch.str_eq (Ch.hexs_at n hn')
    clear hn
    go_enter Tryd.func27, Tryd.ntmps27
    go_wp2
    go_ret
    exact ⟨ret_str HD.out, rfl⟩
  | succ f ih =>
    intro n w hn hb hf
    by_cases hlt : n < 16
    · have HD : Hid (((⟨#[48, 49, 50, 51, 52, 53, 54, 55, 56, 57, 97, 98, 99, 100, 101, 102]⟩ : ByteArray).extract n (n + 1)) = ⟨(Ch.hexF (f + 1) n).toArray⟩) := Ch.str_eq (by rw [Ch.hexs_at n hlt, Ch.hexF, if_pos hlt])
      clear hn ih
      go_enter Tryd.func27, Tryd.ntmps27
      go_wp2
      go_ret
      exact ⟨ret_str HD.out, rfl⟩
    · have hq : n / 16 < 16 ^ (f + 1) := by
        rw [Nat.pow_succ] at hn
        omega
      have hr : n % 16 < 16 ^ (f + 1) := by
        have : (16 : Nat) ^ 1 ≤ 16 ^ (f + 1) := Nat.pow_le_pow_right (by decide) (by omega)
        omega
      have IH : Hid (∀ w, Calls Tryd.prog 27 #[.int .i64 ((n : Int) / 16)] w fun e w' => e = .returned (.string ⟨(Ch.hexF f (n / 16)).toArray⟩) ∧ w' = w) := fun w => (show ((n / 16 : Nat) : Int) = (n : Int) / 16 by omega) ▸ ih (n / 16) w hq (by omega) (by omega)
      have IR : Hid (∀ w, Calls Tryd.prog 27 #[.int .i64 ((n : Int) % 16)] w fun e w' => e = .returned (.string ⟨(Ch.hexF f (n % 16)).toArray⟩) ∧ w' = w) := fun w => (show ((n % 16 : Nat) : Int) = (n : Int) % 16 by omega) ▸ ih (n % 16) w hr (by omega) (by omega)
      have hl := Ch.hexF_length f (n / 16)
      have hl2 := Ch.hexF_length f (n % 16)
      clear ih hn hq hr
      have HD : Hid ((⟨(Ch.hexF f (n / 16)).toArray⟩ : ByteArray) ++ (⟨(Ch.hexF f (n % 16)).toArray⟩ : ByteArray) = ⟨(Ch.hexF (f + 1) n).toArray⟩) :=
        Ch.str_eq (by rw [Ch.data_append, Ch.hexF_succ f n hlt])
      generalize (Ch.hexF f (n / 16)) = d at IH hl HD
      generalize (Ch.hexF f (n % 16)) = d2 at IR hl2 HD
      have hs1 : (⟨d.toArray⟩ : ByteArray).size ≤ 31 := by show d.toArray.size ≤ 31; simp; omega
      have hs2 : (⟨d2.toArray⟩ : ByteArray).size ≤ 31 := by show d2.toArray.size ≤ 31; simp; omega
      go_enter Tryd.func27, Tryd.ntmps27
      go_wp2_with fail
      refine (IH.out _).mono ?_
      rintro e w1 ⟨rfl, rfl⟩
      go_wp2_with fail
      refine (IR.out _).mono ?_
      rintro e w1 ⟨rfl, rfl⟩
      go_wp2
      go_ret
      exact ⟨ret_str HD.out, rfl⟩

end Go.Proofs.YtkacjjahbgdchaaDoor
