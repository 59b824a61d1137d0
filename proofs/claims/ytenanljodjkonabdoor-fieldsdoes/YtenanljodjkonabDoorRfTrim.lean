/- The document's own answer, walked: Trimmed. -/
import Derived.Test.YtenanljodjkonabDoorPlainB
import Derived.Test.YtenanljodjkonabDoorBase
import Derived.Test.YtenanljodjkonabDoorPlainA
import Derived.Test.YtenanljodjkonabDoorProg
namespace Go.Proofs.YtenanljodjkonabDoor
open Go.RowKit

set_option maxHeartbeats 400000 in
theorem trimmed_any (s : ByteArray) (w : World) (hs : s.size ≤ maxLen) :
    Calls Tryd.prog 23 #[.string s] w fun e w' => e = .returned (.string ⟨(Lib.trimS s.data.toList Ch.ws).toArray⟩) ∧ w' = w := by
  unfold maxLen at hs
  go_enter Tryd.func23, Tryd.ntmps23
  go_wp2
  go_loop [0] (fun v => ∃ x : ByteArray, v = .string x ∧ x.size ≤ s.size ∧ Lib.trimLeftS x.data.toList Ch.ws = Lib.trimLeftS s.data.toList Ch.ws) (fun v => strLen v)
  case atStart => exact ⟨s, rfl, Nat.le_refl _, rfl⟩
  case round =>
    obtain ⟨x, rfl, hxs, hx⟩ := hrel
    have HX : Hid (Lib.trimLeftS x.data.toList Ch.ws = Lib.trimLeftS s.data.toList Ch.ws) := hx
    clear hx
    by_cases hgo : ∃ h : 0 < x.size, Ch.ws.contains (x[0]'h) = true
    · obtain ⟨h0, hp⟩ := hgo
      have hpos : decide ((0 : Int) < (x.size : Int)) = true := decide_eq_true (by omega)
      have HP : Hid (Ch.ws.contains (x[0]'h0) = true) := hp
      rw [Ch.ws_eq] at hp
      cases h32 : (((x[0]'h0).toNat : Int) == 32)
      · rw [h32, Bool.false_or] at hp
        go_wp2
        go_round
        case rel => exact ⟨x.extract 1 x.size, rfl, by simp; omega, by rw [Lib.extract_to_end, Ch.left_step x h0 HP.out, HX.out]⟩
        case measure => simp [strLen]; omega
      · clear hp
        go_wp2
        go_round
        case rel => exact ⟨x.extract 1 x.size, rfl, by simp; omega, by rw [Lib.extract_to_end, Ch.left_step x h0 HP.out, HX.out]⟩
        case measure => simp [strLen]; omega
    · have hstop : ∀ h : 0 < x.size, Ch.ws.contains (x[0]'h) = false := fun h => by
        cases e : Ch.ws.contains (x[0]'h)
        · rfl
        · exact absurd ⟨h, e⟩ hgo
      have HD : Hid (x.data.toList = Lib.trimLeftS s.data.toList Ch.ws) := (Ch.left_stop x hstop).symm.trans HX.out
      clear hgo HX
      have hne : x.size = 0 ∨ (0 < x.size ∧ ∀ h : 0 < x.size, (((x[0]'h).toNat : Int) == 32) = false ∧ (((x[0]'h).toNat : Int) == 9) = false) := by
        rcases Nat.eq_zero_or_pos x.size with h | h
        · exact Or.inl h
        · refine Or.inr ⟨h, fun h' => ?_⟩
          have := hstop h'
          rw [Ch.ws_eq, Bool.or_eq_false_iff] at this
          exact this
      clear hstop
      rcases hne with hz | ⟨h0, hne⟩
      · have hpos : decide ((0 : Int) < (x.size : Int)) = false := decide_eq_false (by omega)
        obtain rfl := Ch.empty_eq x hz
        go_wp2
        refine wp_loop_rounds 1 ?_
        rw [rounds_succ]
        go_wp2
        go_ret
        refine ⟨ret_str ?_, rfl⟩
        rw [← Ch.trim_both, ← HD.out]
        rfl
      · have hpos : decide ((0 : Int) < (x.size : Int)) = true := decide_eq_true (by omega)
        have h32 := (hne h0).1
        have h9 := (hne h0).2
        clear hne
        go_wp2
        go_loop [0] (fun v => ∃ y : ByteArray, v = .string y ∧ y.size ≤ x.size ∧ Lib.trimRightS y.data.toList Ch.ws = Lib.trimRightS x.data.toList Ch.ws) (fun v => strLen v)
        case atStart => exact ⟨x, rfl, Nat.le_refl _, rfl⟩
        case round =>
          obtain ⟨y, rfl, hys, hy⟩ := hrel
          have HY : Hid (Lib.trimRightS y.data.toList Ch.ws = Lib.trimRightS x.data.toList Ch.ws) := hy
          clear hy h32 h9 hpos
          by_cases hgo : ∃ h : 0 < y.size, Ch.ws.contains (y[y.size - 1]'(by omega)) = true
          · obtain ⟨hy0, hp⟩ := hgo
            have hypos : decide ((0 : Int) < (y.size : Int)) = true := decide_eq_true (by omega)
            have HP : Hid (Ch.ws.contains (y[y.size - 1]'(by omega)) = true) := hp
            rw [Ch.ws_eq] at hp
            cases hy32 : (((y[y.size - 1]'(by omega)).toNat : Int) == 32)
            · rw [hy32, Bool.false_or] at hp
              go_wp2
              go_round
              case rel => exact ⟨y.extract 0 (y.size - 1), rfl, by simp; omega, by rw [Lib.extract_data, List.drop_zero, Nat.sub_zero, Ch.right_step y hy0 HP.out, HY.out]⟩
              case measure => simp [strLen]; omega
            · clear hp
              go_wp2
              go_round
              case rel => exact ⟨y.extract 0 (y.size - 1), rfl, by simp; omega, by rw [Lib.extract_data, List.drop_zero, Nat.sub_zero, Ch.right_step y hy0 HP.out, HY.out]⟩
              case measure => simp [strLen]; omega
          · have hstop : ∀ h : 0 < y.size, Ch.ws.contains (y[y.size - 1]'(by omega)) = false := fun h => by
              cases e : Ch.ws.contains (y[y.size - 1]'(by omega))
              · rfl
              · exact absurd ⟨h, e⟩ hgo
            have HF : Hid (y = ⟨(Lib.trimS s.data.toList Ch.ws).toArray⟩) := Ch.str_eq (by rw [← Ch.trim_both, ← HD.out, ← HY.out, Ch.right_stop y hstop])
            clear hgo HY HD
            rcases Nat.eq_zero_or_pos y.size with hz | hy0
            · have hypos : decide ((0 : Int) < (y.size : Int)) = false := decide_eq_false (by omega)
              go_wp2
              go_ret
              exact ⟨ret_str HF.out, rfl⟩
            · have hypos : decide ((0 : Int) < (y.size : Int)) = true := decide_eq_true (by omega)
              have hst := hstop hy0
              rw [Ch.ws_eq, Bool.or_eq_false_iff] at hst
              have hy32 := hst.1
              have hy9 := hst.2
              clear hst hstop
              go_wp2
              go_ret
              exact ⟨ret_str HF.out, rfl⟩
end Go.Proofs.YtenanljodjkonabDoor
