/- The document's own answer, walked: Num. -/
import Derived.Test.YtkbeaehjagdnnacGreatDoorPk2
import Derived.Test.YtkbeaehjagdnnacGreatDoorBase
import Derived.Test.YtkbeaehjagdnnacGreatDoorPk1
import Derived.Test.YtkbeaehjagdnnacGreatDoorProg
namespace Go.Proofs.YtkbeaehjagdnnacGreatDoor
open Go.RowKit

set_option maxHeartbeats 400000 in
theorem num_f (f : Nat) : ∀ (n : Nat) (w : World), n < 10 ^ (f + 1) → n < 4611686018427387904 → f < 30 →
    Calls Tryz.prog 21 #[.int .i64 n] w fun e w' => e = .returned (.string ⟨(Ch.decF f n).toArray⟩) ∧ ∃ m, w' = w.drewN m := by
  induction f with
  | zero =>
    intro n w hn _ _
    have hn' : n < 10 := by simpa using hn
    have HD : Hid (((⟨#[48, 49, 50, 51, 52, 53, 54, 55, 56, 57]⟩ : ByteArray).extract n (n + 1)) = ⟨(Ch.decF 0 n).toArray⟩) := Ch.str_eq (Ch.digs_at n hn')
    clear hn
    go_enter Tryz.func21, Tryz.ntmps21
    go_wp2
    go_ret
    exact ⟨ret_str HD.out, 0, rfl⟩
  | succ f ih =>
    intro n w hn hb hf
    by_cases hlt : n < 10
    · have HD : Hid (((⟨#[48, 49, 50, 51, 52, 53, 54, 55, 56, 57]⟩ : ByteArray).extract n (n + 1)) = ⟨(Ch.decF (f + 1) n).toArray⟩) := Ch.str_eq (by rw [Ch.digs_at n hlt, Ch.decF, if_pos hlt])
      clear hn ih
      go_enter Tryz.func21, Tryz.ntmps21
      go_wp2
      go_ret
      exact ⟨ret_str HD.out, 0, rfl⟩
    · have hq : n / 10 < 10 ^ (f + 1) := by
        rw [Nat.pow_succ] at hn
        omega
      have IH : Hid (∀ w, Calls Tryz.prog 21 #[.int .i64 ((n : Int) / 10)] w fun e w' => e = .returned (.string ⟨(Ch.decF f (n / 10)).toArray⟩) ∧ ∃ m, w' = w.drewN m) := fun w => (show ((n / 10 : Nat) : Int) = (n : Int) / 10 by omega) ▸ ih (n / 10) w hq (by omega) (by omega)
      have hl := Ch.decF_length f (n / 10)
      clear ih hn hq
      go_enter Tryz.func21, Tryz.ntmps21
      go_wp2
      have HD : Hid ((⟨(Ch.decF f (n / 10)).toArray⟩ : ByteArray) ++ (⟨#[48, 49, 50, 51, 52, 53, 54, 55, 56, 57]⟩ : ByteArray).extract (n % 10) (n % 10 + 1) = ⟨(Ch.decF (f + 1) n).toArray⟩) :=
        Ch.str_eq (by rw [Ch.data_append, Ch.digs_at _ (by omega), Ch.decF, if_neg hlt])
      generalize (Ch.decF f (n / 10)) = d at IH hl HD
      go_quiet ((go_at_call 21; exact Calls.quiet_of (IH.out _)))
      go_wp2
      go_ret
      exact ⟨ret_str HD.out, nq, rfl⟩
end Go.Proofs.YtkbeaehjagdnnacGreatDoor
