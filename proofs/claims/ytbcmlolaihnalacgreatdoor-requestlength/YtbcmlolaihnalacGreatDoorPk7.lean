/- Small texts, one behind the other: StClone, CsTrim, CsDigit, CsHex. -/
import Derived.Test.YtbcmlolaihnalacGreatDoorPk2
import Derived.Test.YtbcmlolaihnalacGreatDoorShelf
import Derived.Test.YtbcmlolaihnalacGreatDoorPk6
import Derived.Test.YtbcmlolaihnalacGreatDoorPk1
import Derived.Test.YtbcmlolaihnalacGreatDoorProg
/- strings.Clone, walked. -/
namespace Go.Proofs.YtbcmlolaihnalacGreatDoor
open Go.RowKit

set_option maxHeartbeats 400000 in
theorem sclone_any (s : ByteArray) (w : World) (hs : s.size ≤ 1000000) :
    Calls Tryz.prog 59 #[.string s] w fun e w' => e = .returned (.string s) ∧ Below w.heap.size w w' := by
  have hcon := Any.stringslite_Clone Tryz.lays316 s w (by omega)
  change Calls Tryz.prog 74 _ _ (fun e w' => e = .returned (.string s) ∧ Below w.heap.size w w') at hcon
  go_enter Tryz.func59, Tryz.ntmps59
  go_wp2_with (go_at_call 74; refine hcon.mono ?_; rintro e w' ⟨rfl, hB⟩)
  go_ret
  exact ⟨rfl, hB⟩
end Go.Proofs.YtbcmlolaihnalacGreatDoor

/- Package chars, walked: Trim. -/
namespace Go.Proofs.YtbcmlolaihnalacGreatDoor
open Go.RowKit

set_option maxHeartbeats 1000000 in
theorem trim_any (s : ByteArray) (w : World) (hs : s.size ≤ 2000) :
    Calls Tryz.prog 53 #[.string s] w fun e w' => e = .returned (.string ⟨(Lib.trimS s.data.toList Ch.ws).toArray⟩) ∧ Below w.heap.size w w' := by
  have hcon := Any.strings_Trim_laid Tryz.lays160 (by kernel_rfl) s ⟨#[32, 9]⟩ w (by omega) (by decide) (ascii_of_all (by decide))
  change Calls Tryz.prog 69 _ _ (fun e w' => e = .returned (.string ⟨(Lib.trimS s.data.toList Ch.ws).toArray⟩) ∧ Below w.heap.size w w') at hcon
  have hr : (⟨(Lib.trimS s.data.toList Ch.ws).toArray⟩ : ByteArray).size ≤ 2000 := by
    have h1 := trimS_le s.data.toList
    rw [Ch.len_list] at h1
    show (Lib.trimS s.data.toList Ch.ws).toArray.size ≤ 2000
    rw [List.size_toArray]
    omega
  generalize (⟨(Lib.trimS s.data.toList Ch.ws).toArray⟩ : ByteArray) = r at hcon hr ⊢
  go_enter Tryz.func53, Tryz.ntmps53
  go_wp2_with (go_at_call 69; refine hcon.mono ?_; rintro e w1 ⟨rfl, hB⟩)
  go_wp2_with fail
  refine (sclone_any _ _ (by omega)).mono ?_
  rintro e w2 ⟨rfl, hB2⟩
  go_wp2
  go_ret
  exact ⟨rfl, then_ hB hB2⟩
end Go.Proofs.YtbcmlolaihnalacGreatDoor

/- Package chars, walked: digit. -/
namespace Go.Proofs.YtbcmlolaihnalacGreatDoor
open Go.RowKit

set_option maxHeartbeats 400000 in
theorem digit_any (c : Int) (w : World) :
    Calls Tryz.prog 77 #[.int .u8 c] w fun e w' => e = .returned (.bool (Ch.digit c)) ∧ w' = w := by
  go_enter Tryz.func77, Tryz.ntmps77
  go_wp2
  all_goals go_ret
  all_goals refine ⟨ret_bool ?_, rfl⟩
  all_goals (simp [Ch.digit]; try omega)
end Go.Proofs.YtbcmlolaihnalacGreatDoor

/- Package chars, walked: Hex. -/
namespace Go.Proofs.YtbcmlolaihnalacGreatDoor
open Go.RowKit

set_option maxHeartbeats 400000 in
theorem hex_any (c : Int) (w : World) (h0 : 0 ≤ c) (h1 : c ≤ 255) :
    Calls Tryz.prog 125 #[.int .u8 c] w fun e w' => e = .returned (.int .i64 (Ch.hex c)) ∧ w' = w := by
  have HH : Hid (Ch.hex c = if Ch.digit c then c - 48 else if decide (97 ≤ c) && decide (c ≤ 102) then c - 87 else if decide (65 ≤ c) && decide (c ≤ 70) then c - 55 else -1) := rfl
  cases hd : Ch.digit c
  · go_enter Tryz.func125, Tryz.ntmps125
    go_wp2_with (go_at_call 77; refine (digit_any _ _).mono ?_; rintro e w' ⟨rfl, rfl⟩)
    all_goals go_ret
    all_goals refine ⟨ret_int ?_, rfl⟩
    all_goals (rw [HH.out, hd]; simp only [Bool.false_eq_true, if_false, Bool.and_eq_true, decide_eq_true_eq]; repeat' split) <;> omega
  · have hd' : 48 ≤ c ∧ c ≤ 57 := by simpa [Ch.digit] using hd
    go_enter Tryz.func125, Tryz.ntmps125
    go_wp2_with (go_at_call 77; refine (digit_any _ _).mono ?_; rintro e w' ⟨rfl, rfl⟩)
    go_ret
    refine ⟨ret_int ?_, rfl⟩
    rw [HH.out, hd, if_pos rfl]
end Go.Proofs.YtbcmlolaihnalacGreatDoor
