/- Small texts, one behind the other: StClone, CsTrim. -/
import Derived.Test.YtdclmpdjjkjfjaaGreatDoorBase
import Derived.Test.YtdclmpdjjkjfjaaGreatDoorShelf
import Derived.Test.YtdclmpdjjkjfjaaGreatDoorPk1
/- strings.Clone, walked. -/
namespace Go.Proofs.YtdclmpdjjkjfjaaGreatDoor
open Go.RowKit

set_option maxHeartbeats 400000 in
theorem sclone_great (s : ByteArray) (w : World) (hs : s.size ≤ 281474976710656) :
    Calls Tryz.prog 95 #[.string s] w fun e w' => e = .returned (.string s) ∧ Below w.heap.size w w' := by
  have hcon := Any.stringslite_Clone Tryz.lays316 s w (by omega)
  change Calls Tryz.prog 128 _ _ (fun e w' => e = .returned (.string s) ∧ Below w.heap.size w w') at hcon
  go_enter Tryz.func95, Tryz.ntmps95
  go_wp2_with (go_at_call 128; refine hcon.mono ?_; rintro e w' ⟨rfl, hB⟩)
  go_ret
  exact ⟨rfl, hB⟩
theorem sclone_any (s : ByteArray) (w : World) (hs : s.size ≤ 1000000) :
    Calls Tryz.prog 95 #[.string s] w fun e w' => e = .returned (.string s) ∧ Below w.heap.size w w' := sclone_great s w (by omega)
end Go.Proofs.YtdclmpdjjkjfjaaGreatDoor

/- Package chars, walked: Trim. -/
namespace Go.Proofs.YtdclmpdjjkjfjaaGreatDoor
open Go.RowKit

set_option maxHeartbeats 1000000 in
theorem trim_any (s : ByteArray) (w : World) (hs : s.size ≤ 200000) :
    Calls Tryz.prog 131 #[.string s] w fun e w' => e = .returned (.string ⟨(Lib.trimS s.data.toList Ch.ws).toArray⟩) ∧ Below w.heap.size w w' := by
  have hcon := Any.strings_Trim_laid Tryz.lays160 (by kernel_rfl) s ⟨#[32, 9]⟩ w (by omega) (by decide) (ascii_of_all (by decide))
  change Calls Tryz.prog 156 _ _ (fun e w' => e = .returned (.string ⟨(Lib.trimS s.data.toList Ch.ws).toArray⟩) ∧ Below w.heap.size w w') at hcon
  have hr : (⟨(Lib.trimS s.data.toList Ch.ws).toArray⟩ : ByteArray).size ≤ 200000 := by
    have h1 := trimS_le s.data.toList
    rw [Ch.len_list] at h1
    show (Lib.trimS s.data.toList Ch.ws).toArray.size ≤ 200000
    rw [List.size_toArray]
    omega
  generalize (⟨(Lib.trimS s.data.toList Ch.ws).toArray⟩ : ByteArray) = r at hcon hr ⊢
  go_enter Tryz.func131, Tryz.ntmps131
  go_wp2_with (go_at_call 156; refine hcon.mono ?_; rintro e w1 ⟨rfl, hB⟩)
  go_wp2_with fail
  refine (sclone_any _ _ (by omega)).mono ?_
  rintro e w2 ⟨rfl, hB2⟩
  go_wp2
  go_ret
  exact ⟨rfl, then_ hB hB2⟩
end Go.Proofs.YtdclmpdjjkjfjaaGreatDoor
