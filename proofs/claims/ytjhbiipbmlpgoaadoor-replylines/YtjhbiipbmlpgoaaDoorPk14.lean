/- Small texts, one behind the other: StClone, CsTrim. -/
import Derived.Test.YtjhbiipbmlpgoaaDoorBase
import Derived.Test.YtjhbiipbmlpgoaaDoorShelf
import Derived.Test.YtjhbiipbmlpgoaaDoorPk2
/- strings.Clone, walked. -/
namespace Go.Proofs.YtjhbiipbmlpgoaaDoor
open Go.RowKit

set_option maxHeartbeats 400000 in
theorem sclone_great (s : ByteArray) (w : World) (hs : s.size ≤ 281474976710656) :
    Calls Tryd.prog 35 #[.string s] w fun e w' => e = .returned (.string s) ∧ Below w.heap.size w w' := by
  have hcon := Any.stringslite_Clone Tryd.lays316 s w (by omega)
  change Calls Tryd.prog 43 _ _ (fun e w' => e = .returned (.string s) ∧ Below w.heap.size w w') at hcon
  go_enter Tryd.func35, Tryd.ntmps35
  go_wp2_with (go_at_call 43; refine hcon.mono ?_; rintro e w' ⟨rfl, hB⟩)
  go_ret
  exact ⟨rfl, hB⟩
theorem sclone_any (s : ByteArray) (w : World) (hs : s.size ≤ 1000000) :
    Calls Tryd.prog 35 #[.string s] w fun e w' => e = .returned (.string s) ∧ Below w.heap.size w w' := sclone_great s w (by omega)
end Go.Proofs.YtjhbiipbmlpgoaaDoor

/- Package chars, walked: Trim. -/
namespace Go.Proofs.YtjhbiipbmlpgoaaDoor
open Go.RowKit

set_option maxHeartbeats 1000000 in
theorem trim_any (s : ByteArray) (w : World) (hs : s.size ≤ 200000) :
    Calls Tryd.prog 31 #[.string s] w fun e w' => e = .returned (.string ⟨(Lib.trimS s.data.toList Ch.ws).toArray⟩) ∧ Below w.heap.size w w' := by
  have hcon := Any.strings_Trim_laid Tryd.lays160 (by kernel_rfl) s ⟨#[32, 9]⟩ w (by omega) (by decide) (ascii_of_all (by decide))
  change Calls Tryd.prog 40 _ _ (fun e w' => e = .returned (.string ⟨(Lib.trimS s.data.toList Ch.ws).toArray⟩) ∧ Below w.heap.size w w') at hcon
  have hr : (⟨(Lib.trimS s.data.toList Ch.ws).toArray⟩ : ByteArray).size ≤ 200000 := by
    have h1 := trimS_le s.data.toList
    rw [Ch.len_list] at h1
    show (Lib.trimS s.data.toList Ch.ws).toArray.size ≤ 200000
    rw [List.size_toArray]
    omega
  generalize (⟨(Lib.trimS s.data.toList Ch.ws).toArray⟩ : ByteArray) = r at hcon hr ⊢
  go_enter Tryd.func31, Tryd.ntmps31
  go_wp2_with (go_at_call 40; refine hcon.mono ?_; rintro e w1 ⟨rfl, hB⟩)
  go_wp2_with fail
  refine (sclone_any _ _ (by omega)).mono ?_
  rintro e w2 ⟨rfl, hB2⟩
  go_wp2
  go_ret
  exact ⟨rfl, then_ hB hB2⟩
end Go.Proofs.YtjhbiipbmlpgoaaDoor
