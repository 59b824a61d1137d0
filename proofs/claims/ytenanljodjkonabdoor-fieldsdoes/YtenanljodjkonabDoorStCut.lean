/- strings.Cut at a mark of one byte, walked. -/
import Derived.Test.YtenanljodjkonabDoorStIndexB
import Derived.Test.YtenanljodjkonabDoorPlainG
namespace Go.Proofs.YtenanljodjkonabDoor
open Go.RowKit

set_option maxHeartbeats 2000000 in
set_option maxRecDepth 100000 in
theorem index_one (s : ByteArray) (c : UInt8) (w : World) :
    Calls Tryd.prog 35 #[.string s, .string ⟨#[c]⟩] w fun e w' => e = .returned (.int .i64 (Lib.indexByte s.data.toList c)) ∧ w' = w := by
  go_enter Tryd.func35, Tryd.ntmps35
  go_wp2_with (go_at_call 47; refine (sl_indexByte _ _ _).mono ?_; rintro e w' ⟨rfl, rfl⟩)
  · have h : ([c] == s.toList) = true := by assumption
    go_ret
    refine ⟨?_, rfl⟩
    have e : s.data.toList = [c] := by rw [← Lib.toList_data]; exact (beq_iff_eq.1 h).symm
    rw [e]
    simp [Lib.indexByte]
  · go_ret
    exact ⟨rfl, rfl⟩

/-- what is cut at a byte: what stands ahead of it, what stands behind it, and is it there? -/
def Fd.cutV (c : UInt8) (s : ByteArray) : Value :=
  if Fd.at_ c s.data.toList = s.size then .tuple #[.string s, .string ⟨#[]⟩, .bool false]
  else .tuple #[.string (s.extract 0 (Fd.at_ c s.data.toList)), .string (s.extract (Fd.at_ c s.data.toList + 1) s.size), .bool true]

set_option maxHeartbeats 800000 in
theorem slCut_one (s : ByteArray) (c : UInt8) (w : World) (hs : s.size ≤ maxLen) :
    Calls Tryd.prog 26 #[.string s, .string ⟨#[c]⟩] w fun e w' => e = .returned (Fd.cutV c s) ∧ ∃ n, w' = w.drewN n := by
  have HI := Hid.mk' (index_one s c w)
  have hl : s.data.toList.length = s.size := by rw [Array.length_toList]; rfl
  unfold maxLen at hs
  rcases Fd.index_at s.data.toList c with ⟨h1, h2⟩ | ⟨h1, h2⟩
  · rw [h1] at HI
    have HR : Hid (Fd.cutV c s = .tuple #[.string s, .string ⟨#[]⟩, .bool false]) := by unfold Hid Fd.cutV; rw [if_pos (by rw [h2, hl])]
    clear h1 h2 hl
    go_enter Tryd.func26, Tryd.ntmps26
    go_wp2_with fail
    refine HI.out.mono ?_
    rintro e w1 ⟨rfl, hw⟩
    subst hw
    go_wp2
    go_ret3
    exact ⟨by rw [HR.out]; rfl, 0, rfl⟩
  · rw [h1] at HI
    rw [hl] at h2
    have HR : Hid (Fd.cutV c s = .tuple #[.string (s.extract 0 (Fd.at_ c s.data.toList)), .string (s.extract (Fd.at_ c s.data.toList + 1) s.size), .bool true]) := by unfold Hid Fd.cutV; rw [if_neg (by omega)]
    clear h1 hl
    generalize Fd.at_ c s.data.toList = k at HI HR h2
    have c1 : (0 : Int) ≤ k := by omega
    have c2 : (k : Int) ≤ s.size := by omega
    have c3 : (k : Int) + 1 ≤ s.size := by omega
    have c4 : IntKind.i64.wrap ((k : Int) + 1) = (k : Int) + 1 := wrap_id (by omega) (by omega)
    have c5 : (0 : Int) ≤ (k : Int) + 1 := by omega
    have c6 : ((k : Int) + 1).toNat = k + 1 := by omega
    go_enter Tryd.func26, Tryd.ntmps26
    go_wp2_with fail
    refine HI.out.mono ?_
    rintro e w1 ⟨rfl, hw⟩
    subst hw
    go_wp2
    go_quiet (fail)
    go_wp2
    go_ret3
    exact ⟨by rw [HR.out]; rfl, nq, rfl⟩

set_option maxHeartbeats 400000 in
theorem cut_one (s : ByteArray) (c : UInt8) (w : World) (hs : s.size ≤ maxLen) :
    Calls Tryd.prog 15 #[.string s, .string ⟨#[c]⟩] w fun e w' => e = .returned (Fd.cutV c s) ∧ ∃ n, w' = w.drewN n := by
  have HC := Hid.mk' (slCut_one s c w hs)
  unfold Fd.cutV at HC ⊢
  split at HC
  · rename_i h
    rw [if_pos h]
    go_enter Tryd.func15, Tryd.ntmps15
    go_wp2_with fail
    refine HC.out.mono ?_
    rintro e w1 ⟨rfl, n, hw⟩
    subst hw
    go_wp2
    go_ret3
    exact ⟨rfl, n, rfl⟩
  · rename_i h
    rw [if_neg h]
    go_enter Tryd.func15, Tryd.ntmps15
    go_wp2_with fail
    refine HC.out.mono ?_
    rintro e w1 ⟨rfl, n, hw⟩
    subst hw
    go_wp2
    go_ret3
    exact ⟨rfl, n, rfl⟩
end Go.Proofs.YtenanljodjkonabDoor
