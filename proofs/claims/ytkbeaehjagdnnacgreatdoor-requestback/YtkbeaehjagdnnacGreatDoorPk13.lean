/- Small texts, one behind the other: CsVis, StIndexB, StCut, CsDigit. -/
import Derived.Test.YtkbeaehjagdnnacGreatDoorBase
import Derived.Test.YtkbeaehjagdnnacGreatDoorPk1
import Derived.Test.YtkbeaehjagdnnacGreatDoorProg
import Derived.Lib.Bytealg
import Derived.Test.YtkbeaehjagdnnacGreatDoorPk3
/- Package chars, walked: visible. -/
namespace Go.Proofs.YtkbeaehjagdnnacGreatDoor
open Go.RowKit

set_option maxHeartbeats 400000 in
theorem visible_any (c : Int) (w : World) :
    Calls Tryz.prog 86 #[.int .u8 c] w fun e w' => e = .returned (.bool (Ch.visible c)) ∧ w' = w := by
  by_cases h9 : c = 9
  · subst h9
    go_enter Tryz.func86, Tryz.ntmps86
    go_wp2
    go_ret
    exact ⟨ret_bool (by decide), rfl⟩
  · have h9' : (c == 9) = false := beq_eq_false_iff_ne.2 h9
    go_enter Tryz.func86, Tryz.ntmps86
    go_wp2
    all_goals go_ret
    all_goals refine ⟨ret_bool ?_, rfl⟩
    all_goals (unfold Ch.visible; rw [h9']; first | (rw [decide_eq_true (show 32 ≤ c by omega)]; simp) | (rw [decide_eq_false (show ¬ 32 ≤ c by omega)]; simp))
end Go.Proofs.YtkbeaehjagdnnacGreatDoor

/- strings.IndexByte, walked. -/
namespace Go.Proofs.YtkbeaehjagdnnacGreatDoor
open Go.RowKit

set_option maxHeartbeats 1000000 in
set_option maxRecDepth 100000 in
theorem sl_indexByte (s : ByteArray) (c : Int) (w : World) :
    Calls Tryz.prog 119 #[.string s, .int .u8 c] w fun e w' => e = .returned (.int .i64 (Lib.indexByte s.data.toList c.toNat.toUInt8)) ∧ w' = w := by
  go_enter Tryz.func119, Tryz.ntmps119
  go_wp2
  rw [run_callFunc_extern Tryz.func133 (by kernel_rfl) (by kernel_rfl) (by kernel_rfl) (e := Extern.BytealgIndexByte.indexByte) (by kernel_rfl), Lib.run_indexByteString]
  simp only [Result.andThen]
  rw [Oper.upon_value]
  go_wp2
  go_ret
  exact ⟨rfl, rfl⟩

set_option maxHeartbeats 400000 in
theorem indexByte_any (s : ByteArray) (c : Int) (w : World) :
    Calls Tryz.prog 97 #[.string s, .int .u8 c] w fun e w' => e = .returned (.int .i64 (Lib.indexByte s.data.toList c.toNat.toUInt8)) ∧ w' = w := by
  go_enter Tryz.func97, Tryz.ntmps97
  go_wp2_with (go_at_call 119; refine (sl_indexByte _ _ _).mono ?_; rintro e w' ⟨rfl, rfl⟩)
  go_ret
  exact ⟨rfl, rfl⟩
end Go.Proofs.YtkbeaehjagdnnacGreatDoor

/- strings.Cut at a mark of one byte, walked. -/
namespace Go.Proofs.YtkbeaehjagdnnacGreatDoor
open Go.RowKit

set_option maxHeartbeats 2000000 in
set_option maxRecDepth 100000 in
theorem index_one (s : ByteArray) (c : UInt8) (w : World) :
    Calls Tryz.prog 131 #[.string s, .string ⟨#[c]⟩] w fun e w' => e = .returned (.int .i64 (Lib.indexByte s.data.toList c)) ∧ w' = w := by
  go_enter Tryz.func131, Tryz.ntmps131
  go_wp2_with (go_at_call 119; refine (sl_indexByte _ _ _).mono ?_; rintro e w' ⟨rfl, rfl⟩)
  · have h : ([c] == s.toList) = true := by assumption
    go_ret
    refine ⟨?_, rfl⟩
    have e : s.data.toList = [c] := by rw [← Lib.toList_data]; exact (beq_iff_eq.1 h).symm
    rw [e]
    simp [Lib.indexByte]
  · go_ret
    exact ⟨rfl, rfl⟩

/-- what is cut at a byte: what stands ahead of it, what stands behind it, and is it there? -/
def Fd.cutV (c : UInt8) (s : ByteArray) : Value :=
  if Fd.at_ c s.data.toList = s.size then .tuple #[.string s, .string ⟨#[]⟩, .bool false]
  else .tuple #[.string (s.extract 0 (Fd.at_ c s.data.toList)), .string (s.extract (Fd.at_ c s.data.toList + 1) s.size), .bool true]

set_option maxHeartbeats 800000 in
theorem slCut_one (s : ByteArray) (c : UInt8) (w : World) (hs : s.size ≤ maxLen) :
    Calls Tryz.prog 113 #[.string s, .string ⟨#[c]⟩] w fun e w' => e = .returned (Fd.cutV c s) ∧ ∃ n, w' = w.drewN n := by
  have HI := Hid.mk' (index_one s c w)
  have hl : s.data.toList.length = s.size := by rw [Array.length_toList]; rfl
  unfold maxLen at hs
  rcases Fd.index_at s.data.toList c with ⟨h1, h2⟩ | ⟨h1, h2⟩
  · rw [h1] at HI
    have HR : Hid (Fd.cutV c s = .tuple #[.string s, .string ⟨#[]⟩, .bool false]) := by unfold Hid Fd.cutV; rw [if_pos (by rw [h2, hl])]
    clear h1 h2 hl
    go_enter Tryz.func113, Tryz.ntmps113
    go_wp2_with fail
    refine HI.out.mono ?_
    rintro e w1 ⟨rfl, hw⟩
    subst hw
    go_wp2
    go_ret3
    exact ⟨by rw [HR.out]; rfl, 0, rfl⟩
  · rw [h1] at HI
    rw [hl] at h2
    have HR : Hid (Fd.cutV c s = .tuple #[.string (s.extract 0 (Fd.at_ c s.data.toList)), .string (s.extract (Fd.at_ c s.data.toList + 1) s.size), .bool true]) := by unfold Hid Fd.cutV; rw [if_neg (by omega)]
    clear h1 hl
    generalize Fd.at_ c s.data.toList = k at HI HR h2
    have c1 : (0 : Int) ≤ k := by omega
    have c2 : (k : Int) ≤ s.size := by omega
    have c3 : (k : Int) + 1 ≤ s.size := by omega
    have c4 : IntKind.i64.wrap ((k : Int) + 1) = (k : Int) + 1 := wrap_id (by omega) (by omega)
    have c5 : (0 : Int) ≤ (k : Int) + 1 := by omega
    have c6 : ((k : Int) + 1).toNat = k + 1 := by omega
    go_enter Tryz.func113, Tryz.ntmps113
    go_wp2_with fail
    refine HI.out.mono ?_
    rintro e w1 ⟨rfl, hw⟩
    subst hw
    go_wp2
    go_quiet (fail)
    go_wp2
    go_ret3
    exact ⟨by rw [HR.out]; rfl, nq, rfl⟩

set_option maxHeartbeats 400000 in
theorem cut_one (s : ByteArray) (c : UInt8) (w : World) (hs : s.size ≤ maxLen) :
    Calls Tryz.prog 89 #[.string s, .string ⟨#[c]⟩] w fun e w' => e = .returned (Fd.cutV c s) ∧ ∃ n, w' = w.drewN n := by
  have HC := Hid.mk' (slCut_one s c w hs)
  unfold Fd.cutV at HC ⊢
  split at HC
  · rename_i h
    rw [if_pos h]
    go_enter Tryz.func89, Tryz.ntmps89
    go_wp2_with fail
    refine HC.out.mono ?_
    rintro e w1 ⟨rfl, n, hw⟩
    subst hw
    go_wp2
    go_ret3
    exact ⟨rfl, n, rfl⟩
  · rename_i h
    rw [if_neg h]
    go_enter Tryz.func89, Tryz.ntmps89
    go_wp2_with fail
    refine HC.out.mono ?_
    rintro e w1 ⟨rfl, n, hw⟩
    subst hw
    go_wp2
    go_ret3
    exact ⟨rfl, n, rfl⟩
end Go.Proofs.YtkbeaehjagdnnacGreatDoor

/- Package chars, walked: digit. -/
namespace Go.Proofs.YtkbeaehjagdnnacGreatDoor
open Go.RowKit

set_option maxHeartbeats 400000 in
theorem digit_any (c : Int) (w : World) :
    Calls Tryz.prog 95 #[.int .u8 c] w fun e w' => e = .returned (.bool (Ch.digit c)) ∧ w' = w := by
  go_enter Tryz.func95, Tryz.ntmps95
  go_wp2
  all_goals go_ret
  all_goals refine ⟨ret_bool ?_, rfl⟩
  all_goals (simp [Ch.digit]; try omega)
end Go.Proofs.YtkbeaehjagdnnacGreatDoor
