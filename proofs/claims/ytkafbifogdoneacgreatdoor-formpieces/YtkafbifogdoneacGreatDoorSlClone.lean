/- slices.Clone of bytes, walked. -/
import Derived.Test.YtkafbifogdoneacGreatDoorPk9
import Derived.Test.YtkafbifogdoneacGreatDoorMemG
import Derived.Lib.SliceRun
namespace Go.Proofs.YtkafbifogdoneacGreatDoor
open Go.RowKit

set_option maxHeartbeats 1000000 in
theorem cloneBytes_any (l : List UInt8) (bo : Option Addr) (bcap n : Nat) (w : World) (hl : IsB w bo bcap l) (hn : l.length = n) (hN : n ≤ 140737488355328) :
    Calls Tryz.prog 94 #[.slice bo n bcap] w fun e w' => ∃ ao cap, e = .returned (.slice ao n cap) ∧ GrowB w' (fun k => w.heap.size ≤ k) 5 ao cap l ∧ Below w.heap.size w w' := by
  have qT : ∀ (w : World) (a : Option Addr) (n c n' c' : Nat), (binOp .eql 22 (.slice a n c) (.slice none n' c')).run Tryz.prog w = .ok (.bool a.isNone) w := fun w a n c n' c' => Lib.run_eql_slice_nil w _ _ a n c n' c' Tryz.underlying22
  cases bo with
  | none =>
    obtain ⟨rfl, rfl⟩ := hl.none_nil
    subst hn
    go_enter Tryz.func94, Tryz.ntmps94
    go_wp2
    go_ret
    exact ⟨none, 0, rfl, GrowB.nil _ _ _, Below.refl _ _⟩
  | some a =>
    have HL := Hid.mk' hl; have HN := Hid.mk' hn
    obtain ⟨i0, hi0, hz0, hz1, hz2⟩ := info_parts info_u8
    have Hi := Hid.mk' hi0; have Hz0 := Hid.mk' hz0; have Hz1 := Hid.mk' hz1; have Hz2 := Hid.mk' hz2
    clear hi0 hz0 hz1 hz2 hl hn
    go_enter Tryz.func94, Tryz.ntmps94
    go_wp2_with (at_builtin; refine wpList_append_grown (S := fun _ => False) rfl (.tmp 5) (.tmp 6) 22 rfl 5 i0 Tryz.underlying22 Hi.out Hz0.out Hz1.out Hz2.out (l := []) rfl rfl (Or.inr ⟨rfl, rfl⟩) rfl (HL.out.alloc _) HN.out (by omega) ?_; intro ao3 cap3 w3 hO3 hT3; have HO3 := Hid.mk' hO3; have HT3 := Hid.mk' hT3; clear hO3 hT3)
    go_ret
    refine ⟨ao3, cap3, by simp, ?_, ?_⟩
    · have := HO3.out
      rw [List.nil_append] at this
      exact this.mono (fun k _ e => by
        rcases e with e | e
        · simp [blkB] at e
        · simp at e; omega)
    · exact ((Below.refl _ _).alloc (Nat.le_refl _) _).trans (HT3.out.below (fun k e => by simp [blkB] at e) (by simp))
end Go.Proofs.YtkafbifogdoneacGreatDoor
