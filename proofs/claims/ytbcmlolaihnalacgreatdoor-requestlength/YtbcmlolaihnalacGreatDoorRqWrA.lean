/- What request.Write calls of the library, walked: strings.Join of three texts at a blank, slices.Clone of fields. -/
import Derived.Test.YtbcmlolaihnalacGreatDoorRqFlt
import Derived.Test.YtbcmlolaihnalacGreatDoorRqFld
import Derived.Lib.SliceRun
namespace Go.Proofs.YtbcmlolaihnalacGreatDoor
open Go.RowKit

theorem builderExtra : Builder.Extra Tryz.prog Tryz.lays156_ren where
  sizeBuilder := by kernel_rfl
  liesBuilder := by kernel_rfl
  t5 := Tryz.underlying5
  a5 := Tryz.isAgg5
  z5 := Tryz.sizeOf5
  v5 := Tryz.zeroValue5
  infoByte := by kernel_rfl
  cellsByte := by kernel_rfl
  sizeByte := by kernel_rfl
  neB5 := by decide
/-- three texts, a blank between them -/
theorem join_three (x y z : ByteArray) (bk : Nat) (w : World) (c0 : w.cell? ⟨bk, 0, none⟩ = some (.string x)) (c1 : w.cell? ⟨bk, 1, none⟩ = some (.string y)) (c2 : w.cell? ⟨bk, 2, none⟩ = some (.string z)) (hz : x.size + y.size + z.size ≤ 1000000) :
    Calls Tryz.prog 28 #[.slice (some ⟨bk, 0, none⟩) 3 3, .string ⟨#[32]⟩] w fun e w' => e = .returned (.string ⟨(x.data.toList ++ 32 :: (y.data.toList ++ 32 :: z.data.toList)).toArray⟩) ∧ Below w.heap.size w w' := by
  have ej : Lib.join (([x, y, z] : List ByteArray).map (·.data.toList)) [32] = x.data.toList ++ 32 :: (y.data.toList ++ 32 :: z.data.toList) := by
    simp [Lib.join, List.intercalate, List.intersperse]
  have hl : ∀ s : ByteArray, s.data.toList.length = s.size := fun s => by rw [Array.length_toList]; rfl
  have h := Any.strings_Join Tryz.lays156 builderExtra bk 0 3 [x, y, z] ⟨#[32]⟩ w (fun j u hj => by
    match j, hj with
    | 0, hj => injection hj with hj; subst hj; simpa using c0
    | 1, hj => injection hj with hj; subst hj; simpa using c1
    | 2, hj => injection hj with hj; subst hj; simpa using c2
    | j + 3, hj => simp at hj) (World.block_lt_of_cell? w _ c0) (by simp) (by simp) (by
      show (Lib.join (([x, y, z] : List ByteArray).map (·.data.toList)) [32]).length ≤ _
      rw [ej]
      have := hl x; have := hl y; have := hl z
      simp only [List.length_append, List.length_cons]; omega)
  have e2 : Lib.join (([x, y, z] : List ByteArray).map (·.data.toList)) (⟨#[32]⟩ : ByteArray).data.toList = x.data.toList ++ 32 :: (y.data.toList ++ 32 :: z.data.toList) := ej
  rw [e2] at h
  exact h

set_option maxHeartbeats 1000000 in
theorem cloneFields_any (l : List (ByteArray × ByteArray)) (fo : Option Addr) (fcap n : Nat) (w : World) (hl : IsV w fo fcap n (pairV l)) (hn : l.length = n) (hN : n ≤ 1000000) :
    Calls Tryz.prog 31 #[.slice fo n fcap] w fun e w' => ∃ ao cap, e = .returned (.slice ao n cap) ∧ OwnV w' w.heap.size 43 2 ao cap n (pairV l) ∧ Below w.heap.size w w' := by
  have qT : ∀ (w : World) (a : Option Addr) (n c n' c' : Nat), (binOp .eql 34 (.slice a n c) (.slice none n' c')).run Tryz.prog w = .ok (.bool a.isNone) w := fun w a n c n' c' => Lib.run_eql_slice_nil w _ _ a n c n' c' Tryz.underlying34
  cases fo with
  | none =>
    have hc := hl.2.1 rfl
    have hn0 : n = 0 := by have := hl.1; omega
    subst hn0
    obtain rfl : l = [] := List.eq_nil_of_length_eq_zero hn
    go_enter Tryz.func31, Tryz.ntmps31
    go_wp2
    go_ret
    exact ⟨none, 0, rfl, OwnV.nil _ _ _ _, Below.refl _ _⟩
  | some a =>
    have HL := Hid.mk' hl
    have hp := pairV_length l
    obtain ⟨i0, hi0, hz0, hz1, hz2⟩ := info_parts info_fld
    have Hi := Hid.mk' hi0; have Hz0 := Hid.mk' hz0; have Hz1 := Hid.mk' hz1; have Hz2 := Hid.mk' hz2
    have HP : Hid ((pairV l).length = n * 2) := by rw [hn] at hp; exact hp
    clear hi0 hz0 hz1 hz2 hl hp hn
    go_enter Tryz.func31, Tryz.ntmps31
    go_wp2_with (at_builtin; refine wpList_append_v rfl (.tmp 5) (.tmp 6) 34 rfl w.heap.size 43 i0 (.agg #[.string ⟨#[]⟩, .string ⟨#[]⟩]) 2 32 Tryz.underlying34 Hi.out Hz0.out Hz1.out Hz2.out rfl (by decide) (n := 0) (xs := []) rfl (World.ownsRow_lit _ #[] 0 (by simp) (by decide) rfl) rfl (HL.out.alloc _) HP.out (pairV_one l) (by omega) (by omega) (by simp) ?_; intro ao3 cap3 w3 hO3 hG3 hat3; have HO3 := Hid.mk' hO3; have HG3 := Hid.mk' hG3; clear hO3 hG3 hat3)
    go_ret
    refine ⟨ao3, cap3, by simp, ?_, ?_⟩
    · have := HO3.out
      rw [List.nil_append, Nat.zero_add] at this
      exact this
    · exact ((Below.refl _ _).alloc (Nat.le_refl _) _).grown HG3.out (by simp) (fun q e => by simp [blockOf] at e; omega)
end Go.Proofs.YtbcmlolaihnalacGreatDoor
