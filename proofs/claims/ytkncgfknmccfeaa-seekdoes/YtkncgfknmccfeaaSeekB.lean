/- A copy of bytes (bytes.Clone), walked: new memory that reads the same. -/
import Derived.Test.YtkncgfknmccfeaaSeekA
import Derived.WalkSpells
import Derived.WalkLawsBesides
namespace Go.Proofs.Ytkncgfknmccfeaa
open Go.RowKit

theorem info_u8 : (Try.prog.info? 5).map (fun i => (i.zero, i.size, i.bytes)) = some (some (.int .u8 0), 1, 1) := by kernel_rfl
theorem info_int : (Try.prog.info? 3).map (fun i => (i.zero, i.size, i.bytes)) = some (some (.int .i64 0), 1, 8) := by kernel_rfl

set_option maxHeartbeats 400000 in
theorem clone_any (l : List UInt8) (ao : Option Addr) (cap : Nat) (w : World) (h : IsB w ao cap l) (hl : l.length ≤ 140737488355328) :
    Calls Try.prog 13 #[.slice ao l.length cap] w fun e w' => ∃ ao' cap', e = .returned (.slice ao' l.length cap') ∧ OwnB w' w.heap.size 5 ao' cap' l ∧ Below w.heap.size w w' := by
  have hq : ∀ (w : World) (a : Option Addr) (n c n' c' : Nat), (binOp .eql 22 (.slice a n c) (.slice none n' c')).run Try.prog w = .ok (.bool a.isNone) w := fun w a n c n' c' => Lib.run_eql_slice_nil w _ _ a n c n' c' Try.underlying22
  obtain ⟨i0, hi, hz0, hz1, hz2⟩ := info_parts info_u8
  cases ao with
  | none =>
    obtain ⟨rfl, rfl⟩ := h.none_nil
    clear h
    go_enter Try.func13, Try.ntmps13
    go_wp2
    go_ret
    exact ⟨none, 0, rfl, OwnB.nil _ _ _, Below.refl _ _⟩
  | some a =>
    have H := Hid.mk' h
    have Hi := Hid.mk' hi; have Hz0 := Hid.mk' hz0; have Hz1 := Hid.mk' hz1; have Hz2 := Hid.mk' hz2
    clear h hi hz0 hz1 hz2
    have HO : Hid (OwnB (w.alloc (.cells #[] 5)) w.heap.size 5 (some ⟨w.heap.size, 0, none⟩) 0 []) := World.ownsRow_made w #[] 0 (Nat.le_refl _) (by decide) rfl
    go_enter Try.func13, Try.ntmps13
    go_wp2_with (at_builtin; refine wpList_append_b rfl (.tmp 5) (.tmp 6) 22 rfl w.heap.size 5 i0 Try.underlying22 Hi.out Hz0.out Hz1.out Hz2.out (l := []) (l2 := l) rfl rfl HO.out rfl rfl (H.out.alloc _) (by simpa using hl) (by simp) ?_; intro ao' cap' w1 hO hG)
    go_ret
    refine ⟨ao', cap', ?_, hO, ?_⟩
    · simp
    · exact ((Below.refl _ _).alloc (Nat.le_refl _) _).grown hG (by simp) (fun k e => by cases e; exact Nat.le_refl _)
/-- the same, its length said otherwise -/
theorem clone_n (l : List UInt8) (n : Nat) (ao : Option Addr) (cap : Nat) (w : World) (hn : l.length = n) (h : IsB w ao cap l) (hl : n ≤ 140737488355328) :
    Calls Try.prog 13 #[.slice ao n cap] w fun e w' => ∃ ao' cap', e = .returned (.slice ao' n cap') ∧ OwnB w' w.heap.size 5 ao' cap' l ∧ Below w.heap.size w w' := by
  subst hn; exact clone_any l ao cap w h hl
end Go.Proofs.Ytkncgfknmccfeaa
