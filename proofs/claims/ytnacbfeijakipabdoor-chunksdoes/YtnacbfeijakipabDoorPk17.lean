/- Small texts, one behind the other: RfChB, RfSame. -/
import Derived.Test.YtnacbfeijakipabDoorRfChunks
import Derived.Test.YtnacbfeijakipabDoorPk2
import Derived.Test.YtnacbfeijakipabDoorPk1
import Derived.Test.YtnacbfeijakipabDoorProg
/- The document's own answer for a body in chunks, whatever the bytes. -/
namespace Go.Proofs.YtnacbfeijakipabDoor
open Go.RowKit

theorem lineNone (ao : Option Addr) (c : Nat) (h : ao = none → c = 0) (W : World) :
    Calls Tryd.prog 37 #[.slice ao 0 c] W fun e w' => e = .returned (.tuple #[.string ⟨#[]⟩, .int .i64 0, .bool false, .int .i64 0]) ∧ w' = W :=
  lineOf_any [] ao c 0 W ⟨Nat.zero_le _, h, fun j hj => by cases hj⟩ rfl (by omega)

set_option maxRecDepth 100000 in
set_option maxHeartbeats 1600000 in
theorem chunksOf_none (ab : Option Addr) (cap : Nat) (w : World) (hb : IsB w ab cap []) :
    Calls Tryd.prog 21 #[.slice ab 0 cap] w fun e w' => ChOut w [] e w' := by
  have hn := hb.2.1
  clear hb
  by_cases hc : cap = 0
  · subst hc
    go_enter Tryd.func21, Tryd.ntmps21
    go_wp2
    refine wp_loop_rounds 1 ?_
    rw [rounds_succ]
    go_wp2_with fail
    refine (lineNone _ _ (fun _ => rfl) _).mono ?_
    rintro e w1 ⟨rfl, hw⟩
    subst hw
    go_wp2
    (try simp only [Exit.inBlock, Exit.then])
    refine bodyPost_ret (results_tmp4 rfl _ _ _) rfl ?_
    exact ChOut.of [] 0 false 0 none 0 0 _ rfl rfl rfl rfl (IsB.nil _) (Below.refl _ _)
  · obtain ⟨a, rfl⟩ : ∃ a, ab = some a := by
      cases ab with
      | none => exact absurd (hn rfl) hc
      | some a => exact ⟨a, rfl⟩
    clear hn
    go_enter Tryd.func21, Tryd.ntmps21
    go_wp2
    refine wp_loop_rounds 1 ?_
    rw [rounds_succ]
    go_wp2_with fail
    refine (lineNone _ _ (fun e => by cases e) _).mono ?_
    rintro e w1 ⟨rfl, hw⟩
    subst hw
    go_wp2
    (try simp only [Exit.inBlock, Exit.then])
    refine bodyPost_ret (results_tmp4 rfl _ _ _) rfl ?_
    exact ChOut.of [] 0 false 0 none 0 0 _ rfl rfl rfl rfl (IsB.nil _) (Below.refl _ _)

theorem chunksOf_any (b : List UInt8) (ab : Option Addr) (cap : Nat) (w : World) (hb : IsB w ab cap b) (h9 : b.length ≤ 9000) :
    Calls Tryd.prog 21 #[.slice ab b.length cap] w fun e w' => ChOut w b e w' := by
  by_cases h0 : 0 < b.length
  · obtain ⟨bb, oo, rfl, _⟩ := hb.lit h0
    exact chunksOf_some b bb oo cap w hb h9
  · obtain rfl : b = [] := List.eq_nil_of_length_eq_zero (by omega)
    exact chunksOf_none ab cap w hb
end Go.Proofs.YtnacbfeijakipabDoor

/- The document's own answer, walked: SameBytes. -/
namespace Go.Proofs.YtnacbfeijakipabDoor
open Go.RowKit

theorem same_text (a b : List UInt8) : ((⟨a.toArray⟩ : ByteArray).toList == (⟨b.toArray⟩ : ByteArray).toList) = decide (a = b) := by
  rw [Lib.toList_data, Lib.toList_data, Bool.eq_iff_iff]; simp

theorem sameBytes_any (w : World) (ao1 ao2 : Option Addr) (cap1 cap2 n1 n2 : Nat) (l1 l2 : List UInt8) (hn1 : l1.length = n1) (hn2 : l2.length = n2) (h1 : IsB w ao1 cap1 l1) (h2 : IsB w ao2 cap2 l2) :
    Calls Tryd.prog 18 #[.slice ao1 n1 cap1, .slice ao2 n2 cap2] w fun e w' => e = .returned (.bool (decide (l1 = l2))) ∧ w' = w := by
  subst hn1; subst hn2
  have q1 := h1.str (P := Tryd.prog) 36 9 5 Tryd.underlying36 Tryd.underlying5 Tryd.underlying9
  have q2 := h2.str (P := Tryd.prog) 36 9 5 Tryd.underlying36 Tryd.underlying5 Tryd.underlying9
  have HS := Hid.mk' (same_text l1 l2)
  generalize (⟨l1.toArray⟩ : ByteArray) = s1 at q1 HS
  generalize (⟨l2.toArray⟩ : ByteArray) = s2 at q2 HS
  clear h1 h2
  go_enter Tryd.func18, Tryd.ntmps18
  go_wp2
  go_ret
  exact ⟨ret_bool HS.out, rfl⟩
end Go.Proofs.YtnacbfeijakipabDoor
