/- The document's own answer, walked where both are the same: SameFields. -/
import Derived.Test.YtdclmpdjjkjfjaaGreatDoorPk3
import Derived.Test.YtdclmpdjjkjfjaaGreatDoorPk12
import Derived.Deep.RegionHeld3
namespace Go.Proofs.YtdclmpdjjkjfjaaGreatDoor
open Go.RowKit

set_option maxHeartbeats 800000 in
theorem sameFields_yes (l : List (ByteArray × ByteArray)) (a1 a2 : Option Addr) (c1 c2 : Nat) (w : World) (h1 : IsV w a1 c1 l.length (pairV l)) (h2 : IsV w a2 c2 l.length (pairV l)) (hN : l.length ≤ 4398046511104) :
    Calls Tryz.prog 39 #[.slice a1 l.length c1, .slice a2 l.length c2] w fun e w' => e = .returned (.bool true) ∧ ∃ n, w' = w.drewN n := by
  have H1 := Hid.mk' h1; have H2 := Hid.mk' h2
  clear h1 h2
  go_enter Tryz.func39, Tryz.ntmps39
  go_wp2
  go_loopw [5] (fun t wr => ∃ k q : Nat, k ≤ l.length ∧ t = .int .i64 k ∧ wr = w.drewN q) (fun t _ => l.length - (intOf t).toNat)
  case atStart => exact ⟨0, 0, Nat.zero_le _, rfl, rfl⟩
  case round =>
    obtain ⟨k, q, hk, rfl, rfl⟩ := hrel
    by_cases hlt : k < l.length
    · obtain ⟨b1, o1, rfl, hcs1⟩ := H1.out.lit (by rw [pairV_length]; omega)
      obtain ⟨b2, o2, rfl, hcs2⟩ := H2.out.lit (by rw [pairV_length]; omega)
      have d0 := hcs1 _ _ (pairV_at l k hlt).1
      have d1 := hcs1 _ _ (pairV_at l k hlt).2
      have f0 := hcs2 _ _ (pairV_at l k hlt).1
      have f1 := hcs2 _ _ (pairV_at l k hlt).2
      rw [← Nat.add_assoc] at d1 f1
      clear hcs1 hcs2
      have e1 : (k : Int) < l.length := by omega
      have hne := fun W => neq_field l[k].1 l[k].2 l[k].1 l[k].2 W
      have hgu := guard_field
      generalize l[k] = p1 at *
      have hq : (!((p1.1.toList == p1.1.toList) && (p1.2.toList == p1.2.toList))) = false := by rw [beq_self_eq_true, beq_self_eq_true]; rfl
      rw [hq] at hne
      go_wp2
      go_quiet (fail)
      go_wp2
      go_roundw
      case rel => exact ⟨k + 1, q + nq, by omega, by go_num, by simp⟩
      case measure => simp [intOf]; omega
    · go_wp2
      go_ret
      exact ⟨rfl, q, rfl⟩
end Go.Proofs.YtdclmpdjjkjfjaaGreatDoor
