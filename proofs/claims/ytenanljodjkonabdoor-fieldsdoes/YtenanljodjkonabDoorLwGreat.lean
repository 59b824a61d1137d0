/- The statements' own: greatFields, walked: if it says no, all is small. -/
import Derived.Test.YtenanljodjkonabDoorBase
import Derived.Test.YtenanljodjkonabDoorMemV
import Derived.Test.YtenanljodjkonabDoorProg
namespace Go.Proofs.YtenanljodjkonabDoor
open Go.RowKit

/-- fields that are few and small -/
def SmallF (l : List (ByteArray × ByteArray)) : Prop := l.length ≤ 100 ∧ ∀ p ∈ l, p.1.size + p.2.size ≤ 1000

set_option maxHeartbeats 800000 in
theorem greatFields_any (l : List (ByteArray × ByteArray)) (ao : Option Addr) (cap n : Nat) (w : World) (hl : IsV w ao cap n (pairV l)) (hn : l.length = n) (hz : ∀ p ∈ l, p.1.size + p.2.size ≤ maxLen) :
    Calls Tryd.prog 6 #[.slice ao n cap] w fun e w' => ∃ b : Bool, e = .returned (.bool b) ∧ (b = false → SmallF l) ∧ ∃ q, w' = w.drewN q := by
  subst hn
  by_cases h100 : 100 < l.length
  · go_enter Tryd.func6, Tryd.ntmps6
    go_wp2
    go_ret
    exact ⟨true, rfl, (fun h => by cases h), 0, rfl⟩
  · have t100 : decide ((l.length : Int) > 100) = false := by rw [decide_eq_false_iff_not]; omega
    have H := Hid.mk' hl
    have HZ := Hid.mk' hz
    clear hl hz
    go_enter Tryd.func6, Tryd.ntmps6
    go_wp2
    go_loopw [3] (fun t wr => ∃ k q : Nat, k ≤ l.length ∧ t = .int .i64 k ∧ wr = w.drewN q ∧ ∀ p ∈ l.take k, p.1.size + p.2.size ≤ 1000) (fun t _ => l.length - (intOf t).toNat)
    case atStart => exact ⟨0, 0, Nat.zero_le _, rfl, rfl, fun p hp => by simp at hp⟩
    case round =>
      obtain ⟨k, q, hk, rfl, rfl, hno⟩ := hrel
      have HN := Hid.mk' hno
      clear hno
      by_cases hlt : k < l.length
      · obtain ⟨bb, oo, rfl, hcs⟩ := H.out.lit (by rw [pairV_length]; omega)
        have hc0 := hcs _ _ (pairV_at l k hlt).1
        have hc1 := hcs _ _ (pairV_at l k hlt).2
        rw [← Nat.add_assoc] at hc1
        clear hcs
        have hlt' : (k : Int) < l.length := by omega
        have hz := HZ.out l[k] (List.getElem_mem hlt)
        have HT : Hid (l.take (k + 1) = l.take k ++ [l[k]]) := List.take_succ_eq_append_getElem hlt
        unfold maxLen at hz
        generalize l[k] = p at *
        have hw : IntKind.i64.wrap ((p.1.size : Int) + p.2.size) = (p.1.size : Int) + p.2.size := wrap_id (by omega) (by omega)
        by_cases hg : 1000 < p.1.size + p.2.size
        · have tg : decide ((p.1.size : Int) + p.2.size > 1000) = true := by rw [decide_eq_true_eq]; omega
          go_wp2
          go_quiet (fail)
          go_wp2
          go_ret
          exact ⟨true, rfl, (fun h => by cases h), q + nq, by simp⟩
        · have tg : decide ((p.1.size : Int) + p.2.size > 1000) = false := by rw [decide_eq_false_iff_not]; omega
          go_wp2
          go_quiet (fail)
          go_wp2
          go_roundw
          case rel =>
            refine ⟨k + 1, q + nq, by omega, by go_num, by simp, fun r hr => ?_⟩
            rw [HT.out, List.mem_append] at hr
            rcases hr with hr | hr
            · exact HN.out r hr
            · rw [List.mem_singleton] at hr; subst hr; omega
          case measure => simp [intOf]; omega
      · obtain rfl : k = l.length := by omega
        go_wp2
        go_ret
        exact ⟨false, rfl, fun _ => ⟨by omega, fun p hp => HN.out p (by rw [List.take_length]; exact hp)⟩, q, rfl⟩
end Go.Proofs.YtenanljodjkonabDoor
