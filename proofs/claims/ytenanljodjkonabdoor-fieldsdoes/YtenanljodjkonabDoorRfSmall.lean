/- The document's own answer, walked: Small. -/
import Derived.Test.YtenanljodjkonabDoorBase
import Derived.Test.YtenanljodjkonabDoorPlainA
import Derived.Test.YtenanljodjkonabDoorProg
namespace Go.Proofs.YtenanljodjkonabDoor
open Go.RowKit

set_option maxHeartbeats 400000 in
theorem small_any (s : ByteArray) (w : World) (hs : s.size ≤ 2000) :
    Calls Tryd.prog 25 #[.string s] w fun e w' => e = .returned (.string ⟨(Ch.lower s.data.toList).toArray⟩) ∧ ∃ n, w' = w.drewN n := by
  go_enter Tryd.func25, Tryd.ntmps25
  go_wp2
  go_loopw [3, 4] (fun o i wr => ∃ k n : Nat, ∃ x : ByteArray, k ≤ s.size ∧ i = .int .i64 k ∧ o = .string x ∧ x.data.toList = Ch.lower (s.data.toList.take k) ∧ wr = w.drewN n) (fun _ i _ => s.size - (intOf i).toNat)
  case atStart => exact ⟨0, 0, ⟨#[]⟩, Nat.zero_le _, rfl, rfl, rfl, rfl⟩
  case round =>
    obtain ⟨k, n, x, hk, rfl, rfl, hx, rfl⟩ := hrel
    have hxs : x.size ≤ 2000 := by
      have := Ch.size_of_list hx
      rw [Ch.lower_length] at this
      have h2 : (s.data.toList.take k).length ≤ k := List.length_take_le _ _
      omega
    have HX : Hid (x.data.toList = Ch.lower (s.data.toList.take k)) := hx
    clear hx
    by_cases hlt : k < s.size
    · go_wp2
      go_loopw [5, 6] (fun c i wr => ∃ j n : Nat, ∃ y : ByteArray, j ≤ 26 ∧ i = .int .i64 j ∧ c = .string y ∧ y.data.toList = [Ch.lowTo s[k] j] ∧ wr = w.drewN n) (fun _ i _ => 26 - (intOf i).toNat)
      case atStart => exact ⟨0, n, _, Nat.zero_le _, rfl, rfl, by rw [Ch.one_at s k hlt, Ch.lowTo_zero], rfl⟩
      case round =>
        obtain ⟨j, n, y, hj, rfl, rfl, hy, rfl⟩ := hrel
        have hys : y.size ≤ 1 := by have := Ch.size_of_list hy; simp at this; omega
        have HY : Hid (y.data.toList = [Ch.lowTo s[k] j]) := hy
        clear hy
        by_cases hlj : j < 26
        · go_wp2
          go_quiet (fail)
          go_wp2
          · have he : (((((⟨#[65, 66, 67, 68, 69, 70, 71, 72, 73, 74, 75, 76, 77, 78, 79, 80, 81, 82, 83, 84, 85, 86, 87, 88, 89, 90]⟩ : ByteArray)[j]'hlj).toNat : Nat) : Int) == (s[k].toNat : Int)) = true := by assumption
            go_roundw
            case rel => exact ⟨j + 1, n + nq, _, by omega, by go_num, rfl, Ch.lowTo_hit _ _ hlj he, by simp [World.drewN]⟩
            case measure => simp [intOf]; omega
          · have he : (((((⟨#[65, 66, 67, 68, 69, 70, 71, 72, 73, 74, 75, 76, 77, 78, 79, 80, 81, 82, 83, 84, 85, 86, 87, 88, 89, 90]⟩ : ByteArray)[j]'hlj).toNat : Nat) : Int) == (s[k].toNat : Int)) = false := by assumption
            go_roundw
            case rel => exact ⟨j + 1, n + nq, y, by omega, by go_num, rfl, by rw [HY.out, Ch.lowTo_miss _ _ hlj he], by simp [World.drewN]⟩
            case measure => simp [intOf]; omega
        · obtain rfl : j = 26 := by omega
          go_wp2
          go_roundw
          case rel => exact ⟨k + 1, n, x ++ y, by omega, by go_num, rfl, by rw [Ch.data_append, HX.out, HY.out, Ch.take_snoc s k hlt, Ch.lower_snoc]; rfl, rfl⟩
          case measure => simp [intOf]; omega
    · go_wp2
      go_ret
      exact ⟨ret_str (Ch.str_eq (by rw [HX.out, Ch.take_all s k (by omega)])), n, rfl⟩
end Go.Proofs.YtenanljodjkonabDoor
