/- The document's own answers on bytes: the same? the longest end that begins a mark; where a mark stands first: walked. -/
import Derived.Test.YtkncgfknmccfeaaSeekE
import Derived.Deep.QuietTactic
import Derived.BigQuiet
import Derived.Lib.Strings
namespace Go.Proofs.Ytkncgfknmccfeaa
open Go.RowKit

theorem same_text (a b : List UInt8) : ((⟨a.toArray⟩ : ByteArray).toList == (⟨b.toArray⟩ : ByteArray).toList) = decide (a = b) := by
  rw [Lib.toList_data, Lib.toList_data, Bool.eq_iff_iff]; simp

theorem sameBytes_any (w : World) (ao1 ao2 : Option Addr) (cap1 cap2 n1 n2 : Nat) (l1 l2 : List UInt8) (hn1 : l1.length = n1) (hn2 : l2.length = n2) (h1 : IsB w ao1 cap1 l1) (h2 : IsB w ao2 cap2 l2) :
    Calls Try.prog 7 #[.slice ao1 n1 cap1, .slice ao2 n2 cap2] w fun e w' => e = .returned (.bool (decide (l1 = l2))) ∧ w' = w := by
  subst hn1; subst hn2
  have q1 := h1.str (P := Try.prog) 22 9 5 Try.underlying22 Try.underlying5 Try.underlying9
  have q2 := h2.str (P := Try.prog) 22 9 5 Try.underlying22 Try.underlying5 Try.underlying9
  have HS := Hid.mk' (same_text l1 l2)
  generalize (⟨l1.toArray⟩ : ByteArray) = s1 at q1 HS
  generalize (⟨l2.toArray⟩ : ByteArray) = s2 at q2 HS
  clear h1 h2
  go_enter Try.func7, Try.ntmps7
  go_wp2
  go_ret
  exact ⟨ret_bool HS.out, rfl⟩

theorem IsB.drewN {w : World} {ao : Option Addr} {cap : Nat} {l : List UInt8} (h : IsB w ao cap l) (n : Nat) : IsB (w.drewN n) ao cap l :=
  h.move (fun a _ v j hv => by rw [World.cell?_drewN]; exact hv)

theorem heldOf_none (w : World) (ao : Option Addr) (cap n : Nat) (s : ByteArray) (hs : s.size = 0) :
    Calls Try.prog 11 #[.slice ao n cap, .string s] w fun e w' => e = .returned (.int .i64 0) ∧ ∃ q, w' = w.drewN q := by
  have hs' : (s.size : Int) = 0 := by omega
  go_enter Try.func11, Try.ntmps11
  go_wp2
  go_loop [5] (fun t => t = .int .i64 (-1)) (fun _ => 0)
  case atStart => rfl
  case round =>
    subst hrel
    go_wp2
    go_ret
    exact ⟨rfl, 0, rfl⟩

/-- an end of x, as a test -/
theorem ends_iff (m x : List UInt8) (k : Nat) (hk : k ≤ m.length) : m.take k <:+ x ↔ k ≤ x.length ∧ x.drop (x.length - k) = m.take k := by
  constructor
  · intro h
    have hl := h.length_le
    rw [List.length_take, Nat.min_eq_left hk] at hl
    refine ⟨hl, ?_⟩
    obtain ⟨y, rfl⟩ := h
    rw [List.length_append, List.length_take, Nat.min_eq_left hk, Nat.add_sub_cancel, List.drop_left]
  · rintro ⟨_, h⟩
    rw [← h]; exact List.drop_suffix _ _

theorem best_yes (m x : List UInt8) (k : Nat) (h : m.take k <:+ x) : Sk.best m x k = k := by
  cases k with
  | zero => rfl
  | succ k => unfold Sk.best; rw [if_pos h]
theorem best_no (m x : List UInt8) (k : Nat) (h : ¬ m.take k <:+ x) : Sk.best m x k = Sk.best m x (k - 1) := by
  cases k with
  | zero => rfl
  | succ k => conv => lhs; unfold Sk.best
              rw [if_neg h]; rfl
theorem first_bytes (s : ByteArray) (k : Nat) : (s.extract 0 k).toList = s.data.toList.take k := by
  rw [Lib.toList_data, Lib.extract_data]; simp

set_option maxHeartbeats 1600000 in
theorem heldOf_some (w : World) (ao : Option Addr) (cap : Nat) (x : List UInt8) (s : ByteArray) (hx : IsB w ao cap x) (hL : s.size ≤ 1000000) (hs : 0 < s.size) (hX : x.length ≤ 1000000) :
    Calls Try.prog 11 #[.slice ao x.length cap, .string s] w fun e w' => e = .returned (.int .i64 (Sk.held s.data.toList x)) ∧ ∃ q, w' = w.drewN q := by
  have hcap := hx.1
  have H := Hid.mk' hx
  clear hx
  go_enter Try.func11, Try.ntmps11
  go_wp2
  go_loopw [5] (fun t wr => ∃ k q : Nat, k ≤ s.size - 1 ∧ t = .int .i64 k ∧ wr = w.drewN q ∧ Sk.held s.data.toList x = Sk.best s.data.toList x k) (fun t _ => (intOf t).toNat)
  case atStart => exact ⟨s.size - 1, 0, Nat.le_refl _, by go_num, rfl, rfl⟩
  case round =>
    obtain ⟨k, q, hk, rfl, rfl, hb⟩ := hrel
    by_cases hk0 : 0 < k
    · by_cases hkx : k ≤ x.length
      · obtain ⟨a, rfl⟩ := H.out.some (by omega)
        have e1 : (0 : Int) ≤ (x.length : Int) - k := by omega
        have e2 : (k : Int) ≤ x.length := by omega
        have e3 : ((x.length : Int) - k).toNat = x.length - k := by omega
        have e4 : ¬ cap = x.length - k := by omega
        have e5 : x.length - (x.length - k) = k := by omega
        have e6 : IntKind.i64.wrap ((x.length : Int) - k) = (x.length : Int) - k := wrap_id (by omega) (by omega)
        have hq : ∀ n, (convert 22 9 (.slice (some (a.add (x.length - k))) k (cap - (x.length - k)))).run Try.prog (w.drewN n) = .ok (.string ⟨(x.drop (x.length - k)).toArray⟩) (w.drewN n) := fun n => by
          have h := (H.out.drewN n).cut (ao' := some (a.add (x.length - k))) (x.length - k) x.length (by omega) (Nat.le_refl _) (fun _ => rfl)
          rw [e5, List.take_of_length_le (by rw [List.length_drop]; omega)] at h
          have h' := h.str (P := Try.prog) 22 9 5 Try.underlying22 Try.underlying5 Try.underlying9
          rw [List.length_drop, e5] at h'
          exact h'
        have e8 : (k : Int) ≤ s.size := by omega
        have e7 : (x.length : Int) - k ≤ x.length := by omega
        have ht : decide ((k : Int) ≤ x.length) = true := by rw [decide_eq_true_eq]; omega
        by_cases hy : x.drop (x.length - k) = s.data.toList.take k
        · have hy' : (x.drop (x.length - k) == (s.extract 0 k).toList) = true := by rw [first_bytes, hy]; exact beq_self_eq_true _
          have HB : Hid (Sk.held s.data.toList x = k) := hb.trans (best_yes _ _ _ ((ends_iff _ _ _ (by rw [Array.length_toList]; exact Nat.le_trans hk (Nat.sub_le _ _))).2 ⟨hkx, hy⟩))
          clear hb hy
          go_wp2
          go_quiet (fail)
          go_wp2
          go_ret
          exact ⟨ret_int (by rw [HB.out]), q + nq, by simp⟩
        · have hy' : (x.drop (x.length - k) == (s.extract 0 k).toList) = false := by rw [first_bytes, beq_eq_false_iff_ne]; exact hy
          have HB : Hid (Sk.held s.data.toList x = Sk.best s.data.toList x (k - 1)) := hb.trans (best_no _ _ _ (fun h => hy ((ends_iff _ _ _ (by rw [Array.length_toList]; exact Nat.le_trans hk (Nat.sub_le _ _))).1 h).2))
          clear hb hy
          go_wp2
          go_quiet (fail)
          go_wp2
          go_roundw
          case rel => exact ⟨k - 1, q + nq, by omega, by go_num, by simp, HB.out⟩
          case measure => simp [intOf]; omega
      · have ht : decide ((k : Int) ≤ x.length) = false := by rw [decide_eq_false_iff_not]; omega
        have HB : Hid (Sk.held s.data.toList x = Sk.best s.data.toList x (k - 1)) := hb.trans (best_no _ _ _ (fun h => hkx ((ends_iff _ _ _ (by rw [Array.length_toList]; exact Nat.le_trans hk (Nat.sub_le _ _))).1 h).1))
        clear hb
        go_wp2
        go_quiet (fail)
        go_wp2
        go_roundw
        case rel => exact ⟨k - 1, q + nq, by omega, by go_num, by simp, HB.out⟩
        case measure => simp [intOf]; omega
    · obtain rfl : k = 0 := by omega
      have HB : Hid (Sk.held s.data.toList x = 0) := hb
      clear hb
      go_wp2
      go_ret
      exact ⟨ret_int (by rw [HB.out]; rfl), q, rfl⟩

/-- the longest end of x that begins the mark, and is not all of it -/
theorem heldOf_any (w : World) (ao : Option Addr) (cap n : Nat) (x : List UInt8) (s : ByteArray) (hx : IsB w ao cap x) (hn : x.length = n) (hL : s.size ≤ 1000000) (hX : n ≤ 1000000) :
    Calls Try.prog 11 #[.slice ao n cap, .string s] w fun e w' => e = .returned (.int .i64 (Sk.held s.data.toList x)) ∧ ∃ q, w' = w.drewN q := by
  subst hn
  by_cases h : s.size = 0
  · have e : Sk.held s.data.toList x = 0 := by
      have := Sk.held_le s.data.toList x
      rw [Array.length_toList] at this
      have : s.data.size = 0 := h
      omega
    rw [e]; exact heldOf_none w ao cap _ s h
  · exact heldOf_some w ao cap x s hx hL (by omega) hX
end Go.Proofs.Ytkncgfknmccfeaa
