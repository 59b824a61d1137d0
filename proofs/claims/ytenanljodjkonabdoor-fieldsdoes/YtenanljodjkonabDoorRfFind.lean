/- The document's own answer, walked: FindFirst. -/
import Derived.Test.YtenanljodjkonabDoorPlainF
import Derived.Test.YtenanljodjkonabDoorPlainS
import Derived.Test.YtenanljodjkonabDoorBase
import Derived.Test.YtenanljodjkonabDoorMem
import Derived.Test.YtenanljodjkonabDoorProg
namespace Go.Proofs.YtenanljodjkonabDoor
open Go.RowKit

/-- the mark stands at i -/
def StandsAt (m x : List UInt8) (i : Nat) : Prop := i + m.length ≤ x.length ∧ (x.drop i).take m.length = m

/-- r is where it stands first, or -1 -/
def FindIs (m x : List UInt8) (r : Int) : Prop := (r = -1 ∧ ∀ j, ¬ StandsAt m x j) ∨ ∃ k : Nat, r = k ∧ StandsAt m x k ∧ ∀ j, j < k → ¬ StandsAt m x j

theorem FindIs.free {m x : List UInt8} {r : Int} (h : FindIs m x r) (hf : Sk.Free m x) : r = -1 := by
  rcases h with ⟨h, _⟩ | ⟨k, _, ⟨h1, h2⟩, _⟩
  · exact h
  · refine absurd ?_ hf
    refine ⟨x.take k, x.drop (k + m.length), ?_⟩
    rw [← h2]
    have : (x.drop k).drop m.length = x.drop (k + m.length) := by rw [List.drop_drop]
    rw [List.length_take, List.length_drop, Nat.min_eq_left (by omega), ← this, List.append_assoc, List.take_append_drop, List.take_append_drop]

theorem find_none (w : World) (ao : Option Addr) (cap : Nat) (x : List UInt8) (s : ByteArray) (hx : IsB w ao cap x) (hs : s.size = 0) :
    Calls Tryd.prog 20 #[.slice ao x.length cap, .string s] w fun e w' => e = .returned (.int .i64 0) ∧ w' = w := by
  have hs' : (s.size : Int) = 0 := by omega
  have hcap := hx.1
  have he : s.toList = [] := by
    rw [Lib.toList_data]
    exact List.eq_nil_of_length_eq_zero (by rw [Array.length_toList]; exact hs)
  have hq := (hx.first 0 (Nat.zero_le _)).str (P := Tryd.prog) 41 9 5 Tryd.underlying41 Tryd.underlying5 Tryd.underlying9
  simp only [List.take_zero, List.length_nil] at hq
  clear hx
  go_enter Tryd.func20, Tryd.ntmps20
  go_wp2
  go_loop [5] (fun t => t = .int .i64 0) (fun _ => 0)
  case atStart => rfl
  case round =>
    subst hrel
    go_wp2
    go_ret
    exact ⟨rfl, rfl⟩

set_option maxHeartbeats 800000 in
theorem find_some (w : World) (ao : Option Addr) (cap : Nat) (x : List UInt8) (s : ByteArray) (hx : IsB w ao cap x) (hL : s.size ≤ 1000000) (hs : 0 < s.size) (hX : x.length ≤ 1000000) :
    Calls Tryd.prog 20 #[.slice ao x.length cap, .string s] w fun e w' => ∃ r, e = .returned (.int .i64 r) ∧ FindIs s.data.toList x r ∧ w' = w := by
  have hcap := hx.1
  have H := Hid.mk' hx
  have HL : Hid (s.data.toList.length = s.size) := by unfold Hid; rw [Array.length_toList]; rfl
  clear hx
  go_enter Tryd.func20, Tryd.ntmps20
  go_wp2
  go_loop [5] (fun t => ∃ k : Nat, k ≤ x.length ∧ t = .int .i64 k ∧ ∀ j, j < k → ¬ StandsAt s.data.toList x j) (fun t => x.length + 1 - (intOf t).toNat)
  case atStart => exact ⟨0, Nat.zero_le _, rfl, fun j h => by omega⟩
  case round =>
    obtain ⟨k, hk, rfl, hno⟩ := hrel
    have HN := Hid.mk' hno
    clear hno
    by_cases hlt : k + s.size ≤ x.length
    · obtain ⟨a, rfl⟩ := H.out.some (by omega)
      have e1 : (k : Int) + s.size ≤ x.length := by omega
      have e2 : (k : Int) + s.size ≤ cap := by omega
      have e3 : ((k : Int) + s.size).toNat = k + s.size := by omega
      have e4 : ¬ cap = k := by omega
      have e5 : k + s.size - k = s.size := by omega
      have hq : (convert 41 9 (.slice (some (a.add k)) s.size (cap - k))).run Tryd.prog w = .ok (.string ⟨((x.drop k).take s.size).toArray⟩) w := by
        have h := H.out.cut (ao' := some (a.add k)) k (k + s.size) (by omega) hlt (fun _ => rfl)
        rw [e5] at h
        have h' := h.str (P := Tryd.prog) 41 9 5 Tryd.underlying41 Tryd.underlying5 Tryd.underlying9
        rw [List.length_take, List.length_drop, Nat.min_eq_left (by omega)] at h'
        exact h'
      by_cases hy : (x.drop k).take s.size = s.data.toList
      · have HY : Hid (StandsAt s.data.toList x k) := ⟨by rw [HL.out]; exact hlt, by rw [HL.out]; exact hy⟩
        have hy' : ((x.drop k).take s.size == s.toList) = true := by rw [Lib.toList_data, hy]; exact beq_self_eq_true _
        clear hy
        go_wp2
        go_ret
        exact ⟨k, rfl, Or.inr ⟨k, rfl, HY.out, HN.out⟩, rfl⟩
      · have HY : Hid (¬ StandsAt s.data.toList x k) := fun h => hy (by have := h.2; rwa [HL.out] at this)
        have hy' : ((x.drop k).take s.size == s.toList) = false := by rw [Lib.toList_data, beq_eq_false_iff_ne]; exact hy
        clear hy
        go_wp2
        go_round
        case rel =>
          refine ⟨k + 1, by omega, by go_num, fun j hj => ?_⟩
          by_cases e : j = k
          · subst e; exact HY.out
          · exact HN.out j (by omega)
        case measure => simp [intOf]; omega
    · have ht : decide ((k : Int) + s.size ≤ x.length) = false := by rw [decide_eq_false_iff_not]; omega
      go_wp2
      go_ret
      refine ⟨-1, rfl, Or.inl ⟨rfl, fun j hj => ?_⟩, rfl⟩
      by_cases e : j < k
      · exact HN.out j e hj
      · have := hj.1
        rw [HL.out] at this; omega

theorem find_any (w : World) (ao : Option Addr) (cap n : Nat) (x : List UInt8) (s : ByteArray) (hx : IsB w ao cap x) (hn : x.length = n) (hL : s.size ≤ 1000000) (hX : n ≤ 1000000) :
    Calls Tryd.prog 20 #[.slice ao n cap, .string s] w fun e w' => ∃ r, e = .returned (.int .i64 r) ∧ FindIs s.data.toList x r ∧ w' = w := by
  subst hn
  by_cases h : s.size = 0
  · refine (find_none w ao cap x s hx h).mono ?_
    rintro e w' ⟨rfl, hw⟩
    have e : s.data.toList = [] := by
      exact List.eq_nil_of_length_eq_zero (by rw [Array.length_toList]; exact h)
    exact ⟨0, rfl, Or.inr ⟨0, rfl, ⟨by rw [e]; simp, by rw [e]; rfl⟩, fun j hj => by omega⟩, hw⟩
  · exact find_some w ao cap x s hx hL (by omega) hX

/-- a mark of one byte -/
theorem find_one {c : UInt8} {l : List UInt8} {r : Int} (h : FindIs [c] l r) : (r = -1 ∧ Fd.at_ c l = l.length) ∨ (r = (Fd.at_ c l : Int) ∧ Fd.at_ c l < l.length) := by
  have key : ∀ j (hj : j < l.length), StandsAt [c] l j ↔ l[j] = c := fun j hj => by
    unfold StandsAt
    rw [List.drop_eq_getElem_cons hj]
    constructor
    · rintro ⟨_, h⟩
      exact (List.cons.inj (show l[j] :: List.take 0 _ = c :: [] from h)).1
    · intro e
      exact ⟨by simp; omega, by rw [e]; rfl⟩
  rcases h with ⟨h1, h2⟩ | ⟨k, h1, h2, h3⟩
  · exact Or.inl ⟨h1, Fd.at_none (fun j hj e => h2 j ((key j hj).2 e))⟩
  · have hk : k < l.length := by have := h2.1; simp at this; omega
    have e := Fd.at_is hk ((key k hk).1 h2) (fun j hj e => h3 j hj ((key j (by omega)).2 e))
    exact Or.inr ⟨by rw [e]; exact h1, by omega⟩

end Go.Proofs.YtenanljodjkonabDoor
