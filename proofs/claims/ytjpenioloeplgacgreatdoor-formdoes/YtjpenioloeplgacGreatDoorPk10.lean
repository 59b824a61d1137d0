/- Small texts, one behind the other: BtClone, RfPrm, RfHeld, RfSame, RfSamP. -/
import Derived.Test.YtjpenioloeplgacGreatDoorPk4
import Derived.Test.YtjpenioloeplgacGreatDoorPk9
import Derived.Test.YtjpenioloeplgacGreatDoorBase
import Derived.Test.YtjpenioloeplgacGreatDoorProg
import Derived.Test.YtjpenioloeplgacGreatDoorPlainS
/- A copy of bytes (bytes.Clone), walked: new memory that reads the same. -/
namespace Go.Proofs.YtjpenioloeplgacGreatDoor
open Go.RowKit

set_option maxHeartbeats 400000 in
theorem clone_any (l : List UInt8) (ao : Option Addr) (cap : Nat) (w : World) (h : IsB w ao cap l) (hl : l.length ≤ 140737488355328) :
    Calls Tryz.prog 98 #[.slice ao l.length cap] w fun e w' => ∃ ao' cap', e = .returned (.slice ao' l.length cap') ∧ OwnB w' w.heap.size 5 ao' cap' l ∧ Below w.heap.size w w' := by
  have hq : ∀ (w : World) (a : Option Addr) (n c n' c' : Nat), (binOp .eql 22 (.slice a n c) (.slice none n' c')).run Tryz.prog w = .ok (.bool a.isNone) w := fun w a n c n' c' => Lib.run_eql_slice_nil w _ _ a n c n' c' Tryz.underlying22
  obtain ⟨i0, hi, hz0, hz1, hz2⟩ := info_parts info_u8
  cases ao with
  | none =>
    obtain ⟨rfl, rfl⟩ := h.none_nil
    clear h
    go_enter Tryz.func98, Tryz.ntmps98
    go_wp2
    go_ret
    exact ⟨none, 0, rfl, OwnB.nil _ _ _, Below.refl _ _⟩
  | some a =>
    have H := Hid.mk' h
    have Hi := Hid.mk' hi; have Hz0 := Hid.mk' hz0; have Hz1 := Hid.mk' hz1; have Hz2 := Hid.mk' hz2
    clear h hi hz0 hz1 hz2
    have HO : Hid (OwnB (w.alloc (.cells #[] 5)) w.heap.size 5 (some ⟨w.heap.size, 0, none⟩) 0 []) := World.ownsRow_made w #[] 0 (Nat.le_refl _) (by decide) rfl
    go_enter Tryz.func98, Tryz.ntmps98
    go_wp2_with (at_builtin; refine wpList_append_b rfl (.tmp 5) (.tmp 6) 22 rfl w.heap.size 5 i0 Tryz.underlying22 Hi.out Hz0.out Hz1.out Hz2.out (l := []) (l2 := l) rfl rfl HO.out rfl rfl (H.out.alloc _) (by simpa using hl) (by simp) ?_; intro ao' cap' w1 hO hG)
    go_ret
    refine ⟨ao', cap', ?_, hO, ?_⟩
    · simp
    · exact ((Below.refl _ _).alloc (Nat.le_refl _) _).grown hG (by simp) (fun k e => by cases e; exact Nat.le_refl _)

/-- the same, its length said otherwise -/
theorem clone_n (l : List UInt8) (n : Nat) (ao : Option Addr) (cap : Nat) (w : World) (hn : l.length = n) (h : IsB w ao cap l) (hl : n ≤ 140737488355328) :
    Calls Tryz.prog 98 #[.slice ao n cap] w fun e w' => ∃ ao' cap', e = .returned (.slice ao' n cap') ∧ OwnB w' w.heap.size 5 ao' cap' l ∧ Below w.heap.size w w' := by
  subst hn; exact clone_any l ao cap w h hl
end Go.Proofs.YtjpenioloeplgacGreatDoor

/- The document's own answer, walked: ParamOf. -/
namespace Go.Proofs.YtjpenioloeplgacGreatDoor
open Go.RowKit

/-- the value of a name's parameter -/
def Pm_get (name : ByteArray) : List (ByteArray × ByteArray) → Option ByteArray
  | [] => none
  | p :: t => if p.1.data.toList = name.data.toList then some p.2 else Pm_get name t
theorem Pm_get_none {name : ByteArray} {l : List (ByteArray × ByteArray)} (h : ∀ p ∈ l, p.1.data.toList ≠ name.data.toList) : Pm_get name l = none := by
  induction l with
  | nil => rfl
  | cons p t ih =>
    unfold Pm_get
    rw [if_neg (h p (List.mem_cons_self ..))]
    exact ih (fun q hq => h q (List.mem_cons_of_mem _ hq))
theorem Pm_get_at {name : ByteArray} {l : List (ByteArray × ByteArray)} {k : Nat} (hk : k < l.length) (h : ∀ p ∈ l.take k, p.1.data.toList ≠ name.data.toList) (he : l[k].1.data.toList = name.data.toList) : Pm_get name l = some l[k].2 := by
  induction l generalizing k with
  | nil => simp at hk
  | cons p t ih =>
    cases k with
    | zero => unfold Pm_get; rw [if_pos (show p.1.data.toList = name.data.toList from he)]; rfl
    | succ k =>
      unfold Pm_get
      rw [if_neg (h p (by simp))]
      have := ih (k := k) (by simpa using hk) (fun q hq => h q (by simp [hq])) (by simpa using he)
      simpa using this
theorem text_eq (a b : ByteArray) : (a.toList == b.toList) = decide (a.data.toList = b.data.toList) := by
  rw [Lib.toList_data, Lib.toList_data, Bool.eq_iff_iff]; simp

set_option maxHeartbeats 1600000 in
theorem paramOf_any (word : ByteArray) (l : List (ByteArray × ByteArray)) (name : ByteArray) (ao : Option Addr) (cap n : Nat) (w : World) (hl : IsV w ao cap n (pairV l)) (hn : l.length = n) (hN : n ≤ 1000000) :
    Calls Tryz.prog 108 #[.agg #[.string word, .slice ao n cap], .string name] w fun e w' => e = .returned (.tuple #[.string ((Pm_get name l).getD ⟨#[]⟩), .bool (Pm_get name l).isSome]) ∧ Below w.heap.size w w' := by
  subst hn
  have H := Hid.mk' (hl.alloc (.cells #[.string word, .slice ao l.length cap] 163))
  clear hl
  have hB : Below w.heap.size w (w.alloc (.cells #[.string word, .slice ao l.length cap] 163)) := (Below.refl _ _).alloc (Nat.le_refl _) _
  go_enter Tryz.func108, Tryz.ntmps108
  go_wp2
  go_loop [6] (fun t => ∃ k : Nat, k ≤ l.length ∧ t = .int .i64 k ∧ ∀ p ∈ l.take k, p.1.data.toList ≠ name.data.toList) (fun t => l.length - (intOf t).toNat)
  case atStart => exact ⟨0, Nat.zero_le _, rfl, fun p hp => by simp at hp⟩
  case round =>
    obtain ⟨k, hk, rfl, hno⟩ := hrel
    have HN := Hid.mk' hno
    clear hno
    by_cases hlt : k < l.length
    · obtain ⟨bb, oo, rfl, hcs⟩ := H.out.lit (by rw [pairV_length]; omega)
      have hc0 := hcs _ _ (pairV_at l k hlt).1
      have hc1 := hcs _ _ (pairV_at l k hlt).2
      rw [← Nat.add_assoc] at hc1
      clear hcs
      have hlt' : (k : Int) < l.length := by omega
      have hx := text_eq l[k].1 name
      by_cases he : l[k].1.data.toList = name.data.toList
      · rw [decide_eq_true he] at hx
        have HR := Hid.mk' (Pm_get_at hlt HN.out he)
        clear he
        generalize l[k] = p at *
        go_wp2
        go_ret2
        exact ⟨by rw [HR.out]; rfl, hB⟩
      · rw [decide_eq_false he] at hx
        have HE := Hid.mk' he
        have HT : Hid (l.take (k + 1) = l.take k ++ [l[k]]) := List.take_succ_eq_append_getElem hlt
        clear he
        generalize l[k] = p at *
        go_wp2
        go_round
        case rel =>
          refine ⟨k + 1, by omega, by go_num, fun q hq => ?_⟩
          rw [HT.out, List.mem_append] at hq
          rcases hq with hq | hq
          · exact HN.out q hq
          · rw [List.mem_singleton] at hq; subst hq; exact HE.out
        case measure => simp [intOf]; omega
    · obtain rfl : k = l.length := by omega
      have HR : Hid (Pm_get name l = none) := Pm_get_none (fun p hp => HN.out p (by rw [List.take_length]; exact hp))
      go_wp2
      go_ret2
      exact ⟨by rw [HR.out]; rfl, hB⟩
end Go.Proofs.YtjpenioloeplgacGreatDoor

/- The document's own answer, walked: HeldOf. -/
namespace Go.Proofs.YtjpenioloeplgacGreatDoor
open Go.RowKit

theorem heldOf_none (w : World) (ao : Option Addr) (cap n : Nat) (s : ByteArray) (hs : s.size = 0) :
    Calls Tryz.prog 74 #[.slice ao n cap, .string s] w fun e w' => e = .returned (.int .i64 0) ∧ ∃ q, w' = w.drewN q := by
  have hs' : (s.size : Int) = 0 := by omega
  go_enter Tryz.func74, Tryz.ntmps74
  go_wp2
  go_loop [5] (fun t => t = .int .i64 (-1)) (fun _ => 0)
  case atStart => rfl
  case round =>
    subst hrel
    go_wp2
    go_ret
    exact ⟨rfl, 0, rfl⟩

/-- an end of x, as a test -/
theorem ends_iff (m x : List UInt8) (k : Nat) (hk : k ≤ m.length) : m.take k <:+ x ↔ k ≤ x.length ∧ x.drop (x.length - k) = m.take k := by
  constructor
  · intro h
    have hl := h.length_le
    rw [List.length_take, Nat.min_eq_left hk] at hl
    refine ⟨hl, ?_⟩
    obtain ⟨y, rfl⟩ := h
    rw [List.length_append, List.length_take, Nat.min_eq_left hk, Nat.add_sub_cancel, List.drop_left]
  · rintro ⟨_, h⟩
    rw [← h]; exact List.drop_suffix _ _

theorem best_yes (m x : List UInt8) (k : Nat) (h : m.take k <:+ x) : Sk.best m x k = k := by
  cases k with
  | zero => rfl
  | succ k => unfold Sk.best; rw [if_pos h]

theorem best_no (m x : List UInt8) (k : Nat) (h : ¬ m.take k <:+ x) : Sk.best m x k = Sk.best m x (k - 1) := by
  cases k with
  | zero => rfl
  | succ k => conv => lhs; unfold Sk.best
              rw [if_neg h]; rfl

theorem first_bytes (s : ByteArray) (k : Nat) : (s.extract 0 k).toList = s.data.toList.take k := by
  rw [Lib.toList_data, Lib.extract_data]; simp

set_option maxHeartbeats 1600000 in
theorem heldOf_some (w : World) (ao : Option Addr) (cap : Nat) (x : List UInt8) (s : ByteArray) (hx : IsB w ao cap x) (hL : s.size ≤ 1000000) (hs : 0 < s.size) (hX : x.length ≤ 1000000) :
    Calls Tryz.prog 74 #[.slice ao x.length cap, .string s] w fun e w' => e = .returned (.int .i64 (Sk.held s.data.toList x)) ∧ ∃ q, w' = w.drewN q := by
  have hcap := hx.1
  have H := Hid.mk' hx
  clear hx
  go_enter Tryz.func74, Tryz.ntmps74
  go_wp2
  go_loopw [5] (fun t wr => ∃ k q : Nat, k ≤ s.size - 1 ∧ t = .int .i64 k ∧ wr = w.drewN q ∧ Sk.held s.data.toList x = Sk.best s.data.toList x k) (fun t _ => (intOf t).toNat)
  case atStart => exact ⟨s.size - 1, 0, Nat.le_refl _, by go_num, rfl, rfl⟩
  case round =>
    obtain ⟨k, q, hk, rfl, rfl, hb⟩ := hrel
    by_cases hk0 : 0 < k
    · by_cases hkx : k ≤ x.length
      · obtain ⟨a, rfl⟩ := H.out.some (by omega)
        have e1 : (0 : Int) ≤ (x.length : Int) - k := by omega
        have e2 : (k : Int) ≤ x.length := by omega
        have e3 : ((x.length : Int) - k).toNat = x.length - k := by omega
        have e4 : ¬ cap = x.length - k := by omega
        have e5 : x.length - (x.length - k) = k := by omega
        have e6 : IntKind.i64.wrap ((x.length : Int) - k) = (x.length : Int) - k := wrap_id (by omega) (by omega)
        have hq : ∀ n, (convert 22 9 (.slice (some (a.add (x.length - k))) k (cap - (x.length - k)))).run Tryz.prog (w.drewN n) = .ok (.string ⟨(x.drop (x.length - k)).toArray⟩) (w.drewN n) := fun n => by
          have h := (H.out.drewN n).cut (ao' := some (a.add (x.length - k))) (x.length - k) x.length (by omega) (Nat.le_refl _) (fun _ => rfl)
          rw [e5, List.take_of_length_le (by rw [List.length_drop]; omega)] at h
          have h' := h.str (P := Tryz.prog) 22 9 5 Tryz.underlying22 Tryz.underlying5 Tryz.underlying9
          rw [List.length_drop, e5] at h'
          exact h'
        have e8 : (k : Int) ≤ s.size := by omega
        have e7 : (x.length : Int) - k ≤ x.length := by omega
        have ht : decide ((k : Int) ≤ x.length) = true := by rw [decide_eq_true_eq]; omega
        by_cases hy : x.drop (x.length - k) = s.data.toList.take k
        · have hy' : (x.drop (x.length - k) == (s.extract 0 k).toList) = true := by rw [first_bytes, hy]; exact beq_self_eq_true _
          have HB : Hid (Sk.held s.data.toList x = k) := hb.trans (best_yes _ _ _ ((ends_iff _ _ _ (by rw [Array.length_toList]; exact Nat.le_trans hk (Nat.sub_le _ _))).2 ⟨hkx, hy⟩))
          clear hb hy
          go_wp2
          go_quiet (fail)
          go_wp2
          go_ret
          exact ⟨ret_int (by rw [HB.out]), q + nq, by simp⟩
        · have hy' : (x.drop (x.length - k) == (s.extract 0 k).toList) = false := by rw [first_bytes, beq_eq_false_iff_ne]; exact hy
          have HB : Hid (Sk.held s.data.toList x = Sk.best s.data.toList x (k - 1)) := hb.trans (best_no _ _ _ (fun h => hy ((ends_iff _ _ _ (by rw [Array.length_toList]; exact Nat.le_trans hk (Nat.sub_le _ _))).1 h).2))
          clear hb hy
          go_wp2
          go_quiet (fail)
          go_wp2
          go_roundw
          case rel => exact ⟨k - 1, q + nq, by omega, by go_num, by simp, HB.out⟩
          case measure => simp [intOf]; omega
      · have ht : decide ((k : Int) ≤ x.length) = false := by rw [decide_eq_false_iff_not]; omega
        have HB : Hid (Sk.held s.data.toList x = Sk.best s.data.toList x (k - 1)) := hb.trans (best_no _ _ _ (fun h => hkx ((ends_iff _ _ _ (by rw [Array.length_toList]; exact Nat.le_trans hk (Nat.sub_le _ _))).1 h).1))
        clear hb
        go_wp2
        go_quiet (fail)
        go_wp2
        go_roundw
        case rel => exact ⟨k - 1, q + nq, by omega, by go_num, by simp, HB.out⟩
        case measure => simp [intOf]; omega
    · obtain rfl : k = 0 := by omega
      have HB : Hid (Sk.held s.data.toList x = 0) := hb
      clear hb
      go_wp2
      go_ret
      exact ⟨ret_int (by rw [HB.out]; rfl), q, rfl⟩

/-- the longest end of x that begins the mark, and is not all of it -/
theorem heldOf_any (w : World) (ao : Option Addr) (cap n : Nat) (x : List UInt8) (s : ByteArray) (hx : IsB w ao cap x) (hn : x.length = n) (hL : s.size ≤ 1000000) (hX : n ≤ 1000000) :
    Calls Tryz.prog 74 #[.slice ao n cap, .string s] w fun e w' => e = .returned (.int .i64 (Sk.held s.data.toList x)) ∧ ∃ q, w' = w.drewN q := by
  subst hn
  by_cases h : s.size = 0
  · have e : Sk.held s.data.toList x = 0 := by
      have := Sk.held_le s.data.toList x
      rw [Array.length_toList] at this
      have : s.data.size = 0 := h
      omega
    rw [e]; exact heldOf_none w ao cap _ s h
  · exact heldOf_some w ao cap x s hx hL (by omega) hX
end Go.Proofs.YtjpenioloeplgacGreatDoor

/- The document's own answer, walked: SameBytes. -/
namespace Go.Proofs.YtjpenioloeplgacGreatDoor
open Go.RowKit

theorem same_lists (a b : List UInt8) : ((⟨a.toArray⟩ : ByteArray).toList == (⟨b.toArray⟩ : ByteArray).toList) = decide (a = b) := by
  rw [Lib.toList_data, Lib.toList_data, Bool.eq_iff_iff]; simp

theorem sameBytes_any (w : World) (ao1 ao2 : Option Addr) (cap1 cap2 n1 n2 : Nat) (l1 l2 : List UInt8) (hn1 : l1.length = n1) (hn2 : l2.length = n2) (h1 : IsB w ao1 cap1 l1) (h2 : IsB w ao2 cap2 l2) :
    Calls Tryz.prog 19 #[.slice ao1 n1 cap1, .slice ao2 n2 cap2] w fun e w' => e = .returned (.bool (decide (l1 = l2))) ∧ w' = w := by
  subst hn1; subst hn2
  have q1 := h1.str (P := Tryz.prog) 22 9 5 Tryz.underlying22 Tryz.underlying5 Tryz.underlying9
  have q2 := h2.str (P := Tryz.prog) 22 9 5 Tryz.underlying22 Tryz.underlying5 Tryz.underlying9
  have HS := Hid.mk' (same_lists l1 l2)
  generalize (⟨l1.toArray⟩ : ByteArray) = s1 at q1 HS
  generalize (⟨l2.toArray⟩ : ByteArray) = s2 at q2 HS
  clear h1 h2
  go_enter Tryz.func19, Tryz.ntmps19
  go_wp2
  go_ret
  exact ⟨ret_bool HS.out, rfl⟩
end Go.Proofs.YtjpenioloeplgacGreatDoor

/- The document's own answer, walked where both are the same: SamePart. -/
namespace Go.Proofs.YtjpenioloeplgacGreatDoor
open Go.RowKit

set_option maxHeartbeats 800000 in
theorem samePart_yes (m t y : ByteArray) (l : List UInt8) (a1 a2 : Option Addr) (c1 c2 : Nat) (w : World) (h1 : IsB w a1 c1 l) (h2 : IsB w a2 c2 l) :
    Calls Tryz.prog 46 #[.agg #[.string m, .string t, .string y, .slice a1 l.length c1], .agg #[.string m, .string t, .string y, .slice a2 l.length c2]] w fun e w' => e = .returned (.bool true) ∧ Below w.heap.size w w' := by
  have hB : Below w.heap.size w ((w.alloc (.cells #[.string m, .string t, .string y, .slice a1 l.length c1] 30)).alloc (.cells #[.string m, .string t, .string y, .slice a2 l.length c2] 30)) := ((Below.refl _ _).alloc (Nat.le_refl _) _).alloc (by simp) _
  have hsm := sameBytes_any _ a1 a2 c1 c2 l.length l.length l l rfl rfl (h1.stay hB) (h2.stay hB)
  rw [decide_eq_true rfl] at hsm
  have HS := Hid.mk' hsm
  have HB := Hid.mk' hB
  have t1 : (m.toList == m.toList) = true := beq_self_eq_true _
  have t2 : (t.toList == t.toList) = true := beq_self_eq_true _
  have t3 : (y.toList == y.toList) = true := beq_self_eq_true _
  clear h1 h2 hB hsm
  go_enter Tryz.func46, Tryz.ntmps46
  go_wp2_with fail
  refine HS.out.mono ?_
  rintro e w1 ⟨rfl, hw⟩
  subst hw
  go_wp2
  go_ret
  exact ⟨rfl, HB.out⟩

end Go.Proofs.YtjpenioloeplgacGreatDoor
