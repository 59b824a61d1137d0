/- Small texts, one behind the other: BtClone, RfPrm, RfSame, RfSamP. -/
import Derived.Test.YtjpenioloeplgadGreatDoorPk4
import Derived.Test.YtjpenioloeplgadGreatDoorPk10
import Derived.Test.YtjpenioloeplgadGreatDoorBase
import Derived.Test.YtjpenioloeplgadGreatDoorProg
/- A copy of bytes (bytes.Clone), walked: new memory that reads the same. -/
namespace Go.Proofs.YtjpenioloeplgadGreatDoor
open Go.RowKit

set_option maxHeartbeats 400000 in
theorem clone_any (l : List UInt8) (ao : Option Addr) (cap : Nat) (w : World) (h : IsB w ao cap l) (hl : l.length ≤ 140737488355328) :
    Calls Tryz.prog 66 #[.slice ao l.length cap] w fun e w' => ∃ ao' cap', e = .returned (.slice ao' l.length cap') ∧ OwnB w' w.heap.size 5 ao' cap' l ∧ Below w.heap.size w w' := by
  have hq : ∀ (w : World) (a : Option Addr) (n c n' c' : Nat), (binOp .eql 25 (.slice a n c) (.slice none n' c')).run Tryz.prog w = .ok (.bool a.isNone) w := fun w a n c n' c' => Lib.run_eql_slice_nil w _ _ a n c n' c' Tryz.underlying25
  obtain ⟨i0, hi, hz0, hz1, hz2⟩ := info_parts info_u8
  cases ao with
  | none =>
    obtain ⟨rfl, rfl⟩ := h.none_nil
    clear h
    go_enter Tryz.func66, Tryz.ntmps66
    go_wp2
    go_ret
    exact ⟨none, 0, rfl, OwnB.nil _ _ _, Below.refl _ _⟩
  | some a =>
    have H := Hid.mk' h
    have Hi := Hid.mk' hi; have Hz0 := Hid.mk' hz0; have Hz1 := Hid.mk' hz1; have Hz2 := Hid.mk' hz2
    clear h hi hz0 hz1 hz2
    have HO : Hid (OwnB (w.alloc (.cells #[] 5)) w.heap.size 5 (some ⟨w.heap.size, 0, none⟩) 0 []) := World.ownsRow_made w #[] 0 (Nat.le_refl _) (by decide) rfl
    go_enter Tryz.func66, Tryz.ntmps66
    go_wp2_with (at_builtin; refine wpList_append_b rfl (.tmp 5) (.tmp 6) 25 rfl w.heap.size 5 i0 Tryz.underlying25 Hi.out Hz0.out Hz1.out Hz2.out (l := []) (l2 := l) rfl rfl HO.out rfl rfl (H.out.alloc _) (by simpa using hl) (by simp) ?_; intro ao' cap' w1 hO hG)
    go_ret
    refine ⟨ao', cap', ?_, hO, ?_⟩
    · simp
    · exact ((Below.refl _ _).alloc (Nat.le_refl _) _).grown hG (by simp) (fun k e => by cases e; exact Nat.le_refl _)

/-- the same, its length said otherwise -/
theorem clone_n (l : List UInt8) (n : Nat) (ao : Option Addr) (cap : Nat) (w : World) (hn : l.length = n) (h : IsB w ao cap l) (hl : n ≤ 140737488355328) :
    Calls Tryz.prog 66 #[.slice ao n cap] w fun e w' => ∃ ao' cap', e = .returned (.slice ao' n cap') ∧ OwnB w' w.heap.size 5 ao' cap' l ∧ Below w.heap.size w w' := by
  subst hn; exact clone_any l ao cap w h hl
end Go.Proofs.YtjpenioloeplgadGreatDoor

/- The document's own answer, walked: ParamOf. -/
namespace Go.Proofs.YtjpenioloeplgadGreatDoor
open Go.RowKit

/-- the value of a name's parameter -/
def Pm_get (name : ByteArray) : List (ByteArray × ByteArray) → Option ByteArray
  | [] => none
  | p :: t => if p.1.data.toList = name.data.toList then some p.2 else Pm_get name t
theorem Pm_get_none {name : ByteArray} {l : List (ByteArray × ByteArray)} (h : ∀ p ∈ l, p.1.data.toList ≠ name.data.toList) : Pm_get name l = none := by
  induction l with
  | nil => rfl
  | cons p t ih =>
    unfold Pm_get
    rw [if_neg (h p (List.mem_cons_self ..))]
    exact ih (fun q hq => h q (List.mem_cons_of_mem _ hq))
theorem Pm_get_at {name : ByteArray} {l : List (ByteArray × ByteArray)} {k : Nat} (hk : k < l.length) (h : ∀ p ∈ l.take k, p.1.data.toList ≠ name.data.toList) (he : l[k].1.data.toList = name.data.toList) : Pm_get name l = some l[k].2 := by
  induction l generalizing k with
  | nil => simp at hk
  | cons p t ih =>
    cases k with
    | zero => unfold Pm_get; rw [if_pos (show p.1.data.toList = name.data.toList from he)]; rfl
    | succ k =>
      unfold Pm_get
      rw [if_neg (h p (by simp))]
      have := ih (k := k) (by simpa using hk) (fun q hq => h q (by simp [hq])) (by simpa using he)
      simpa using this
theorem text_eq (a b : ByteArray) : (a.toList == b.toList) = decide (a.data.toList = b.data.toList) := by
  rw [Lib.toList_data, Lib.toList_data, Bool.eq_iff_iff]; simp

set_option maxHeartbeats 1600000 in
theorem paramOf_any (word : ByteArray) (l : List (ByteArray × ByteArray)) (name : ByteArray) (ao : Option Addr) (cap n : Nat) (w : World) (hl : IsV w ao cap n (pairV l)) (hn : l.length = n) (hN : n ≤ 1000000) :
    Calls Tryz.prog 30 #[.agg #[.string word, .slice ao n cap], .string name] w fun e w' => e = .returned (.tuple #[.string ((Pm_get name l).getD ⟨#[]⟩), .bool (Pm_get name l).isSome]) ∧ Below w.heap.size w w' := by
  subst hn
  have H := Hid.mk' (hl.alloc (.cells #[.string word, .slice ao l.length cap] 61))
  clear hl
  have hB : Below w.heap.size w (w.alloc (.cells #[.string word, .slice ao l.length cap] 61)) := (Below.refl _ _).alloc (Nat.le_refl _) _
  go_enter Tryz.func30, Tryz.ntmps30
  go_wp2
  go_loop [6] (fun t => ∃ k : Nat, k ≤ l.length ∧ t = .int .i64 k ∧ ∀ p ∈ l.take k, p.1.data.toList ≠ name.data.toList) (fun t => l.length - (intOf t).toNat)
  case atStart => exact ⟨0, Nat.zero_le _, rfl, fun p hp => by simp at hp⟩
  case round =>
    obtain ⟨k, hk, rfl, hno⟩ := hrel
    have HN := Hid.mk' hno
    clear hno
    by_cases hlt : k < l.length
    · obtain ⟨bb, oo, rfl, hcs⟩ := H.out.lit (by rw [pairV_length]; omega)
      have hc0 := hcs _ _ (pairV_at l k hlt).1
      have hc1 := hcs _ _ (pairV_at l k hlt).2
      rw [← Nat.add_assoc] at hc1
      clear hcs
      have hlt' : (k : Int) < l.length := by omega
      have hx := text_eq l[k].1 name
      by_cases he : l[k].1.data.toList = name.data.toList
      · rw [decide_eq_true he] at hx
        have HR := Hid.mk' (Pm_get_at hlt HN.out he)
        clear he
        generalize l[k] = p at *
        go_wp2
        go_ret2
        exact ⟨by rw [HR.out]; rfl, hB⟩
      · rw [decide_eq_false he] at hx
        have HE := Hid.mk' he
        have HT : Hid (l.take (k + 1) = l.take k ++ [l[k]]) := List.take_succ_eq_append_getElem hlt
        clear he
        generalize l[k] = p at *
        go_wp2
        go_round
        case rel =>
          refine ⟨k + 1, by omega, by go_num, fun q hq => ?_⟩
          rw [HT.out, List.mem_append] at hq
          rcases hq with hq | hq
          · exact HN.out q hq
          · rw [List.mem_singleton] at hq; subst hq; exact HE.out
        case measure => simp [intOf]; omega
    · obtain rfl : k = l.length := by omega
      have HR : Hid (Pm_get name l = none) := Pm_get_none (fun p hp => HN.out p (by rw [List.take_length]; exact hp))
      go_wp2
      go_ret2
      exact ⟨by rw [HR.out]; rfl, hB⟩
end Go.Proofs.YtjpenioloeplgadGreatDoor

/- The document's own answer, walked: SameBytes. -/
namespace Go.Proofs.YtjpenioloeplgadGreatDoor
open Go.RowKit

theorem same_lists (a b : List UInt8) : ((⟨a.toArray⟩ : ByteArray).toList == (⟨b.toArray⟩ : ByteArray).toList) = decide (a = b) := by
  rw [Lib.toList_data, Lib.toList_data, Bool.eq_iff_iff]; simp

theorem sameBytes_any (w : World) (ao1 ao2 : Option Addr) (cap1 cap2 n1 n2 : Nat) (l1 l2 : List UInt8) (hn1 : l1.length = n1) (hn2 : l2.length = n2) (h1 : IsB w ao1 cap1 l1) (h2 : IsB w ao2 cap2 l2) :
    Calls Tryz.prog 34 #[.slice ao1 n1 cap1, .slice ao2 n2 cap2] w fun e w' => e = .returned (.bool (decide (l1 = l2))) ∧ w' = w := by
  subst hn1; subst hn2
  have q1 := h1.str (P := Tryz.prog) 25 9 5 Tryz.underlying25 Tryz.underlying5 Tryz.underlying9
  have q2 := h2.str (P := Tryz.prog) 25 9 5 Tryz.underlying25 Tryz.underlying5 Tryz.underlying9
  have HS := Hid.mk' (same_lists l1 l2)
  generalize (⟨l1.toArray⟩ : ByteArray) = s1 at q1 HS
  generalize (⟨l2.toArray⟩ : ByteArray) = s2 at q2 HS
  clear h1 h2
  go_enter Tryz.func34, Tryz.ntmps34
  go_wp2
  go_ret
  exact ⟨ret_bool HS.out, rfl⟩
end Go.Proofs.YtjpenioloeplgadGreatDoor

/- The document's own answer, walked where both are the same: SamePart. -/
namespace Go.Proofs.YtjpenioloeplgadGreatDoor
open Go.RowKit

set_option maxHeartbeats 800000 in
theorem samePart_yes (m t y : ByteArray) (l : List UInt8) (a1 a2 : Option Addr) (c1 c2 : Nat) (w : World) (h1 : IsB w a1 c1 l) (h2 : IsB w a2 c2 l) :
    Calls Tryz.prog 10 #[.agg #[.string m, .string t, .string y, .slice a1 l.length c1], .agg #[.string m, .string t, .string y, .slice a2 l.length c2]] w fun e w' => e = .returned (.bool true) ∧ Below w.heap.size w w' := by
  have hB : Below w.heap.size w ((w.alloc (.cells #[.string m, .string t, .string y, .slice a1 l.length c1] 27)).alloc (.cells #[.string m, .string t, .string y, .slice a2 l.length c2] 27)) := ((Below.refl _ _).alloc (Nat.le_refl _) _).alloc (by simp) _
  have hsm := sameBytes_any _ a1 a2 c1 c2 l.length l.length l l rfl rfl (h1.stay hB) (h2.stay hB)
  rw [decide_eq_true rfl] at hsm
  have HS := Hid.mk' hsm
  have HB := Hid.mk' hB
  have t1 : (m.toList == m.toList) = true := beq_self_eq_true _
  have t2 : (t.toList == t.toList) = true := beq_self_eq_true _
  have t3 : (y.toList == y.toList) = true := beq_self_eq_true _
  clear h1 h2 hB hsm
  go_enter Tryz.func10, Tryz.ntmps10
  go_wp2_with fail
  refine HS.out.mono ?_
  rintro e w1 ⟨rfl, hw⟩
  subst hw
  go_wp2
  go_ret
  exact ⟨rfl, HB.out⟩

end Go.Proofs.YtjpenioloeplgadGreatDoor
