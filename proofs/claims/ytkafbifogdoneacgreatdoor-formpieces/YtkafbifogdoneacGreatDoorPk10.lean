/- Small texts, one behind the other: BtClone, RfPrm, SlCloneF, RfSame. -/
import Derived.Test.YtkafbifogdoneacGreatDoorPk4
import Derived.Test.YtkafbifogdoneacGreatDoorPk9
import Derived.Test.YtkafbifogdoneacGreatDoorBase
import Derived.Test.YtkafbifogdoneacGreatDoorProg
import Derived.Lib.SliceRun
/- A copy of bytes (bytes.Clone), walked: new memory that reads the same. -/
namespace Go.Proofs.YtkafbifogdoneacGreatDoor
open Go.RowKit

set_option maxHeartbeats 400000 in
theorem clone_any (l : List UInt8) (ao : Option Addr) (cap : Nat) (w : World) (h : IsB w ao cap l) (hl : l.length ≤ 140737488355328) :
    Calls Tryz.prog 98 #[.slice ao l.length cap] w fun e w' => ∃ ao' cap', e = .returned (.slice ao' l.length cap') ∧ OwnB w' w.heap.size 5 ao' cap' l ∧ Below w.heap.size w w' := by
  have hq : ∀ (w : World) (a : Option Addr) (n c n' c' : Nat), (binOp .eql 22 (.slice a n c) (.slice none n' c')).run Tryz.prog w = .ok (.bool a.isNone) w := fun w a n c n' c' => Lib.run_eql_slice_nil w _ _ a n c n' c' Tryz.underlying22
  obtain ⟨i0, hi, hz0, hz1, hz2⟩ := info_parts info_u8
  cases ao with
  | none =>
    obtain ⟨rfl, rfl⟩ := h.none_nil
    clear h
    go_enter Tryz.func98, Tryz.ntmps98
    go_wp2
    go_ret
    exact ⟨none, 0, rfl, OwnB.nil _ _ _, Below.refl _ _⟩
  | some a =>
    have H := Hid.mk' h
    have Hi := Hid.mk' hi; have Hz0 := Hid.mk' hz0; have Hz1 := Hid.mk' hz1; have Hz2 := Hid.mk' hz2
    clear h hi hz0 hz1 hz2
    have HO : Hid (OwnB (w.alloc (.cells #[] 5)) w.heap.size 5 (some ⟨w.heap.size, 0, none⟩) 0 []) := World.ownsRow_made w #[] 0 (Nat.le_refl _) (by decide) rfl
    go_enter Tryz.func98, Tryz.ntmps98
    go_wp2_with (at_builtin; refine wpList_append_b rfl (.tmp 5) (.tmp 6) 22 rfl w.heap.size 5 i0 Tryz.underlying22 Hi.out Hz0.out Hz1.out Hz2.out (l := []) (l2 := l) rfl rfl HO.out rfl rfl (H.out.alloc _) (by simpa using hl) (by simp) ?_; intro ao' cap' w1 hO hG)
    go_ret
    refine ⟨ao', cap', ?_, hO, ?_⟩
    · simp
    · exact ((Below.refl _ _).alloc (Nat.le_refl _) _).grown hG (by simp) (fun k e => by cases e; exact Nat.le_refl _)

/-- the same, its length said otherwise -/
theorem clone_n (l : List UInt8) (n : Nat) (ao : Option Addr) (cap : Nat) (w : World) (hn : l.length = n) (h : IsB w ao cap l) (hl : n ≤ 140737488355328) :
    Calls Tryz.prog 98 #[.slice ao n cap] w fun e w' => ∃ ao' cap', e = .returned (.slice ao' n cap') ∧ OwnB w' w.heap.size 5 ao' cap' l ∧ Below w.heap.size w w' := by
  subst hn; exact clone_any l ao cap w h hl
end Go.Proofs.YtkafbifogdoneacGreatDoor

/- The document's own answer, walked: ParamOf. -/
namespace Go.Proofs.YtkafbifogdoneacGreatDoor
open Go.RowKit

/-- the value of a name's parameter -/
def Pm_get (name : ByteArray) : List (ByteArray × ByteArray) → Option ByteArray
  | [] => none
  | p :: t => if p.1.data.toList = name.data.toList then some p.2 else Pm_get name t
theorem Pm_get_none {name : ByteArray} {l : List (ByteArray × ByteArray)} (h : ∀ p ∈ l, p.1.data.toList ≠ name.data.toList) : Pm_get name l = none := by
  induction l with
  | nil => rfl
  | cons p t ih =>
    unfold Pm_get
    rw [if_neg (h p (List.mem_cons_self ..))]
    exact ih (fun q hq => h q (List.mem_cons_of_mem _ hq))
theorem Pm_get_at {name : ByteArray} {l : List (ByteArray × ByteArray)} {k : Nat} (hk : k < l.length) (h : ∀ p ∈ l.take k, p.1.data.toList ≠ name.data.toList) (he : l[k].1.data.toList = name.data.toList) : Pm_get name l = some l[k].2 := by
  induction l generalizing k with
  | nil => simp at hk
  | cons p t ih =>
    cases k with
    | zero => unfold Pm_get; rw [if_pos (show p.1.data.toList = name.data.toList from he)]; rfl
    | succ k =>
      unfold Pm_get
      rw [if_neg (h p (by simp))]
      have := ih (k := k) (by simpa using hk) (fun q hq => h q (by simp [hq])) (by simpa using he)
      simpa using this
theorem text_eq (a b : ByteArray) : (a.toList == b.toList) = decide (a.data.toList = b.data.toList) := by
  rw [Lib.toList_data, Lib.toList_data, Bool.eq_iff_iff]; simp

set_option maxHeartbeats 1600000 in
theorem paramOf_any (word : ByteArray) (l : List (ByteArray × ByteArray)) (name : ByteArray) (ao : Option Addr) (cap n : Nat) (w : World) (hl : IsV w ao cap n (pairV l)) (hn : l.length = n) (hN : n ≤ 1000000) :
    Calls Tryz.prog 108 #[.agg #[.string word, .slice ao n cap], .string name] w fun e w' => e = .returned (.tuple #[.string ((Pm_get name l).getD ⟨#[]⟩), .bool (Pm_get name l).isSome]) ∧ Below w.heap.size w w' := by
  subst hn
  have H := Hid.mk' (hl.alloc (.cells #[.string word, .slice ao l.length cap] 163))
  clear hl
  have hB : Below w.heap.size w (w.alloc (.cells #[.string word, .slice ao l.length cap] 163)) := (Below.refl _ _).alloc (Nat.le_refl _) _
  go_enter Tryz.func108, Tryz.ntmps108
  go_wp2
  go_loop [6] (fun t => ∃ k : Nat, k ≤ l.length ∧ t = .int .i64 k ∧ ∀ p ∈ l.take k, p.1.data.toList ≠ name.data.toList) (fun t => l.length - (intOf t).toNat)
  case atStart => exact ⟨0, Nat.zero_le _, rfl, fun p hp => by simp at hp⟩
  case round =>
    obtain ⟨k, hk, rfl, hno⟩ := hrel
    have HN := Hid.mk' hno
    clear hno
    by_cases hlt : k < l.length
    · obtain ⟨bb, oo, rfl, hcs⟩ := H.out.lit (by rw [pairV_length]; omega)
      have hc0 := hcs _ _ (pairV_at l k hlt).1
      have hc1 := hcs _ _ (pairV_at l k hlt).2
      rw [← Nat.add_assoc] at hc1
      clear hcs
      have hlt' : (k : Int) < l.length := by omega
      have hx := text_eq l[k].1 name
      by_cases he : l[k].1.data.toList = name.data.toList
      · rw [decide_eq_true he] at hx
        have HR := Hid.mk' (Pm_get_at hlt HN.out he)
        clear he
        generalize l[k] = p at *
        go_wp2
        go_ret2
        exact ⟨by rw [HR.out]; rfl, hB⟩
      · rw [decide_eq_false he] at hx
        have HE := Hid.mk' he
        have HT : Hid (l.take (k + 1) = l.take k ++ [l[k]]) := List.take_succ_eq_append_getElem hlt
        clear he
        generalize l[k] = p at *
        go_wp2
        go_round
        case rel =>
          refine ⟨k + 1, by omega, by go_num, fun q hq => ?_⟩
          rw [HT.out, List.mem_append] at hq
          rcases hq with hq | hq
          · exact HN.out q hq
          · rw [List.mem_singleton] at hq; subst hq; exact HE.out
        case measure => simp [intOf]; omega
    · obtain rfl : k = l.length := by omega
      have HR : Hid (Pm_get name l = none) := Pm_get_none (fun p hp => HN.out p (by rw [List.take_length]; exact hp))
      go_wp2
      go_ret2
      exact ⟨by rw [HR.out]; rfl, hB⟩
end Go.Proofs.YtkafbifogdoneacGreatDoor

/- slices.Clone of fields, walked. -/
namespace Go.Proofs.YtkafbifogdoneacGreatDoor
open Go.RowKit

set_option maxHeartbeats 1000000 in
theorem cloneFields_great (l : List (ByteArray × ByteArray)) (fo : Option Addr) (fcap n : Nat) (w : World) (hl : IsV w fo fcap n (pairV l)) (hn : l.length = n) (hN : n * 32 ≤ 140737488355328) :
    Calls Tryz.prog 51 #[.slice fo n fcap] w fun e w' => ∃ ao cap, e = .returned (.slice ao n cap) ∧ OwnV w' w.heap.size 51 2 ao cap n (pairV l) ∧ Below w.heap.size w w' := by
  have qT : ∀ (w : World) (a : Option Addr) (n c n' c' : Nat), (binOp .eql 23 (.slice a n c) (.slice none n' c')).run Tryz.prog w = .ok (.bool a.isNone) w := fun w a n c n' c' => Lib.run_eql_slice_nil w _ _ a n c n' c' Tryz.underlying23
  cases fo with
  | none =>
    have hc := hl.2.1 rfl
    have hn0 : n = 0 := by have := hl.1; omega
    subst hn0
    obtain rfl : l = [] := List.eq_nil_of_length_eq_zero hn
    go_enter Tryz.func51, Tryz.ntmps51
    go_wp2
    go_ret
    exact ⟨none, 0, rfl, OwnV.nil _ _ _ _, Below.refl _ _⟩
  | some a =>
    have HL := Hid.mk' hl
    have hp := pairV_length l
    obtain ⟨i0, hi0, hz0, hz1, hz2⟩ := info_parts info_fld
    have Hi := Hid.mk' hi0; have Hz0 := Hid.mk' hz0; have Hz1 := Hid.mk' hz1; have Hz2 := Hid.mk' hz2
    have HP : Hid ((pairV l).length = n * 2) := by rw [hn] at hp; exact hp
    clear hi0 hz0 hz1 hz2 hl hp hn
    go_enter Tryz.func51, Tryz.ntmps51
    go_wp2_with (at_builtin; refine wpList_append_v rfl (.tmp 5) (.tmp 6) 23 rfl w.heap.size 51 i0 (.agg #[.string ⟨#[]⟩, .string ⟨#[]⟩]) 2 32 Tryz.underlying23 Hi.out Hz0.out Hz1.out Hz2.out rfl (by decide) (n := 0) (xs := []) rfl (World.ownsRow_lit _ #[] 0 (by simp) (by decide) rfl) rfl (HL.out.alloc _) HP.out (pairV_one l) (by omega) (by omega) (by simp) ?_; intro ao3 cap3 w3 hO3 hG3 hat3; have HO3 := Hid.mk' hO3; have HG3 := Hid.mk' hG3; clear hO3 hG3 hat3)
    go_ret
    refine ⟨ao3, cap3, by simp, ?_, ?_⟩
    · have := HO3.out
      rw [List.nil_append, Nat.zero_add] at this
      exact this
    · exact ((Below.refl _ _).alloc (Nat.le_refl _) _).grown HG3.out (by simp) (fun q e => by simp [blockOf] at e; omega)
theorem cloneFields_any (l : List (ByteArray × ByteArray)) (fo : Option Addr) (fcap n : Nat) (w : World) (hl : IsV w fo fcap n (pairV l)) (hn : l.length = n) (hN : n ≤ 1000000) :
    Calls Tryz.prog 51 #[.slice fo n fcap] w fun e w' => ∃ ao cap, e = .returned (.slice ao n cap) ∧ OwnV w' w.heap.size 51 2 ao cap n (pairV l) ∧ Below w.heap.size w w' := cloneFields_great l fo fcap n w hl hn (by omega)
end Go.Proofs.YtkafbifogdoneacGreatDoor

/- The document's own answer, walked: SameBytes. -/
namespace Go.Proofs.YtkafbifogdoneacGreatDoor
open Go.RowKit

theorem same_lists (a b : List UInt8) : ((⟨a.toArray⟩ : ByteArray).toList == (⟨b.toArray⟩ : ByteArray).toList) = decide (a = b) := by
  rw [Lib.toList_data, Lib.toList_data, Bool.eq_iff_iff]; simp

theorem sameBytes_any (w : World) (ao1 ao2 : Option Addr) (cap1 cap2 n1 n2 : Nat) (l1 l2 : List UInt8) (hn1 : l1.length = n1) (hn2 : l2.length = n2) (h1 : IsB w ao1 cap1 l1) (h2 : IsB w ao2 cap2 l2) :
    Calls Tryz.prog 19 #[.slice ao1 n1 cap1, .slice ao2 n2 cap2] w fun e w' => e = .returned (.bool (decide (l1 = l2))) ∧ w' = w := by
  subst hn1; subst hn2
  have q1 := h1.str (P := Tryz.prog) 22 9 5 Tryz.underlying22 Tryz.underlying5 Tryz.underlying9
  have q2 := h2.str (P := Tryz.prog) 22 9 5 Tryz.underlying22 Tryz.underlying5 Tryz.underlying9
  have HS := Hid.mk' (same_lists l1 l2)
  generalize (⟨l1.toArray⟩ : ByteArray) = s1 at q1 HS
  generalize (⟨l2.toArray⟩ : ByteArray) = s2 at q2 HS
  clear h1 h2
  go_enter Tryz.func19, Tryz.ntmps19
  go_wp2
  go_ret
  exact ⟨ret_bool HS.out, rfl⟩
end Go.Proofs.YtkafbifogdoneacGreatDoor
