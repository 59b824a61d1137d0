/- Small texts, one behind the other: FsA, FdVals, RfFind, RfSafeN, RfMark. -/
import Derived.Test.YtjpenioloeplgadDoorBase
import Derived.Test.YtjpenioloeplgadDoorPk4
import Derived.Test.YtjpenioloeplgadDoorPk1
import Derived.Test.YtjpenioloeplgadDoorPk2
import Derived.Test.YtjpenioloeplgadDoorProg
import Derived.Test.YtjpenioloeplgadDoorPk10
import Derived.Test.YtjpenioloeplgadDoorPlainS
import Derived.Test.YtjpenioloeplgadDoorPk7
import Derived.Test.YtjpenioloeplgadDoorPk12
/- The library's LastIndexByte of texts and TrimLeft of bytes at one byte, walked. -/
namespace Go.Proofs.YtjpenioloeplgadDoor
open Go.RowKit

/-- where c stands last, or -1 -/
def LastIs (c : UInt8) (l : List UInt8) (r : Int) : Prop := (r = -1 ∧ ∀ j (hj : j < l.length), l[j] ≠ c) ∨ ∃ i : Nat, ∃ hi : i < l.length, r = i ∧ l[i] = c ∧ ∀ j (hj : j < l.length), i < j → l[j] ≠ c
theorem byte_at (s : ByteArray) (i : Nat) (h : i < s.size) : s.data.toList[i]'(by rw [Ch.len_list]; exact h) = s[i] := by
  rw [Array.getElem_toList]; rfl

set_option maxHeartbeats 800000 in
theorem lastS_any (s : ByteArray) (c : UInt8) (w : World) (hs : s.size ≤ maxLen) :
    Calls Tryd.prog 53 #[.string s, .int .u8 c.toNat] w fun e w' => ∃ r : Int, e = .returned (.int .i64 r) ∧ LastIs c s.data.toList r ∧ w' = w := by
  have hl := Ch.len_list s
  have hsM : (s.size : Int) ≤ 9223372036854775807 := by unfold maxLen at hs; omega
  go_enter Tryd.func53, Tryd.ntmps53
  go_wp2
  go_loopw [5] (fun t wr => wr = w ∧ ∃ k : Nat, k ≤ s.size ∧ t = .int .i64 ((k : Int) - 1) ∧ ∀ j (hj : j < s.data.toList.length), k ≤ j → s.data.toList[j] ≠ c) (fun t _ => ((intOf t) + 1).toNat)
  case atStart => exact ⟨rfl, s.size, Nat.le_refl _, rfl, fun j hj h => by omega⟩
  case round =>
    obtain ⟨rfl, k, hk, rfl, hno⟩ := hrel
    have HNo := Hid.mk' hno
    clear hno
    cases k with
    | zero =>
      have HR : Hid (LastIs c s.data.toList (-1)) := Or.inl ⟨rfl, fun j hj => HNo.out j hj (Nat.zero_le _)⟩
      go_wp2
      go_ret
      exact ⟨-1, rfl, HR.out, rfl⟩
    | succ i =>
      have hi : i < s.size := by omega
      have e1 : ((i + 1 : Nat) : Int) - 1 = (i : Int) := by omega
      rw [e1]
      have hge : (i : Int) ≥ 0 := by omega
      have hilt : (i : Int) < s.size := by omega
      by_cases hc : s[i] = c
      · have t0 : ((s[i].toNat : Int) == (c.toNat : Int)) = true := by rw [hc]; exact beq_self_eq_true _
        have HR : Hid (LastIs c s.data.toList (i : Int)) := Or.inr ⟨i, by rw [hl]; exact hi, rfl, by rw [byte_at s i hi]; exact hc, fun j hj h => HNo.out j hj h⟩
        clear hc HNo
        go_wp2
        go_ret
        exact ⟨i, rfl, HR.out, rfl⟩
      · have t0 : ((s[i].toNat : Int) == (c.toNat : Int)) = false := by rw [beq_eq_false_iff_ne]; intro e; exact hc (UInt8.toNat_inj.1 (by omega))
        have HNo2 : Hid (∀ j (hj : j < s.data.toList.length), i ≤ j → s.data.toList[j] ≠ c) := fun j hj h => by
          rcases Nat.lt_or_eq_of_le h with h | h
          · exact HNo.out j hj h
          · subst h; rw [byte_at s i hi]; exact hc
        clear hc HNo
        go_wp2
        go_roundw
        case rel => exact ⟨trivial, i, by omega, by go_num, HNo2.out⟩
        case measure => simp [intOf]
theorem lastI_any (s : ByteArray) (c : UInt8) (w : World) (hs : s.size ≤ maxLen) :
    Calls Tryd.prog 35 #[.string s, .int .u8 c.toNat] w fun e w' => ∃ r : Int, e = .returned (.int .i64 r) ∧ LastIs c s.data.toList r ∧ w' = w := by
  have H := Hid.mk' (lastS_any s c w hs)
  go_enter Tryd.func35, Tryd.ntmps35
  go_wp2_with fail
  refine H.out.mono ?_
  rintro e w' ⟨r, rfl, hr, hw⟩
  subst hw
  go_wp2
  go_ret
  exact ⟨r, rfl, hr, rfl⟩

set_option maxHeartbeats 800000 in
/-- bytes without those at the beginning that are c -/
theorem trimB_any (w : World) (ao : Option Addr) (cap n : Nat) (l : List UInt8) (c : UInt8) (h : IsB w ao cap l) (hn : l.length = n) :
    Calls Tryd.prog 54 #[.slice ao n cap, .int .u8 c.toNat] w fun e w' => ∃ ao' cap' n', e = .returned (.slice ao' n' cap') ∧ n' = (l.dropWhile (· == c)).length ∧ IsB w ao' cap' (l.dropWhile (· == c)) ∧ w' = w := by
  have HB := Hid.mk' h
  have HN := Hid.mk' hn
  clear h hn
  go_enter Tryd.func54, Tryd.ntmps54
  go_wp2
  go_loopw [0] (fun t wr => wr = w ∧ ∃ (ao' : Option Addr) (cap' n' : Nat) (r : List UInt8), t = .slice ao' n' cap' ∧ n' = r.length ∧ IsB w ao' cap' r ∧ r.dropWhile (· == c) = l.dropWhile (· == c)) (fun t _ => match t with | .slice _ k _ => k | _ => 0)
  case atStart => exact ⟨rfl, ao, cap, n, l, rfl, HN.out.symm, HB.out, rfl⟩
  case round =>
    obtain ⟨rfl, ao', cap', n', r, rfl, hn', hI, hd⟩ := hrel
    have HI := Hid.mk' hI; have HD := Hid.mk' hd
    clear hI hd
    cases r with
    | nil =>
      obtain rfl : n' = 0 := hn'
      have HR : Hid (l.dropWhile (· == c) = []) := by unfold Hid; rw [← HD.out]; rfl
      go_wp2
      go_ret
      exact ⟨none, 0, 0, rfl, by rw [HR.out]; rfl, by rw [HR.out]; exact IsB.nil _, rfl⟩
    | cons x t =>
      obtain ⟨bb, oo, rfl, hcs⟩ := HI.out.lit (by simp)
      have cx := hcs 0 (by simp)
      have cx : wr.cell? ⟨bb, oo, none⟩ = some (.int .u8 (x.toNat : Int)) := by simpa using cx
      have hcap : n' ≤ cap' := by rw [hn']; exact HI.out.1
      have hpos : 0 < n' := by rw [hn']; simp
      have HNn := Hid.mk' hn'
      clear hcs
      by_cases hx : x = c
      · have tx : ((x.toNat : Int) == (c.toNat : Int)) = true := by rw [hx]; exact beq_self_eq_true _
        have HD2 : Hid (t.dropWhile (· == c) = l.dropWhile (· == c)) := by unfold Hid; rw [← HD.out, List.dropWhile_cons, if_pos (by simpa using hx)]
        have hcut : ∀ ao2, (cap' ≠ 1 → ao2 = some ⟨bb, oo + 1, none⟩) → IsB wr ao2 (cap' - 1) t := fun ao2 he => by
          have := HI.out.cut (ao' := ao2) 1 (x :: t).length (by simp) (Nat.le_refl _) (fun e => by rw [he e]; rfl)
          simpa using this
        have HCut := Hid.mk' hcut
        clear hcut hx hn'
        by_cases hc1 : cap' = 1
        · subst hc1
          obtain rfl : n' = 1 := by omega
          go_wp2
          go_roundw
          case rel => exact ⟨trivial, _, _, _, t, rfl, by have := HNn.out; rw [List.length_cons] at this; omega, by simpa using HCut.out _ (fun e => absurd rfl e), HD2.out⟩
          case measure => simp
        · go_wp2
          go_roundw
          case rel => exact ⟨trivial, _, _, _, t, rfl, by have := HNn.out; rw [List.length_cons] at this; omega, HCut.out _ (fun _ => rfl), HD2.out⟩
          case measure => simp; omega
      · have tx : ((x.toNat : Int) == (c.toNat : Int)) = false := by rw [beq_eq_false_iff_ne]; intro e; exact hx (UInt8.toNat_inj.1 (by omega))
        have HR : Hid (l.dropWhile (· == c) = x :: t) := by unfold Hid; rw [← HD.out, List.dropWhile_cons, if_neg (by simpa using hx)]
        have t0 : ((n' : Int) == 0) = false := by rw [beq_eq_false_iff_ne]; omega
        clear hx hn'
        go_wp2
        go_ret
        exact ⟨_, _, n', rfl, by rw [HR.out]; exact HNn.out, by rw [HR.out]; exact HI.out, rfl⟩
set_option maxRecDepth 100000 in
set_option maxHeartbeats 800000 in
/-- bytes without the dots at their beginning -/
theorem undotB_any (w : World) (ao : Option Addr) (cap n : Nat) (l : List UInt8) (h : IsB w ao cap l) (hn : l.length = n) :
    Calls Tryd.prog 36 #[.slice ao n cap, .string ⟨#[46]⟩] w fun e w' => ∃ ao' cap' n', e = .returned (.slice ao' n' cap') ∧ n' = (l.dropWhile (· == 46)).length ∧ IsB w ao' cap' (l.dropWhile (· == 46)) ∧ w' = w := by
  have HT := Hid.mk' (trimB_any w ao cap n l 46 h hn)
  by_cases h0 : n = 0
  · subst h0
    obtain rfl : l = [] := List.eq_nil_of_length_eq_zero hn
    clear HT h hn
    go_enter Tryd.func36, Tryd.ntmps36
    go_wp2
    go_ret
    exact ⟨none, 0, 0, rfl, rfl, IsB.nil _, rfl⟩
  · have t0 : ((n : Int) == 0) = false := by rw [beq_eq_false_iff_ne]; omega
    clear h hn h0
    go_enter Tryd.func36, Tryd.ntmps36
    go_wp2_with fail
    refine HT.out.mono ?_
    rintro e w' ⟨ao', cap', n', rfl, h1, h2, hw⟩
    subst hw
    have H1 := Hid.mk' h1
    clear h1
    go_wp2
    go_ret
    exact ⟨ao', cap', n', rfl, H1.out, h2, rfl⟩
end Go.Proofs.YtjpenioloeplgadDoor

/- Values of a name's fields, and a field that is told, as plain things and as values. -/
namespace Go.Proofs.YtjpenioloeplgadDoor
open Go.RowKit

theorem info_str : (Tryd.prog.info? 9).map (fun i => (i.zero, i.size, i.bytes)) = some (some (.string ⟨#[]⟩), 1, 16) := by kernel_rfl

/-- the values of a name's fields, in their order -/
def Fd.vals (name : ByteArray) (l : List (ByteArray × ByteArray)) : List ByteArray := (l.filter fun p => decide (Ch.lower p.1.data.toList = Ch.lower name.data.toList)).map (·.2)
theorem Fd.vals_snoc (name : ByteArray) (l : List (ByteArray × ByteArray)) (p : ByteArray × ByteArray) :
    Fd.vals name (l ++ [p]) = if Ch.lower p.1.data.toList = Ch.lower name.data.toList then Fd.vals name l ++ [p.2] else Fd.vals name l := by
  unfold Fd.vals
  rw [List.filter_append, List.map_append]
  by_cases h : Ch.lower p.1.data.toList = Ch.lower name.data.toList
  · rw [if_pos h]; simp [h]
  · rw [if_neg h]; simp [h]
theorem Fd.vals_length (name : ByteArray) (l : List (ByteArray × ByteArray)) : (Fd.vals name l).length ≤ l.length := by
  unfold Fd.vals; rw [List.length_map]; exact List.length_filter_le _ _

/-- the one value of a name's fields, or a code -/
def Fd.one (vs : List ByteArray) : List UInt8 × Nat :=
  match vs with
  | [] => ([], 10)
  | [v] => (v.data.toList, 0)
  | _ => ([], 9)

/-- what is told, as a value -/
def Fd.val (t : Fd.Told) : Value := .tuple #[.agg #[.string ⟨t.name.toArray⟩, .string ⟨t.value.toArray⟩], .int .i64 (t.code : Int)]
end Go.Proofs.YtjpenioloeplgadDoor

/- The document's own answer, walked: FindFirst. -/
namespace Go.Proofs.YtjpenioloeplgadDoor
open Go.RowKit

/-- the mark stands at i -/
def StandsAt (m x : List UInt8) (i : Nat) : Prop := i + m.length ≤ x.length ∧ (x.drop i).take m.length = m

/-- r is where it stands first, or -1 -/
def FindIs (m x : List UInt8) (r : Int) : Prop := (r = -1 ∧ ∀ j, ¬ StandsAt m x j) ∨ ∃ k : Nat, r = k ∧ StandsAt m x k ∧ ∀ j, j < k → ¬ StandsAt m x j

theorem FindIs.free {m x : List UInt8} {r : Int} (h : FindIs m x r) (hf : Sk.Free m x) : r = -1 := by
  rcases h with ⟨h, _⟩ | ⟨k, _, ⟨h1, h2⟩, _⟩
  · exact h
  · refine absurd ?_ hf
    refine ⟨x.take k, x.drop (k + m.length), ?_⟩
    rw [← h2]
    have : (x.drop k).drop m.length = x.drop (k + m.length) := by rw [List.drop_drop]
    rw [List.length_take, List.length_drop, Nat.min_eq_left (by omega), ← this, List.append_assoc, List.take_append_drop, List.take_append_drop]

theorem find_none (w : World) (ao : Option Addr) (cap : Nat) (x : List UInt8) (s : ByteArray) (hx : IsB w ao cap x) (hs : s.size = 0) :
    Calls Tryd.prog 13 #[.slice ao x.length cap, .string s] w fun e w' => e = .returned (.int .i64 0) ∧ w' = w := by
  have hs' : (s.size : Int) = 0 := by omega
  have hcap := hx.1
  have he : s.toList = [] := by
    rw [Lib.toList_data]
    exact List.eq_nil_of_length_eq_zero (by rw [Array.length_toList]; exact hs)
  have hq := (hx.first 0 (Nat.zero_le _)).str (P := Tryd.prog) 25 9 5 Tryd.underlying25 Tryd.underlying5 Tryd.underlying9
  simp only [List.take_zero, List.length_nil] at hq
  clear hx
  go_enter Tryd.func13, Tryd.ntmps13
  go_wp2
  go_loop [5] (fun t => t = .int .i64 0) (fun _ => 0)
  case atStart => rfl
  case round =>
    subst hrel
    go_wp2
    go_ret
    exact ⟨rfl, rfl⟩

set_option maxHeartbeats 800000 in
theorem find_some (w : World) (ao : Option Addr) (cap : Nat) (x : List UInt8) (s : ByteArray) (hx : IsB w ao cap x) (hL : s.size ≤ 1000000) (hs : 0 < s.size) (hX : x.length ≤ 1000000) :
    Calls Tryd.prog 13 #[.slice ao x.length cap, .string s] w fun e w' => ∃ r, e = .returned (.int .i64 r) ∧ FindIs s.data.toList x r ∧ w' = w := by
  have hcap := hx.1
  have H := Hid.mk' hx
  have HL : Hid (s.data.toList.length = s.size) := by unfold Hid; rw [Array.length_toList]; rfl
  clear hx
  go_enter Tryd.func13, Tryd.ntmps13
  go_wp2
  go_loop [5] (fun t => ∃ k : Nat, k ≤ x.length ∧ t = .int .i64 k ∧ ∀ j, j < k → ¬ StandsAt s.data.toList x j) (fun t => x.length + 1 - (intOf t).toNat)
  case atStart => exact ⟨0, Nat.zero_le _, rfl, fun j h => by omega⟩
  case round =>
    obtain ⟨k, hk, rfl, hno⟩ := hrel
    have HN := Hid.mk' hno
    clear hno
    by_cases hlt : k + s.size ≤ x.length
    · obtain ⟨a, rfl⟩ := H.out.some (by omega)
      have e1 : (k : Int) + s.size ≤ x.length := by omega
      have e2 : (k : Int) + s.size ≤ cap := by omega
      have e3 : ((k : Int) + s.size).toNat = k + s.size := by omega
      have e4 : ¬ cap = k := by omega
      have e5 : k + s.size - k = s.size := by omega
      have hq : (convert 25 9 (.slice (some (a.add k)) s.size (cap - k))).run Tryd.prog w = .ok (.string ⟨((x.drop k).take s.size).toArray⟩) w := by
        have h := H.out.cut (ao' := some (a.add k)) k (k + s.size) (by omega) hlt (fun _ => rfl)
        rw [e5] at h
        have h' := h.str (P := Tryd.prog) 25 9 5 Tryd.underlying25 Tryd.underlying5 Tryd.underlying9
        rw [List.length_take, List.length_drop, Nat.min_eq_left (by omega)] at h'
        exact h'
      by_cases hy : (x.drop k).take s.size = s.data.toList
      · have HY : Hid (StandsAt s.data.toList x k) := ⟨by rw [HL.out]; exact hlt, by rw [HL.out]; exact hy⟩
        have hy' : ((x.drop k).take s.size == s.toList) = true := by rw [Lib.toList_data, hy]; exact beq_self_eq_true _
        clear hy
        go_wp2
        go_ret
        exact ⟨k, rfl, Or.inr ⟨k, rfl, HY.out, HN.out⟩, rfl⟩
      · have HY : Hid (¬ StandsAt s.data.toList x k) := fun h => hy (by have := h.2; rwa [HL.out] at this)
        have hy' : ((x.drop k).take s.size == s.toList) = false := by rw [Lib.toList_data, beq_eq_false_iff_ne]; exact hy
        clear hy
        go_wp2
        go_round
        case rel =>
          refine ⟨k + 1, by omega, by go_num, fun j hj => ?_⟩
          by_cases e : j = k
          · subst e; exact HY.out
          · exact HN.out j (by omega)
        case measure => simp [intOf]; omega
    · have ht : decide ((k : Int) + s.size ≤ x.length) = false := by rw [decide_eq_false_iff_not]; omega
      go_wp2
      go_ret
      refine ⟨-1, rfl, Or.inl ⟨rfl, fun j hj => ?_⟩, rfl⟩
      by_cases e : j < k
      · exact HN.out j e hj
      · have := hj.1
        rw [HL.out] at this; omega

theorem find_any (w : World) (ao : Option Addr) (cap n : Nat) (x : List UInt8) (s : ByteArray) (hx : IsB w ao cap x) (hn : x.length = n) (hL : s.size ≤ 1000000) (hX : n ≤ 1000000) :
    Calls Tryd.prog 13 #[.slice ao n cap, .string s] w fun e w' => ∃ r, e = .returned (.int .i64 r) ∧ FindIs s.data.toList x r ∧ w' = w := by
  subst hn
  by_cases h : s.size = 0
  · refine (find_none w ao cap x s hx h).mono ?_
    rintro e w' ⟨rfl, hw⟩
    have e : s.data.toList = [] := by
      exact List.eq_nil_of_length_eq_zero (by rw [Array.length_toList]; exact h)
    exact ⟨0, rfl, Or.inr ⟨0, rfl, ⟨by rw [e]; simp, by rw [e]; rfl⟩, fun j hj => by omega⟩, hw⟩
  · exact find_some w ao cap x s hx hL (by omega) hX

/-- a mark of one byte -/
theorem find_one {c : UInt8} {l : List UInt8} {r : Int} (h : FindIs [c] l r) : (r = -1 ∧ Fd.at_ c l = l.length) ∨ (r = (Fd.at_ c l : Int) ∧ Fd.at_ c l < l.length) := by
  have key : ∀ j (hj : j < l.length), StandsAt [c] l j ↔ l[j] = c := fun j hj => by
    unfold StandsAt
    rw [List.drop_eq_getElem_cons hj]
    constructor
    · rintro ⟨_, h⟩
      exact (List.cons.inj (show l[j] :: List.take 0 _ = c :: [] from h)).1
    · intro e
      exact ⟨by simp; omega, by rw [e]; rfl⟩
  rcases h with ⟨h1, h2⟩ | ⟨k, h1, h2, h3⟩
  · exact Or.inl ⟨h1, Fd.at_none (fun j hj e => h2 j ((key j hj).2 e))⟩
  · have hk : k < l.length := by have := h2.1; simp at this; omega
    have e := Fd.at_is hk ((key k hk).1 h2) (fun j hj e => h3 j hj ((key j (by omega)).2 e))
    exact Or.inr ⟨by rw [e]; exact h1, by omega⟩

end Go.Proofs.YtjpenioloeplgadDoor

/- The document's own answer, walked: SafeName. -/
namespace Go.Proofs.YtjpenioloeplgadDoor
open Go.RowKit

theorem stroke_at (c : UInt8) : Fm.stroke c = ((((c.toNat : Nat) : Int) == 47) || (((c.toNat : Nat) : Int) == 92)) := by
  have := Ch.byteAll (p := fun i => Fm.stroke i.toNat.toUInt8 == ((i == 47) || (i == 92))) (by decide +kernel) (c.toNat : Int) (by omega) (by have := c.toNat_lt; omega)
  simpa using this
theorem dirty_at (c : UInt8) : Fm.dirty c = ((((c.toNat : Nat) : Int) == 9) || !Ch.visible ((c.toNat : Nat) : Int) || (((c.toNat : Nat) : Int) == 34) || (((c.toNat : Nat) : Int) == 58)) := by
  have := Ch.byteAll (p := fun i => Fm.dirty i.toNat.toUInt8 == ((i == 9) || !Ch.visible i || (i == 34) || (i == 58))) (by decide +kernel) (c.toNat : Int) (by omega) (by have := c.toNat_lt; omega)
  simpa using this
theorem dot_at (c : UInt8) : (c == 46) = (((c.toNat : Nat) : Int) == 46) := by
  have := Ch.byteAll (p := fun i => (i.toNat.toUInt8 == (46 : UInt8)) == (i == 46)) (by decide +kernel) (c.toNat : Int) (by omega) (by have := c.toNat_lt; omega)
  simpa using this
/-- the place behind the last stroke of the first k bytes -/
structure TlAt (l : List UInt8) (k p : Nat) : Prop where
  le : p ≤ k
  free : ∀ j (hj : j < l.length), p ≤ j → j < k → Fm.stroke l[j] = false
  edge : p = 0 ∨ ∃ h : p - 1 < l.length, 0 < p ∧ Fm.stroke l[p - 1] = true
theorem TlAt.zero (l : List UInt8) : TlAt l 0 0 := ⟨Nat.le_refl _, fun _ _ _ h => absurd h (Nat.not_lt_zero _), Or.inl rfl⟩
theorem TlAt.hit {l : List UInt8} {k p : Nat} (_ : TlAt l k p) (hk : k < l.length) (hs : Fm.stroke l[k] = true) : TlAt l (k + 1) (k + 1) :=
  ⟨Nat.le_refl _, fun _ _ h1 h2 => by omega, Or.inr ⟨by simpa using hk, by omega, by simpa using hs⟩⟩
theorem TlAt.miss {l : List UInt8} {k p : Nat} (h : TlAt l k p) (hk : k < l.length) (hs : Fm.stroke l[k] = false) : TlAt l (k + 1) p :=
  ⟨Nat.le_succ_of_le h.le, fun j hj h1 h2 => by
    by_cases e : j = k
    · subst e; exact hs
    · exact h.free j hj h1 (by omega), h.edge⟩
theorem TlAt.all {l : List UInt8} {p : Nat} (h : TlAt l l.length p) : Fm.tail l = l.drop p := Fm.tail_at h.le (fun j hj h1 => h.free j hj h1 hj) h.edge
theorem undot_step (x : ByteArray) (h : 0 < x.size) (hd : (((x[0].toNat : Nat) : Int) == 46) = true) : Fm.undot (x.data.toList.drop 1) = Fm.undot x.data.toList := by
  have e : x.data.toList = x[0] :: x.data.toList.drop 1 := by
    rw [← byte_at x 0 h]; exact (List.drop_eq_getElem_cons (l := x.data.toList) (i := 0) (by rw [Ch.len_list]; exact h)).symm.symm
  unfold Fm.undot
  conv => rhs; rw [e]
  rw [List.dropWhile_cons, if_pos (by rw [dot_at]; exact hd)]
theorem undot_stop (x : ByteArray) (hd : ∀ h : 0 < x.size, (((x[0].toNat : Nat) : Int) == 46) = false) : Fm.undot x.data.toList = x.data.toList := by
  unfold Fm.undot
  by_cases h : 0 < x.size
  · have e : x.data.toList = x[0] :: x.data.toList.drop 1 := by
      rw [← byte_at x 0 h]; exact (List.drop_eq_getElem_cons (l := x.data.toList) (i := 0) (by rw [Ch.len_list]; exact h)).symm.symm
    rw [e, List.dropWhile_cons, if_neg (by rw [dot_at, hd h]; simp)]
  · rw [Ch.empty_eq x (by omega)]; rfl

set_option maxRecDepth 100000 in
set_option maxHeartbeats 1600000 in
theorem safeName_any (s : ByteArray) (w : World) (hs : s.size ≤ 1000000) :
    Calls Tryd.prog 14 #[.string s] w fun e w' => e = .returned (.string ⟨(Fm.safe s.data.toList).toArray⟩) ∧ w' = w := by
  have hl := Ch.len_list s
  go_enter Tryd.func14, Tryd.ntmps14
  go_wp2
  go_loop [3, 4] (fun vp vi => ∃ k p : Nat, k ≤ s.size ∧ vi = .int .i64 k ∧ vp = .int .i64 p ∧ TlAt s.data.toList k p) (fun _ vi => s.size - (intOf vi).toNat)
  case atStart => exact ⟨0, 0, Nat.zero_le _, rfl, rfl, TlAt.zero _⟩
  case round =>
    obtain ⟨k, p, hk, rfl, rfl, hT⟩ := hrel
    have HT := Hid.mk' hT
    have hpk := hT.le
    clear hT
    by_cases hlt : k < s.size
    · have hsk := stroke_at s[k]
      rw [← byte_at s k hlt] at hsk
      cases h47 : (((s[k].toNat : Nat) : Int) == 47)
      · cases h92 : (((s[k].toNat : Nat) : Int) == 92)
        · rw [byte_at s k hlt, h47, h92] at hsk
          have HS := Hid.mk' (HT.out.miss (by rw [hl]; exact hlt) (by rw [byte_at s k hlt]; exact hsk))
          clear hsk
          go_wp2
          go_round
          case rel => exact ⟨k + 1, p, by omega, by go_num, rfl, HS.out⟩
          case measure => simp [intOf]; omega
        · rw [byte_at s k hlt, h47, h92] at hsk
          have HS := Hid.mk' (HT.out.hit (by rw [hl]; exact hlt) (by rw [byte_at s k hlt]; exact hsk))
          clear hsk
          go_wp2
          go_round
          case rel => exact ⟨k + 1, k + 1, by omega, by go_num, by go_num, HS.out⟩
          case measure => simp [intOf]; omega
      · rw [byte_at s k hlt, h47] at hsk
        have HS := Hid.mk' (HT.out.hit (by rw [hl]; exact hlt) (by rw [byte_at s k hlt, hsk]; rfl))
        clear hsk
        go_wp2
        go_round
        case rel => exact ⟨k + 1, k + 1, by omega, by go_num, by go_num, HS.out⟩
        case measure => simp [intOf]; omega
    · obtain rfl : k = s.size := by omega
      have hp' : (p : Int) ≤ s.size := by omega
      have HTl : Hid ((s.extract p s.size).data.toList = Fm.tail s.data.toList) := by
        have h := HT.out
        rw [← hl] at h
        unfold Hid
        rw [h.all, Lib.extract_to_end]
      have hz : (s.extract p s.size).size ≤ 1000000 := by simp; omega
      clear HT hpk
      go_wp2
      generalize s.extract p s.size = t at *
      go_loop [0] (fun v => ∃ x : ByteArray, v = .string x ∧ x.size ≤ t.size ∧ Fm.undot x.data.toList = Fm.undot t.data.toList) (fun v => strLen v)
      case atStart => exact ⟨t, rfl, Nat.le_refl _, rfl⟩
      case round =>
        obtain ⟨x, rfl, hxs, hx⟩ := hrel
        have HX := Hid.mk' hx
        clear hx
        by_cases hgo : ∃ h : 0 < x.size, (((x[0].toNat : Nat) : Int) == 46) = true
        · obtain ⟨h0, hp⟩ := hgo
          have hpos : decide ((0 : Int) < (x.size : Int)) = true := decide_eq_true (by omega)
          have HP := Hid.mk' (undot_step x h0 hp)
          go_wp2
          go_round
          case rel => exact ⟨x.extract 1 x.size, rfl, by simp; omega, by rw [Lib.extract_to_end, HP.out, HX.out]⟩
          case measure => simp [strLen]; omega
        · have hstop : ∀ h : 0 < x.size, (((x[0].toNat : Nat) : Int) == 46) = false := fun h => by
            cases e : (((x[0].toNat : Nat) : Int) == 46)
            · rfl
            · exact absurd ⟨h, e⟩ hgo
          have HD : Hid (Fm.safe s.data.toList = Fm.named ((x.data.toList.take 40).map Fm.wash)) := by
            unfold Hid
            rw [Fm.safe_ref, ← HTl.out, ← HX.out, undot_stop x hstop]
          clear HX HTl hgo
          have hlx := Ch.len_list x
          have HQ : Hid (∀ P : Prop, (((0 < x.size ∧ ∃ h : 0 < x.size, (((x[0].toNat : Nat) : Int) == 46) = false) → P) → (x.size = 0 → P) → P)) := fun P h1 h2 => by
            rcases Nat.eq_zero_or_pos x.size with h | h
            · exact h2 h
            · exact h1 ⟨h, h, hstop h⟩
          clear hstop
          rcases Nat.eq_zero_or_pos x.size with hz0 | h0
          · have HE : Hid (Fm.safe s.data.toList = Fm.nFile) := by
              unfold Hid; rw [HD.out, Ch.empty_eq x hz0]; rfl
            have hpos : decide ((0 : Int) < (x.size : Int)) = false := decide_eq_false (by omega)
            obtain rfl := Ch.empty_eq x hz0
            clear HD HQ
            go_wp2
            refine wp_loop_rounds 1 ?_
            rw [rounds_succ]
            go_wp2
            go_ret
            exact ⟨ret_str (Ch.str_eq (by rw [HE.out]; rfl)), rfl⟩
          · have hpos : decide ((0 : Int) < (x.size : Int)) = true := decide_eq_true (by omega)
            have h46 : (((x[0].toNat : Nat) : Int) == 46) = false := HQ.out _ (fun h => h.2.2) (fun h => by omega)
            clear HQ
            go_wp2
            clear h46 hpos
            go_loop [5, 6] (fun vo vi => ∃ (j : Nat) (y : ByteArray), j ≤ x.size ∧ j ≤ 40 ∧ vi = .int .i64 j ∧ vo = .string y ∧ y.data.toList = (x.data.toList.take j).map Fm.wash) (fun _ vi => 40 - (intOf vi).toNat)
            case atStart => exact ⟨0, ⟨#[]⟩, Nat.zero_le _, Nat.zero_le _, rfl, rfl, rfl⟩
            case round =>
              obtain ⟨j, y, hj, hj4, rfl, rfl, hy⟩ := hrel
              have hyz : y.size ≤ 40 := by
                have := Ch.size_of_list hy
                rw [List.length_map, List.length_take] at this; omega
              have HY := Hid.mk' hy
              clear hy
              by_cases hgo : j < x.size ∧ j < 40
              · obtain ⟨h1, h2⟩ := hgo
                have h1' : (j : Int) < x.size := by omega
                have h2' : (j : Int) < 40 := by omega
                have hdr := dirty_at x[j]
                have HM : Hid (∀ z : ByteArray, z.data.toList = [Fm.wash x[j]] → (y ++ z).data.toList = (x.data.toList.take (j + 1)).map Fm.wash) := fun z hz => by
                  rw [Ch.data_append, hz, HY.out, Ch.take_snoc x j h1, List.map_append]; rfl
                have hone := Ch.one_at x j h1
                have hoz : (x.extract j (j + 1)).size = 1 := Ch.size_of_list hone
                cases hdt : Fm.dirty x[j]
                · rw [hdt] at hdr
                  have hdr' := hdr.symm
                  simp only [Bool.or_eq_false_iff, Bool.not_eq_eq_eq_not, Bool.not_false] at hdr'
                  obtain ⟨⟨⟨d9, dv⟩, d34⟩, d58⟩ := hdr'
                  have HZ : Hid ((y ++ x.extract j (j + 1)).data.toList = (x.data.toList.take (j + 1)).map Fm.wash) := HM.out _ (by rw [hone, Fm.wash_clean hdt])
                  have i1 : (j : Int) ≤ (j : Int) + 1 := by omega
                  have i2 : (j : Int) + 1 ≤ x.size := by omega
                  have e1 : ((j : Int) + 1).toNat = j + 1 := by omega
                  have HSe := Hid.mk' (isSeen_any (x[j].toNat : Int) w)
                  rw [dv] at HSe
                  clear HM hdr hone dv
                  go_wp2_with (go_at_call 26; refine HSe.out.mono ?_; rintro e w' ⟨rfl, hw⟩; subst hw)
                  go_round
                  case rel => exact ⟨j + 1, _, by omega, by omega, by go_num, rfl, HZ.out⟩
                  case measure => simp [intOf]; omega
                · rw [hdt] at hdr
                  have HZ : Hid ((y ++ ⟨#[95]⟩).data.toList = (x.data.toList.take (j + 1)).map Fm.wash) := HM.out _ (by unfold Fm.wash; rw [hdt]; rfl)
                  have HSe := Hid.mk' (isSeen_any (x[j].toNat : Int) w)
                  clear HM hone hoz
                  cases d9 : (((x[j].toNat : Nat) : Int) == 9)
                  · cases dv : Ch.visible ((x[j].toNat : Nat) : Int)
                    · rw [dv] at HSe
                      clear hdr dv
                      go_wp2_with (go_at_call 26; refine HSe.out.mono ?_; rintro e w' ⟨rfl, hw⟩; subst hw)
                      go_round
                      case rel => exact ⟨j + 1, _, by omega, by omega, by go_num, rfl, HZ.out⟩
                      case measure => simp [intOf]; omega
                    · rw [dv] at HSe
                      cases d34 : (((x[j].toNat : Nat) : Int) == 34)
                      · have d58 : (((x[j].toNat : Nat) : Int) == 58) = true := by rw [d9, dv, d34] at hdr; simpa using hdr.symm
                        clear hdr dv
                        go_wp2_with (go_at_call 26; refine HSe.out.mono ?_; rintro e w' ⟨rfl, hw⟩; subst hw)
                        go_round
                        case rel => exact ⟨j + 1, _, by omega, by omega, by go_num, rfl, HZ.out⟩
                        case measure => simp [intOf]; omega
                      · clear hdr dv
                        go_wp2_with (go_at_call 26; refine HSe.out.mono ?_; rintro e w' ⟨rfl, hw⟩; subst hw)
                        go_round
                        case rel => exact ⟨j + 1, _, by omega, by omega, by go_num, rfl, HZ.out⟩
                        case measure => simp [intOf]; omega
                  · clear hdr HSe
                    go_wp2
                    go_round
                    case rel => exact ⟨j + 1, _, by omega, by omega, by go_num, rfl, HZ.out⟩
                    case measure => simp [intOf]; omega
              · have HR : Hid (Fm.safe s.data.toList = Fm.named y.data.toList) := by
                  unfold Hid
                  rw [HD.out, HY.out]
                  congr 2
                  rcases (show j = 40 ∨ j = x.size by omega) with e | e
                  · rw [e]
                  · rw [e, List.take_of_length_le (by omega), List.take_of_length_le (by omega)]
                have hjp : 0 < y.size := by
                  have := Ch.size_of_list HY.out
                  rw [List.length_map, List.length_take] at this; omega
                have te : (y.toList == []) = false := by
                  rw [beq_eq_false_iff_ne, Lib.toList_data]; intro e
                  have := Ch.len_list y; rw [e] at this; simp at this; omega
                have HN : Hid (Fm.named y.data.toList = y.data.toList) := by
                  unfold Hid Fm.named
                  rw [if_neg (fun e => by rw [beq_eq_false_iff_ne, Lib.toList_data] at te; exact te e)]
                clear HY HD
                by_cases hjx : j < x.size
                · have hj40 : decide ((j : Int) < 40) = false := decide_eq_false (by omega)
                  have hjx' : (j : Int) < x.size := by omega
                  clear hgo
                  go_wp2
                  go_ret
                  exact ⟨ret_str (Ch.str_eq (by rw [HR.out, HN.out])), rfl⟩
                · have hjx' : decide ((j : Int) < x.size) = false := decide_eq_false (by omega)
                  clear hgo
                  go_wp2
                  go_ret
                  exact ⟨ret_str (Ch.str_eq (by rw [HR.out, HN.out])), rfl⟩
end Go.Proofs.YtjpenioloeplgadDoor

/- The document's own answer, walked: IsMark. -/
namespace Go.Proofs.YtjpenioloeplgadDoor
open Go.RowKit

set_option maxHeartbeats 1000000 in
theorem isMarkR_any (s : ByteArray) (w : World) (hs : s.size ≤ maxLen) :
    Calls Tryd.prog 12 #[.string s] w fun e w' => e = .returned (.bool (Fm.isMark s.data.toList)) ∧ w' = w := by
  have hl := Ch.len_list s
  unfold maxLen at hs
  by_cases h0 : s.size = 0
  · have hnil : s.data.toList = [] := List.eq_nil_of_length_eq_zero (by rw [hl]; exact h0)
    have HR : Hid (Fm.isMark s.data.toList = false) := by unfold Hid Fm.isMark; rw [hnil]; rfl
    have p0 : ¬ 0 < s.size := by omega
    have t0 : decide ((s.size : Int) > 0) = false := decide_eq_false (by omega)
    clear h0 hl hnil
    go_enter Tryd.func12, Tryd.ntmps12
    go_wp2
    go_ret
    exact ⟨by rw [HR.out]; rfl, rfl⟩
  · have t0 : decide ((s.size : Int) > 0) = true := decide_eq_true (by omega)
    have p0 : 0 < s.size := by omega
    have hne : s.data.toList.isEmpty = false := by rw [List.isEmpty_eq_false_iff]; intro e; rw [e] at hl; exact h0 hl.symm
    by_cases h70 : s.size ≤ 70
    · have t70 : decide ((s.size : Int) ≤ 70) = true := decide_eq_true (by omega)
      have HV := Hid.mk' (fun W => seenText_any s W (by unfold maxLen; omega))
      have HT := Hid.mk' (fun W => trimmed_any s W (by unfold maxLen; omega))
      cases hv : Ch.isVisible s.data.toList with
      | false =>
        rw [hv] at HV
        have HR : Hid (Fm.isMark s.data.toList = false) := by unfold Hid Fm.isMark; rw [hv]; simp
        clear h0 h70 hne hv hl
        go_enter Tryd.func12, Tryd.ntmps12
        go_wp2_with (go_at_call 24; refine (HV.out _).mono ?_; rintro e w1 ⟨rfl, hw⟩; subst hw)
        go_ret
        exact ⟨by rw [HR.out]; rfl, rfl⟩
      | true =>
        rw [hv] at HV
        have hM : Fm.isMark s.data.toList = decide (Lib.trimS s.data.toList Ch.ws = s.data.toList) := by
          unfold Fm.isMark; rw [hne, hv, hl, decide_eq_true h70]; simp
        have tt : ((⟨(Lib.trimS s.data.toList Ch.ws).toArray⟩ : ByteArray).toList == s.toList) = decide (Lib.trimS s.data.toList Ch.ws = s.data.toList) := by
          rw [Lib.toList_data, Lib.toList_data, Bool.eq_iff_iff]; simp
        have HM := Hid.mk' hM
        generalize decide (Lib.trimS s.data.toList Ch.ws = s.data.toList) = dd at *
        generalize (⟨(Lib.trimS s.data.toList Ch.ws).toArray⟩ : ByteArray) = tr at *
        clear h0 h70 hne hv hM hl
        go_enter Tryd.func12, Tryd.ntmps12
        go_wp2_with (first
          | (go_at_call 24; refine (HV.out _).mono ?_; rintro e w1 ⟨rfl, hw⟩; subst hw)
          | (go_at_call 25; refine (HT.out _).mono ?_; rintro e w2 ⟨rfl, hw⟩; subst hw))
        go_ret
        exact ⟨by rw [HM.out]; rfl, rfl⟩
    · have t70 : decide ((s.size : Int) ≤ 70) = false := decide_eq_false (by omega)
      have HR : Hid (Fm.isMark s.data.toList = false) := by unfold Hid Fm.isMark; rw [hl, decide_eq_false h70]; simp
      clear h0 h70 hne hl
      go_enter Tryd.func12, Tryd.ntmps12
      go_wp2
      go_ret
      exact ⟨by rw [HR.out]; rfl, rfl⟩
end Go.Proofs.YtjpenioloeplgadDoor
