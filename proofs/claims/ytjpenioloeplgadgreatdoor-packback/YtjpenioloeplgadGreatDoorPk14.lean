/- Small texts, one behind the other: FsA, FdVals. -/
import Derived.Test.YtjpenioloeplgadGreatDoorBase
import Derived.Test.YtjpenioloeplgadGreatDoorPk4
import Derived.Test.YtjpenioloeplgadGreatDoorPk1
import Derived.Test.YtjpenioloeplgadGreatDoorPk2
import Derived.Test.YtjpenioloeplgadGreatDoorProg
import Derived.Test.YtjpenioloeplgadGreatDoorPk10
/- The library's LastIndexByte of texts and TrimLeft of bytes at one byte, walked. -/
namespace Go.Proofs.YtjpenioloeplgadGreatDoor
open Go.RowKit

/-- where c stands last, or -1 -/
def LastIs (c : UInt8) (l : List UInt8) (r : Int) : Prop := (r = -1 ∧ ∀ j (hj : j < l.length), l[j] ≠ c) ∨ ∃ i : Nat, ∃ hi : i < l.length, r = i ∧ l[i] = c ∧ ∀ j (hj : j < l.length), i < j → l[j] ≠ c
theorem byte_at (s : ByteArray) (i : Nat) (h : i < s.size) : s.data.toList[i]'(by rw [Ch.len_list]; exact h) = s[i] := by
  rw [Array.getElem_toList]; rfl

set_option maxHeartbeats 800000 in
theorem lastS_any (s : ByteArray) (c : UInt8) (w : World) (hs : s.size ≤ maxLen) :
    Calls Tryz.prog 57 #[.string s, .int .u8 c.toNat] w fun e w' => ∃ r : Int, e = .returned (.int .i64 r) ∧ LastIs c s.data.toList r ∧ w' = w := by
  have hl := Ch.len_list s
  have hsM : (s.size : Int) ≤ 9223372036854775807 := by unfold maxLen at hs; omega
  go_enter Tryz.func57, Tryz.ntmps57
  go_wp2
  go_loopw [5] (fun t wr => wr = w ∧ ∃ k : Nat, k ≤ s.size ∧ t = .int .i64 ((k : Int) - 1) ∧ ∀ j (hj : j < s.data.toList.length), k ≤ j → s.data.toList[j] ≠ c) (fun t _ => ((intOf t) + 1).toNat)
  case atStart => exact ⟨rfl, s.size, Nat.le_refl _, rfl, fun j hj h => by omega⟩
  case round =>
    obtain ⟨rfl, k, hk, rfl, hno⟩ := hrel
    have HNo := Hid.mk' hno
    clear hno
    cases k with
    | zero =>
      have HR : Hid (LastIs c s.data.toList (-1)) := Or.inl ⟨rfl, fun j hj => HNo.out j hj (Nat.zero_le _)⟩
      go_wp2
      go_ret
      exact ⟨-1, rfl, HR.out, rfl⟩
    | succ i =>
      have hi : i < s.size := by omega
      have e1 : ((i + 1 : Nat) : Int) - 1 = (i : Int) := by omega
      rw [e1]
      have hge : (i : Int) ≥ 0 := by omega
      have hilt : (i : Int) < s.size := by omega
      by_cases hc : s[i] = c
      · have t0 : ((s[i].toNat : Int) == (c.toNat : Int)) = true := by rw [hc]; exact beq_self_eq_true _
        have HR : Hid (LastIs c s.data.toList (i : Int)) := Or.inr ⟨i, by rw [hl]; exact hi, rfl, by rw [byte_at s i hi]; exact hc, fun j hj h => HNo.out j hj h⟩
        clear hc HNo
        go_wp2
        go_ret
        exact ⟨i, rfl, HR.out, rfl⟩
      · have t0 : ((s[i].toNat : Int) == (c.toNat : Int)) = false := by rw [beq_eq_false_iff_ne]; intro e; exact hc (UInt8.toNat_inj.1 (by omega))
        have HNo2 : Hid (∀ j (hj : j < s.data.toList.length), i ≤ j → s.data.toList[j] ≠ c) := fun j hj h => by
          rcases Nat.lt_or_eq_of_le h with h | h
          · exact HNo.out j hj h
          · subst h; rw [byte_at s i hi]; exact hc
        clear hc HNo
        go_wp2
        go_roundw
        case rel => exact ⟨trivial, i, by omega, by go_num, HNo2.out⟩
        case measure => simp [intOf]
theorem lastI_any (s : ByteArray) (c : UInt8) (w : World) (hs : s.size ≤ maxLen) :
    Calls Tryz.prog 35 #[.string s, .int .u8 c.toNat] w fun e w' => ∃ r : Int, e = .returned (.int .i64 r) ∧ LastIs c s.data.toList r ∧ w' = w := by
  have H := Hid.mk' (lastS_any s c w hs)
  go_enter Tryz.func35, Tryz.ntmps35
  go_wp2_with fail
  refine H.out.mono ?_
  rintro e w' ⟨r, rfl, hr, hw⟩
  subst hw
  go_wp2
  go_ret
  exact ⟨r, rfl, hr, rfl⟩

set_option maxHeartbeats 800000 in
/-- bytes without those at the beginning that are c -/
theorem trimB_any (w : World) (ao : Option Addr) (cap n : Nat) (l : List UInt8) (c : UInt8) (h : IsB w ao cap l) (hn : l.length = n) :
    Calls Tryz.prog 58 #[.slice ao n cap, .int .u8 c.toNat] w fun e w' => ∃ ao' cap' n', e = .returned (.slice ao' n' cap') ∧ n' = (l.dropWhile (· == c)).length ∧ IsB w ao' cap' (l.dropWhile (· == c)) ∧ w' = w := by
  have HB := Hid.mk' h
  have HN := Hid.mk' hn
  clear h hn
  go_enter Tryz.func58, Tryz.ntmps58
  go_wp2
  go_loopw [0] (fun t wr => wr = w ∧ ∃ (ao' : Option Addr) (cap' n' : Nat) (r : List UInt8), t = .slice ao' n' cap' ∧ n' = r.length ∧ IsB w ao' cap' r ∧ r.dropWhile (· == c) = l.dropWhile (· == c)) (fun t _ => match t with | .slice _ k _ => k | _ => 0)
  case atStart => exact ⟨rfl, ao, cap, n, l, rfl, HN.out.symm, HB.out, rfl⟩
  case round =>
    obtain ⟨rfl, ao', cap', n', r, rfl, hn', hI, hd⟩ := hrel
    have HI := Hid.mk' hI; have HD := Hid.mk' hd
    clear hI hd
    cases r with
    | nil =>
      obtain rfl : n' = 0 := hn'
      have HR : Hid (l.dropWhile (· == c) = []) := by unfold Hid; rw [← HD.out]; rfl
      go_wp2
      go_ret
      exact ⟨none, 0, 0, rfl, by rw [HR.out]; rfl, by rw [HR.out]; exact IsB.nil _, rfl⟩
    | cons x t =>
      obtain ⟨bb, oo, rfl, hcs⟩ := HI.out.lit (by simp)
      have cx := hcs 0 (by simp)
      have cx : wr.cell? ⟨bb, oo, none⟩ = some (.int .u8 (x.toNat : Int)) := by simpa using cx
      have hcap : n' ≤ cap' := by rw [hn']; exact HI.out.1
      have hpos : 0 < n' := by rw [hn']; simp
      have HNn := Hid.mk' hn'
      clear hcs
      by_cases hx : x = c
      · have tx : ((x.toNat : Int) == (c.toNat : Int)) = true := by rw [hx]; exact beq_self_eq_true _
        have HD2 : Hid (t.dropWhile (· == c) = l.dropWhile (· == c)) := by unfold Hid; rw [← HD.out, List.dropWhile_cons, if_pos (by simpa using hx)]
        have hcut : ∀ ao2, (cap' ≠ 1 → ao2 = some ⟨bb, oo + 1, none⟩) → IsB wr ao2 (cap' - 1) t := fun ao2 he => by
          have := HI.out.cut (ao' := ao2) 1 (x :: t).length (by simp) (Nat.le_refl _) (fun e => by rw [he e]; rfl)
          simpa using this
        have HCut := Hid.mk' hcut
        clear hcut hx hn'
        by_cases hc1 : cap' = 1
        · subst hc1
          obtain rfl : n' = 1 := by omega
          go_wp2
          go_roundw
          case rel => exact ⟨trivial, _, _, _, t, rfl, by have := HNn.out; rw [List.length_cons] at this; omega, by simpa using HCut.out _ (fun e => absurd rfl e), HD2.out⟩
          case measure => simp
        · go_wp2
          go_roundw
          case rel => exact ⟨trivial, _, _, _, t, rfl, by have := HNn.out; rw [List.length_cons] at this; omega, HCut.out _ (fun _ => rfl), HD2.out⟩
          case measure => simp; omega
      · have tx : ((x.toNat : Int) == (c.toNat : Int)) = false := by rw [beq_eq_false_iff_ne]; intro e; exact hx (UInt8.toNat_inj.1 (by omega))
        have HR : Hid (l.dropWhile (· == c) = x :: t) := by unfold Hid; rw [← HD.out, List.dropWhile_cons, if_neg (by simpa using hx)]
        have t0 : ((n' : Int) == 0) = false := by rw [beq_eq_false_iff_ne]; omega
        clear hx hn'
        go_wp2
        go_ret
        exact ⟨_, _, n', rfl, by rw [HR.out]; exact HNn.out, by rw [HR.out]; exact HI.out, rfl⟩
set_option maxRecDepth 100000 in
set_option maxHeartbeats 800000 in
/-- bytes without the dots at their beginning -/
theorem undotB_any (w : World) (ao : Option Addr) (cap n : Nat) (l : List UInt8) (h : IsB w ao cap l) (hn : l.length = n) :
    Calls Tryz.prog 37 #[.slice ao n cap, .string ⟨#[46]⟩] w fun e w' => ∃ ao' cap' n', e = .returned (.slice ao' n' cap') ∧ n' = (l.dropWhile (· == 46)).length ∧ IsB w ao' cap' (l.dropWhile (· == 46)) ∧ w' = w := by
  have HT := Hid.mk' (trimB_any w ao cap n l 46 h hn)
  by_cases h0 : n = 0
  · subst h0
    obtain rfl : l = [] := List.eq_nil_of_length_eq_zero hn
    clear HT h hn
    go_enter Tryz.func37, Tryz.ntmps37
    go_wp2
    go_ret
    exact ⟨none, 0, 0, rfl, rfl, IsB.nil _, rfl⟩
  · have t0 : ((n : Int) == 0) = false := by rw [beq_eq_false_iff_ne]; omega
    clear h hn h0
    go_enter Tryz.func37, Tryz.ntmps37
    go_wp2_with fail
    refine HT.out.mono ?_
    rintro e w' ⟨ao', cap', n', rfl, h1, h2, hw⟩
    subst hw
    have H1 := Hid.mk' h1
    clear h1
    go_wp2
    go_ret
    exact ⟨ao', cap', n', rfl, H1.out, h2, rfl⟩
end Go.Proofs.YtjpenioloeplgadGreatDoor

/- Values of a name's fields, and a field that is told, as plain things and as values. -/
namespace Go.Proofs.YtjpenioloeplgadGreatDoor
open Go.RowKit

theorem info_str : (Tryz.prog.info? 9).map (fun i => (i.zero, i.size, i.bytes)) = some (some (.string ⟨#[]⟩), 1, 16) := by kernel_rfl

/-- the values of a name's fields, in their order -/
def Fd.vals (name : ByteArray) (l : List (ByteArray × ByteArray)) : List ByteArray := (l.filter fun p => decide (Ch.lower p.1.data.toList = Ch.lower name.data.toList)).map (·.2)
theorem Fd.vals_snoc (name : ByteArray) (l : List (ByteArray × ByteArray)) (p : ByteArray × ByteArray) :
    Fd.vals name (l ++ [p]) = if Ch.lower p.1.data.toList = Ch.lower name.data.toList then Fd.vals name l ++ [p.2] else Fd.vals name l := by
  unfold Fd.vals
  rw [List.filter_append, List.map_append]
  by_cases h : Ch.lower p.1.data.toList = Ch.lower name.data.toList
  · rw [if_pos h]; simp [h]
  · rw [if_neg h]; simp [h]
theorem Fd.vals_length (name : ByteArray) (l : List (ByteArray × ByteArray)) : (Fd.vals name l).length ≤ l.length := by
  unfold Fd.vals; rw [List.length_map]; exact List.length_filter_le _ _

/-- the one value of a name's fields, or a code -/
def Fd.one (vs : List ByteArray) : List UInt8 × Nat :=
  match vs with
  | [] => ([], 10)
  | [v] => (v.data.toList, 0)
  | _ => ([], 9)

/-- what is told, as a value -/
def Fd.val (t : Fd.Told) : Value := .tuple #[.agg #[.string ⟨t.name.toArray⟩, .string ⟨t.value.toArray⟩], .int .i64 (t.code : Int)]
end Go.Proofs.YtjpenioloeplgadGreatDoor
