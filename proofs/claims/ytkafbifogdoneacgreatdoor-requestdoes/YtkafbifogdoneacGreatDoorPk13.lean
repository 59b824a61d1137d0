/- Small texts, one behind the other: CsAllV, CsIsVis, CsNum10, CsLower, RfOne, RfTokB. -/
import Derived.Test.YtkafbifogdoneacGreatDoorPk11
import Derived.Test.YtkafbifogdoneacGreatDoorPk12
import Derived.Test.YtkafbifogdoneacGreatDoorPk1
import Derived.Test.YtkafbifogdoneacGreatDoorBase
import Derived.Test.YtkafbifogdoneacGreatDoorProg
/- Package chars, walked: all, of Visible. -/
namespace Go.Proofs.YtkafbifogdoneacGreatDoor
open Go.RowKit

set_option maxHeartbeats 400000 in
theorem all_visible (s : ByteArray) (w : World) (hs : s.size ≤ maxLen) :
    Calls Tryz.prog 101 #[.string s, .func (.func 96) #[] #[]] w fun e w' => e = .returned (.bool (Ch.isVisible s.data.toList)) ∧ w' = w := by
  unfold maxLen at hs
  go_enter Tryz.func101, Tryz.ntmps101
  go_wp2
  go_loop [8] (fun i => ∃ k : Nat, k ≤ s.size ∧ i = .int .i64 k ∧ ((s.data.toList.take k).all fun b => Ch.visible b.toNat) = true) (fun i => s.size - (intOf i).toNat)
  case atStart => exact ⟨0, Nat.zero_le _, rfl, rfl⟩
  case round =>
    obtain ⟨k, hk, rfl, hno⟩ := hrel
    have HN : Hid (((s.data.toList.take k).all fun b => Ch.visible b.toNat) = true) := hno
    clear hno
    by_cases hlt : k < s.size
    · cases he : Ch.visible (s[k].toNat : Int)
      · have HE : Hid (Ch.visible (s[k].toNat : Int) = false) := he
        go_wp2_with (go_at_call 96; refine (visible_any _ _).mono ?_; rintro e w' ⟨rfl, rfl⟩)
        go_ret
        refine ⟨ret_bool ?_, rfl⟩
        exact (Ch.all_of_take (fun b => Ch.visible b.toNat) s k hlt HE.out).symm
      · have HE : Hid (Ch.visible (s[k].toNat : Int) = true) := he
        go_wp2_with (go_at_call 96; refine (visible_any _ _).mono ?_; rintro e w' ⟨rfl, rfl⟩)
        go_round
        case rel => exact ⟨k + 1, by omega, by go_num, by rw [Ch.take_snoc s k hlt, Ch.all_snoc, HN.out, HE.out]; rfl⟩
        case measure => simp [intOf]; omega
    · go_wp2
      go_ret
      refine ⟨ret_bool ?_, rfl⟩
      rw [← HN.out, Ch.take_all s k (by omega)]
      rfl
end Go.Proofs.YtkafbifogdoneacGreatDoor

/- Package chars, walked: IsVisible. -/
namespace Go.Proofs.YtkafbifogdoneacGreatDoor
open Go.RowKit

set_option maxHeartbeats 400000 in
theorem isVisible_any (s : ByteArray) (w : World) (hs : s.size ≤ maxLen) :
    Calls Tryz.prog 66 #[.string s] w fun e w' => e = .returned (.bool (Ch.isVisible s.data.toList)) ∧ w' = w := by
  go_enter Tryz.func66, Tryz.ntmps66
  go_wp2_with (go_at_call 101; refine (all_visible _ _ hs).mono ?_; rintro e w' ⟨rfl, rfl⟩)
  go_ret
  exact ⟨rfl, rfl⟩
end Go.Proofs.YtkafbifogdoneacGreatDoor

/- Package chars, walked: Number. -/
namespace Go.Proofs.YtkafbifogdoneacGreatDoor
open Go.RowKit

set_option maxHeartbeats 400000 in
theorem number10_any (s : ByteArray) (w : World) (hs : s.size ≤ maxLen) :
    Calls Tryz.prog 189 #[.string s] w fun e w' => e = .returned (.tuple #[.int .i64 (Ch.number 10 9 s.data.toList).1, .bool (Ch.number 10 9 s.data.toList).2]) ∧ w' = w := by
  have h := number_any s 10 9 w hs (by decide) (by decide) (by decide) (by decide)
  generalize Ch.number 10 9 s.data.toList = p at h
  go_enter Tryz.func189, Tryz.ntmps189
  go_wp2_with (go_at_call 200; refine h.mono ?_; rintro e w' ⟨rfl, rfl⟩)
  go_ret2
  exact ⟨rfl, rfl⟩
end Go.Proofs.YtkafbifogdoneacGreatDoor

/- Package chars, walked: Lower. -/
namespace Go.Proofs.YtkafbifogdoneacGreatDoor
open Go.RowKit

/-- the bytes when the first k were looked at -/
def lowCell (s : ByteArray) (k j : Nat) : Value := .int .u8 ((if j < k then Ch.lowB (s.data.toList.getD j 0) else s.data.toList.getD j 0).toNat : Int)

theorem lowCell_same (s : ByteArray) (k j : Nat) (h : Ch.lowB (s.data.toList.getD k 0) = s.data.toList.getD k 0) : some (lowCell s k j) = some (lowCell s (k + 1) j) := by
  unfold lowCell
  by_cases h1 : j < k
  · rw [if_pos h1, if_pos (by omega)]
  · by_cases h2 : j = k
    · subst h2; rw [if_neg h1, if_pos (by omega), h]
    · rw [if_neg h1, if_neg (by omega)]

theorem lowCell_other (s : ByteArray) (k j : Nat) (h : j ≠ k) : some (lowCell s k j) = some (lowCell s (k + 1) j) := by
  unfold lowCell
  by_cases h1 : j < k
  · rw [if_pos h1, if_pos (by omega)]
  · rw [if_neg h1, if_neg (by omega)]

set_option maxHeartbeats 800000 in
theorem lower_any (s : ByteArray) (w : World) (hs : s.size ≤ maxLen) :
    Calls Tryz.prog 153 #[.string s] w fun e w' => e = .returned (.string ⟨(Ch.lower s.data.toList).toArray⟩) ∧ Below w.heap.size w w' := by
  unfold maxLen at hs
  have hconv := run_bytes_of_string (P := Tryz.prog) w 9 22 5 s Tryz.underlying9 Tryz.underlying22 Tryz.underlying5
  generalize grownCap w s.size 0 5 = cap at hconv
  have hat : ∀ j, j < s.size → (bytesRow s cap)[j]? = some (lowCell s 0 j) := fun j hj => by
    rw [bytesRow_at s cap j hj]
    unfold lowCell
    rw [if_neg (by omega)]
    have e : s.data.toList.getD j 0 = s.data[j]'hj := by
      simp [List.getD, hj]
    rw [e]
  have hsz : s.size ≤ (bytesRow s cap).size := by unfold bytesRow; simp
  generalize bytesRow s cap = C at hconv hat hsz
  go_enter Tryz.func153, Tryz.ntmps153
  go_wp2
  have hB0 : Below w.heap.size w (w.alloc (.cells C 5 (C.size, C.size + 1))).drew := ((Below.refl _ _).alloc (Nat.le_refl _) _).drew
  have hc0 : ∀ j, j < s.size → ((w.alloc (.cells C 5 (C.size, C.size + 1))).drew).cell? ⟨w.heap.size, j, none⟩ = some (lowCell s 0 j) := fun j hj => by
    rw [← hat j hj]; exact World.cell?_alloc_mark w C 5 _ j
  have hf0 : ∀ j, j < s.size → ((w.alloc (.cells C 5 (C.size, C.size + 1))).drew).frozen? ⟨w.heap.size, j, none⟩ = false := fun j hj => by
    refine (World.frozen?_alloc_mark w C 5 C.size (C.size + 1) j).trans ?_
    rw [decide_eq_false (by omega)]; rfl
  clear hconv hat
  go_loopw [10] (fun i wr => ∃ k : Nat, k ≤ s.size ∧ i = .int .i64 k ∧ Below w.heap.size w wr ∧ (∀ j, j < s.size → wr.cell? ⟨w.heap.size, j, none⟩ = some (lowCell s k j)) ∧ (∀ j, j < s.size → wr.frozen? ⟨w.heap.size, j, none⟩ = false)) (fun i _ => s.size - (intOf i).toNat)
  case atStart => exact ⟨0, Nat.zero_le _, rfl, hB0, hc0, hf0⟩
  case round =>
    obtain ⟨k, hk, rfl, hbl, hcs, hfs⟩ := hrel
    clear hB0 hc0 hf0 hsz
    have HC : Hid (∀ j, j < s.size → wr.cell? ⟨w.heap.size, j, none⟩ = some (lowCell s k j)) := hcs
    have HF : Hid (∀ j, j < s.size → wr.frozen? ⟨w.heap.size, j, none⟩ = false) := hfs
    clear hcs hfs
    by_cases hlt : k < s.size
    · have hb := s[k].toNat_lt
      have e0 : s.data.toList.getD k 0 = s[k] := by
        have : s.data.toList[k]? = some s[k] := List.getElem?_eq_getElem (by simpa using hlt)
        simp [List.getD, this]
      have hcell : wr.cell? ⟨w.heap.size, k, none⟩ = some (.int .u8 s[k].toNat) := by
        rw [HC.out k hlt]; unfold lowCell; rw [if_neg (by omega), e0]
      have hfz := HF.out k hlt
      have H0 : Hid (s.data.toList.getD k 0 = s[k]) := e0
      clear e0
      cases hcap : Ch.capital s[k].toNat
      · have HL : Hid (Ch.lowB s[k] = s[k]) := Ch.lowB_no _ hcap
        go_wp2_with (go_at_call 172; refine (capital_any _ _).mono ?_; rintro e w' ⟨rfl, rfl⟩)
        go_roundw
        case rel => exact ⟨k + 1, by omega, by go_num, hbl, fun j hj => by rw [HC.out j hj]; exact lowCell_same s k j (by rw [H0.out, HL.out]), HF.out⟩
        case measure => simp [intOf]; omega
      · have HL : Hid (((Ch.lowB s[k]).toNat : Int) = s[k].toNat - 65 + 97) := Ch.lowB_yes _ hcap
        have hcr : 65 ≤ s[k].toNat ∧ s[k].toNat ≤ 90 := by
          unfold Ch.capital at hcap; rw [Bool.and_eq_true, decide_eq_true_eq, decide_eq_true_eq] at hcap; omega
        go_wp2_with (go_at_call 172; refine (capital_any _ _).mono ?_; rintro e w' ⟨rfl, rfl⟩)
        go_roundw
        case rel =>
          refine ⟨k + 1, by omega, by go_num, hbl.setCell (Nat.le_refl _) _, fun j hj => ?_, fun j hj => by rw [World.frozen?_setCell]; exact HF.out j hj⟩
          by_cases hjk : j = k
          · subst hjk
            rw [World.cell?_setCell_same (h := hcell)]
            unfold lowCell
            rw [if_pos (by omega), H0.out, HL.out]
          · rw [World.cell?_setCell_other (h := by intro h; injection h with _ h2; exact hjk h2.symm), HC.out j hj]
            exact lowCell_other s k j hjk
        case measure => simp [intOf]; omega
    · obtain rfl : k = s.size := by omega
      have hback : (convert 22 9 (.slice (some ⟨w.heap.size, 0, none⟩) s.size cap)).run Tryz.prog wr = .ok (.string ⟨(Ch.lower s.data.toList).toArray⟩) wr := by
        have h := run_convert_bytes_back (P := Tryz.prog) wr 22 9 5 ⟨w.heap.size, 0, none⟩ cap (Ch.lower s.data.toList) Tryz.underlying22 Tryz.underlying5 Tryz.underlying9 (fun j hj => by
          have hj' : j < s.size := by rw [Ch.lower_length, Ch.len_list] at hj; exact hj
          have ha : ((⟨w.heap.size, 0, none⟩ : Addr).add j) = ⟨w.heap.size, j, none⟩ := by unfold Addr.add; simp; omega
          rw [ha, HC.out j hj']
          unfold lowCell
          rw [if_pos hj']
          have e : (Ch.lower s.data.toList)[j] = Ch.lowB (s.data.toList.getD j 0) := by
            simp [Ch.lower, List.getD, hj']
          rw [e])
        rw [Ch.lower_length, Ch.len_list] at h
        exact h
      clear HC HF
      generalize hr : (⟨(Ch.lower s.data.toList).toArray⟩ : ByteArray) = r at hback
      have HR : Hid ((⟨(Ch.lower s.data.toList).toArray⟩ : ByteArray) = r) := hr
      clear hr
      go_wp2
      go_ret
      exact ⟨ret_str HR.out.symm, hbl⟩
end Go.Proofs.YtkafbifogdoneacGreatDoor

/- The document's own answer, walked: one. -/
namespace Go.Proofs.YtkafbifogdoneacGreatDoor
open Go.RowKit

set_option maxHeartbeats 400000 in
theorem one_any (c : Int) (s : ByteArray) (w : World) (hs : s.size ≤ maxLen) :
    Calls Tryz.prog 60 #[.int .u8 c, .string s] w fun e w' => e = .returned (.bool (Ch.oneOf c s.data.toList)) ∧ w' = w := by
  unfold maxLen at hs
  go_enter Tryz.func60, Tryz.ntmps60
  go_wp2
  go_loop [5] (fun i => ∃ k : Nat, k ≤ s.size ∧ i = .int .i64 k ∧ Ch.oneOf c (s.data.toList.take k) = false) (fun i => s.size - (intOf i).toNat)
  case atStart => exact ⟨0, Nat.zero_le _, rfl, rfl⟩
  case round =>
    obtain ⟨k, hk, rfl, hno⟩ := hrel
    have HN : Hid (Ch.oneOf c (s.data.toList.take k) = false) := hno
    clear hno
    by_cases hlt : k < s.size
    · by_cases he : ((s[k].toNat : Int)) = c
      · have HE : Hid ((s[k].toNat : Int) = c) := he
        have hb : (((s[k].toNat : Int)) == c) = true := beq_iff_eq.2 he
        clear he
        go_wp2
        go_ret
        refine ⟨ret_bool ?_, rfl⟩
        exact (Ch.any_of_take (fun b => (b.toNat : Int) == c) s k hlt (beq_iff_eq.2 HE.out)).symm
      · have hb : (((s[k].toNat : Int)) == c) = false := beq_eq_false_iff_ne.2 he
        have HB : Hid ((((s[k].toNat : Int)) == c) = false) := hb
        clear he
        go_wp2
        go_round
        case rel => exact ⟨k + 1, by omega, by go_num, by rw [Ch.take_snoc s k hlt, Ch.oneOf_snoc, HN.out, HB.out]; rfl⟩
        case measure => simp [intOf]; omega
    · go_wp2
      go_ret
      refine ⟨ret_bool ?_, rfl⟩
      rw [← HN.out, Ch.take_all s k (by omega)]
end Go.Proofs.YtkafbifogdoneacGreatDoor

/- The document's own answer, walked: IsTokenByte. -/
namespace Go.Proofs.YtkafbifogdoneacGreatDoor
open Go.RowKit

set_option maxHeartbeats 1000000 in
theorem isTokenByte_any (c : Int) (w : World) (h0 : 0 ≤ c) (h1 : c ≤ 255) :
    Calls Tryz.prog 91 #[.int .u8 c] w fun e w' => e = .returned (.bool (Ch.token c)) ∧ w' = w := by
  have HT : Hid (Ch.oneOf c Ch.tokens = Ch.token c) := Ch.oneOf_tokens c h0 h1
  have hm := one_any c ⟨Ch.tokens.toArray⟩ w (by decide)
  go_enter Tryz.func91, Tryz.ntmps91
  go_wp2_with fail
  refine hm.mono ?_
  rintro e w' ⟨rfl, rfl⟩
  go_wp2
  go_ret
  exact ⟨ret_bool HT.out, rfl⟩
end Go.Proofs.YtkafbifogdoneacGreatDoor
