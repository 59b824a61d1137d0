/- Small texts, one behind the other: CsAllV, CsIsVis, CsNum10, CsLower, RfOne, RfTokB, RfTokT, RfSeen, RfSeenT, RfSmall, RfTrim, RfFText. -/
import Derived.Test.YtkafbifogdoneacGreatDoorPk10
import Derived.Test.YtkafbifogdoneacGreatDoorPk1
import Derived.Test.YtkafbifogdoneacGreatDoorBase
import Derived.Test.YtkafbifogdoneacGreatDoorProg
/- Package chars, walked: all, of Visible. -/
namespace Go.Proofs.YtkafbifogdoneacGreatDoor
open Go.RowKit

set_option maxHeartbeats 400000 in
theorem all_visible (s : ByteArray) (w : World) (hs : s.size ≤ maxLen) :
    Calls Tryz.prog 101 #[.string s, .func (.func 96) #[] #[]] w fun e w' => e = .returned (.bool (Ch.isVisible s.data.toList)) ∧ w' = w := by
  unfold maxLen at hs
  go_enter Tryz.func101, Tryz.ntmps101
  go_wp2
  go_loop [8] (fun i => ∃ k : Nat, k ≤ s.size ∧ i = .int .i64 k ∧ ((s.data.toList.take k).all fun b => Ch.visible b.toNat) = true) (fun i => s.size - (intOf i).toNat)
  case atStart => exact ⟨0, Nat.zero_le _, rfl, rfl⟩
  case round =>
    obtain ⟨k, hk, rfl, hno⟩ := hrel
    have HN : Hid (((s.data.toList.take k).all fun b => Ch.visible b.toNat) = true) := hno
    clear hno
    by_cases hlt : k < s.size
    · cases he : Ch.visible (s[k].toNat : Int)
      · have HE : Hid (Ch.visible (s[k].toNat : Int) = false) := he
        go_wp2_with (go_at_call 96; refine (visible_any _ _).mono ?_; rintro e w' ⟨rfl, rfl⟩)
        go_ret
        refine ⟨ret_bool ?_, rfl⟩
        exact (Ch.all_of_take (fun b => Ch.visible b.toNat) s k hlt HE.out).symm
      · have HE : Hid (Ch.visible (s[k].toNat : Int) = true) := he
        go_wp2_with (go_at_call 96; refine (visible_any _ _).mono ?_; rintro e w' ⟨rfl, rfl⟩)
        go_round
        case rel => exact ⟨k + 1, by omega, by go_num, by rw [Ch.take_snoc s k hlt, Ch.all_snoc, HN.out, HE.out]; rfl⟩
        case measure => simp [intOf]; omega
    · go_wp2
      go_ret
      refine ⟨ret_bool ?_, rfl⟩
      rw [← HN.out, Ch.take_all s k (by omega)]
      rfl
end Go.Proofs.YtkafbifogdoneacGreatDoor

/- Package chars, walked: IsVisible. -/
namespace Go.Proofs.YtkafbifogdoneacGreatDoor
open Go.RowKit

set_option maxHeartbeats 400000 in
theorem isVisible_any (s : ByteArray) (w : World) (hs : s.size ≤ maxLen) :
    Calls Tryz.prog 66 #[.string s] w fun e w' => e = .returned (.bool (Ch.isVisible s.data.toList)) ∧ w' = w := by
  go_enter Tryz.func66, Tryz.ntmps66
  go_wp2_with (go_at_call 101; refine (all_visible _ _ hs).mono ?_; rintro e w' ⟨rfl, rfl⟩)
  go_ret
  exact ⟨rfl, rfl⟩
end Go.Proofs.YtkafbifogdoneacGreatDoor

/- Package chars, walked: Number. -/
namespace Go.Proofs.YtkafbifogdoneacGreatDoor
open Go.RowKit

set_option maxHeartbeats 400000 in
theorem number10_any (s : ByteArray) (w : World) (hs : s.size ≤ maxLen) :
    Calls Tryz.prog 189 #[.string s] w fun e w' => e = .returned (.tuple #[.int .i64 (Ch.number 10 9 s.data.toList).1, .bool (Ch.number 10 9 s.data.toList).2]) ∧ w' = w := by
  have h := number_any s 10 9 w hs (by decide) (by decide) (by decide) (by decide)
  generalize Ch.number 10 9 s.data.toList = p at h
  go_enter Tryz.func189, Tryz.ntmps189
  go_wp2_with (go_at_call 200; refine h.mono ?_; rintro e w' ⟨rfl, rfl⟩)
  go_ret2
  exact ⟨rfl, rfl⟩
end Go.Proofs.YtkafbifogdoneacGreatDoor

/- Package chars, walked: Lower. -/
namespace Go.Proofs.YtkafbifogdoneacGreatDoor
open Go.RowKit

/-- the bytes when the first k were looked at -/
def lowCell (s : ByteArray) (k j : Nat) : Value := .int .u8 ((if j < k then Ch.lowB (s.data.toList.getD j 0) else s.data.toList.getD j 0).toNat : Int)

theorem lowCell_same (s : ByteArray) (k j : Nat) (h : Ch.lowB (s.data.toList.getD k 0) = s.data.toList.getD k 0) : some (lowCell s k j) = some (lowCell s (k + 1) j) := by
  unfold lowCell
  by_cases h1 : j < k
  · rw [if_pos h1, if_pos (by omega)]
  · by_cases h2 : j = k
    · subst h2; rw [if_neg h1, if_pos (by omega), h]
    · rw [if_neg h1, if_neg (by omega)]

theorem lowCell_other (s : ByteArray) (k j : Nat) (h : j ≠ k) : some (lowCell s k j) = some (lowCell s (k + 1) j) := by
  unfold lowCell
  by_cases h1 : j < k
  · rw [if_pos h1, if_pos (by omega)]
  · rw [if_neg h1, if_neg (by omega)]

set_option maxHeartbeats 800000 in
theorem lower_any (s : ByteArray) (w : World) (hs : s.size ≤ maxLen) :
    Calls Tryz.prog 153 #[.string s] w fun e w' => e = .returned (.string ⟨(Ch.lower s.data.toList).toArray⟩) ∧ Below w.heap.size w w' := by
  unfold maxLen at hs
  have hconv := run_bytes_of_string (P := Tryz.prog) w 9 22 5 s Tryz.underlying9 Tryz.underlying22 Tryz.underlying5
  generalize grownCap w s.size 0 5 = cap at hconv
  have hat : ∀ j, j < s.size → (bytesRow s cap)[j]? = some (lowCell s 0 j) := fun j hj => by
    rw [bytesRow_at s cap j hj]
    unfold lowCell
    rw [if_neg (by omega)]
    have e : s.data.toList.getD j 0 = s.data[j]'hj := by
      simp [List.getD, hj]
    rw [e]
  have hsz : s.size ≤ (bytesRow s cap).size := by unfold bytesRow; simp
  generalize bytesRow s cap = C at hconv hat hsz
  go_enter Tryz.func153, Tryz.ntmps153
  go_wp2
  have hB0 : Below w.heap.size w (w.alloc (.cells C 5 (C.size, C.size + 1))).drew := ((Below.refl _ _).alloc (Nat.le_refl _) _).drew
  have hc0 : ∀ j, j < s.size → ((w.alloc (.cells C 5 (C.size, C.size + 1))).drew).cell? ⟨w.heap.size, j, none⟩ = some (lowCell s 0 j) := fun j hj => by
    rw [← hat j hj]; exact World.cell?_alloc_mark w C 5 _ j
  have hf0 : ∀ j, j < s.size → ((w.alloc (.cells C 5 (C.size, C.size + 1))).drew).frozen? ⟨w.heap.size, j, none⟩ = false := fun j hj => by
    refine (World.frozen?_alloc_mark w C 5 C.size (C.size + 1) j).trans ?_
    rw [decide_eq_false (by omega)]; rfl
  clear hconv hat
  go_loopw [10] (fun i wr => ∃ k : Nat, k ≤ s.size ∧ i = .int .i64 k ∧ Below w.heap.size w wr ∧ (∀ j, j < s.size → wr.cell? ⟨w.heap.size, j, none⟩ = some (lowCell s k j)) ∧ (∀ j, j < s.size → wr.frozen? ⟨w.heap.size, j, none⟩ = false)) (fun i _ => s.size - (intOf i).toNat)
  case atStart => exact ⟨0, Nat.zero_le _, rfl, hB0, hc0, hf0⟩
  case round =>
    obtain ⟨k, hk, rfl, hbl, hcs, hfs⟩ := hrel
    clear hB0 hc0 hf0 hsz
    have HC : Hid (∀ j, j < s.size → wr.cell? ⟨w.heap.size, j, none⟩ = some (lowCell s k j)) := hcs
    have HF : Hid (∀ j, j < s.size → wr.frozen? ⟨w.heap.size, j, none⟩ = false) := hfs
    clear hcs hfs
    by_cases hlt : k < s.size
    · have hb := s[k].toNat_lt
      have e0 : s.data.toList.getD k 0 = s[k] := by
        have : s.data.toList[k]? = some s[k] := List.getElem?_eq_getElem (by simpa using hlt)
        simp [List.getD, this]
      have hcell : wr.cell? ⟨w.heap.size, k, none⟩ = some (.int .u8 s[k].toNat) := by
        rw [HC.out k hlt]; unfold lowCell; rw [if_neg (by omega), e0]
      have hfz := HF.out k hlt
      have H0 : Hid (s.data.toList.getD k 0 = s[k]) := e0
      clear e0
      cases hcap : Ch.capital s[k].toNat
      · have HL : Hid (Ch.lowB s[k] = s[k]) := Ch.lowB_no _ hcap
        go_wp2_with (go_at_call 172; refine (capital_any _ _).mono ?_; rintro e w' ⟨rfl, rfl⟩)
        go_roundw
        case rel => exact ⟨k + 1, by omega, by go_num, hbl, fun j hj => by rw [HC.out j hj]; exact lowCell_same s k j (by rw [H0.out, HL.out]), HF.out⟩
        case measure => simp [intOf]; omega
      · have HL : Hid (((Ch.lowB s[k]).toNat : Int) = s[k].toNat - 65 + 97) := Ch.lowB_yes _ hcap
        have hcr : 65 ≤ s[k].toNat ∧ s[k].toNat ≤ 90 := by
          unfold Ch.capital at hcap; rw [Bool.and_eq_true, decide_eq_true_eq, decide_eq_true_eq] at hcap; omega
        go_wp2_with (go_at_call 172; refine (capital_any _ _).mono ?_; rintro e w' ⟨rfl, rfl⟩)
        go_roundw
        case rel =>
          refine ⟨k + 1, by omega, by go_num, hbl.setCell (Nat.le_refl _) _, fun j hj => ?_, fun j hj => by rw [World.frozen?_setCell]; exact HF.out j hj⟩
          by_cases hjk : j = k
          · subst hjk
            rw [World.cell?_setCell_same (h := hcell)]
            unfold lowCell
            rw [if_pos (by omega), H0.out, HL.out]
          · rw [World.cell?_setCell_other (h := by intro h; injection h with _ h2; exact hjk h2.symm), HC.out j hj]
            exact lowCell_other s k j hjk
        case measure => simp [intOf]; omega
    · obtain rfl : k = s.size := by omega
      have hback : (convert 22 9 (.slice (some ⟨w.heap.size, 0, none⟩) s.size cap)).run Tryz.prog wr = .ok (.string ⟨(Ch.lower s.data.toList).toArray⟩) wr := by
        have h := run_convert_bytes_back (P := Tryz.prog) wr 22 9 5 ⟨w.heap.size, 0, none⟩ cap (Ch.lower s.data.toList) Tryz.underlying22 Tryz.underlying5 Tryz.underlying9 (fun j hj => by
          have hj' : j < s.size := by rw [Ch.lower_length, Ch.len_list] at hj; exact hj
          have ha : ((⟨w.heap.size, 0, none⟩ : Addr).add j) = ⟨w.heap.size, j, none⟩ := by unfold Addr.add; simp; omega
          rw [ha, HC.out j hj']
          unfold lowCell
          rw [if_pos hj']
          have e : (Ch.lower s.data.toList)[j] = Ch.lowB (s.data.toList.getD j 0) := by
            simp [Ch.lower, List.getD, hj']
          rw [e])
        rw [Ch.lower_length, Ch.len_list] at h
        exact h
      clear HC HF
      generalize hr : (⟨(Ch.lower s.data.toList).toArray⟩ : ByteArray) = r at hback
      have HR : Hid ((⟨(Ch.lower s.data.toList).toArray⟩ : ByteArray) = r) := hr
      clear hr
      go_wp2
      go_ret
      exact ⟨ret_str HR.out.symm, hbl⟩
end Go.Proofs.YtkafbifogdoneacGreatDoor

/- The document's own answer, walked: one. -/
namespace Go.Proofs.YtkafbifogdoneacGreatDoor
open Go.RowKit

set_option maxHeartbeats 400000 in
theorem one_any (c : Int) (s : ByteArray) (w : World) (hs : s.size ≤ maxLen) :
    Calls Tryz.prog 60 #[.int .u8 c, .string s] w fun e w' => e = .returned (.bool (Ch.oneOf c s.data.toList)) ∧ w' = w := by
  unfold maxLen at hs
  go_enter Tryz.func60, Tryz.ntmps60
  go_wp2
  go_loop [5] (fun i => ∃ k : Nat, k ≤ s.size ∧ i = .int .i64 k ∧ Ch.oneOf c (s.data.toList.take k) = false) (fun i => s.size - (intOf i).toNat)
  case atStart => exact ⟨0, Nat.zero_le _, rfl, rfl⟩
  case round =>
    obtain ⟨k, hk, rfl, hno⟩ := hrel
    have HN : Hid (Ch.oneOf c (s.data.toList.take k) = false) := hno
    clear hno
    by_cases hlt : k < s.size
    · by_cases he : ((s[k].toNat : Int)) = c
      · have HE : Hid ((s[k].toNat : Int) = c) := he
        have hb : (((s[k].toNat : Int)) == c) = true := beq_iff_eq.2 he
        clear he
        go_wp2
        go_ret
        refine ⟨ret_bool ?_, rfl⟩
        exact (Ch.any_of_take (fun b => (b.toNat : Int) == c) s k hlt (beq_iff_eq.2 HE.out)).symm
      · have hb : (((s[k].toNat : Int)) == c) = false := beq_eq_false_iff_ne.2 he
        have HB : Hid ((((s[k].toNat : Int)) == c) = false) := hb
        clear he
        go_wp2
        go_round
        case rel => exact ⟨k + 1, by omega, by go_num, by rw [Ch.take_snoc s k hlt, Ch.oneOf_snoc, HN.out, HB.out]; rfl⟩
        case measure => simp [intOf]; omega
    · go_wp2
      go_ret
      refine ⟨ret_bool ?_, rfl⟩
      rw [← HN.out, Ch.take_all s k (by omega)]
end Go.Proofs.YtkafbifogdoneacGreatDoor

/- The document's own answer, walked: IsTokenByte. -/
namespace Go.Proofs.YtkafbifogdoneacGreatDoor
open Go.RowKit

set_option maxHeartbeats 1000000 in
theorem isTokenByte_any (c : Int) (w : World) (h0 : 0 ≤ c) (h1 : c ≤ 255) :
    Calls Tryz.prog 91 #[.int .u8 c] w fun e w' => e = .returned (.bool (Ch.token c)) ∧ w' = w := by
  have HT : Hid (Ch.oneOf c Ch.tokens = Ch.token c) := Ch.oneOf_tokens c h0 h1
  have hm := one_any c ⟨Ch.tokens.toArray⟩ w (by decide)
  go_enter Tryz.func91, Tryz.ntmps91
  go_wp2_with fail
  refine hm.mono ?_
  rintro e w' ⟨rfl, rfl⟩
  go_wp2
  go_ret
  exact ⟨ret_bool HT.out, rfl⟩
end Go.Proofs.YtkafbifogdoneacGreatDoor

/- The document's own answer, walked: TokenText. -/
namespace Go.Proofs.YtkafbifogdoneacGreatDoor
open Go.RowKit

set_option maxHeartbeats 400000 in
theorem tokenText_any (s : ByteArray) (w : World) (hs : s.size ≤ maxLen) :
    Calls Tryz.prog 53 #[.string s] w fun e w' => e = .returned (.bool (Ch.isToken s.data.toList)) ∧ w' = w := by
  unfold maxLen at hs
  go_enter Tryz.func53, Tryz.ntmps53
  go_wp2
  go_loop [3] (fun i => ∃ k : Nat, k ≤ s.size ∧ i = .int .i64 k ∧ ((s.data.toList.take k).all fun b => Ch.token b.toNat) = true) (fun i => s.size - (intOf i).toNat)
  case atStart => exact ⟨0, Nat.zero_le _, rfl, rfl⟩
  case round =>
    obtain ⟨k, hk, rfl, hno⟩ := hrel
    have HN : Hid (((s.data.toList.take k).all fun b => Ch.token b.toNat) = true) := hno
    clear hno
    by_cases hlt : k < s.size
    · have hb := s[k].toNat_lt
      cases he : Ch.token (s[k].toNat : Int)
      · have HE : Hid (Ch.token (s[k].toNat : Int) = false) := he
        go_wp2_with (go_at_call 91; refine (isTokenByte_any _ _ (by omega) (by omega)).mono ?_; rintro e w' ⟨rfl, rfl⟩)
        go_ret
        refine ⟨ret_bool ?_, rfl⟩
        unfold Ch.isToken
        rw [Ch.all_of_take (fun b => Ch.token b.toNat) s k hlt HE.out]; simp
      · have HE : Hid (Ch.token (s[k].toNat : Int) = true) := he
        go_wp2_with (go_at_call 91; refine (isTokenByte_any _ _ (by omega) (by omega)).mono ?_; rintro e w' ⟨rfl, rfl⟩)
        go_round
        case rel => exact ⟨k + 1, by omega, by go_num, by rw [Ch.take_snoc s k hlt, Ch.all_snoc, HN.out, HE.out]; rfl⟩
        case measure => simp [intOf]; omega
    · go_wp2
      go_ret
      refine ⟨ret_bool ?_, rfl⟩
      have h : ((s.data.toList).all fun b => Ch.token b.toNat) = true := by rw [← HN.out, Ch.take_all s k (by omega)]
      unfold Ch.isToken
      rw [h]
      by_cases hz : s.size = 0
      · obtain rfl := Ch.empty_eq s hz
        rfl
      · rw [← Lib.toList_data, Ch.isEmpty_false s (by omega)]
        simp; omega
end Go.Proofs.YtkafbifogdoneacGreatDoor

/- The document's own answer, walked: IsSeen. -/
namespace Go.Proofs.YtkafbifogdoneacGreatDoor
open Go.RowKit

set_option maxHeartbeats 400000 in
theorem isSeen_any (c : Int) (w : World) :
    Calls Tryz.prog 80 #[.int .u8 c] w fun e w' => e = .returned (.bool (Ch.visible c)) ∧ w' = w := by
  by_cases h9 : c = 9
  · subst h9
    go_enter Tryz.func80, Tryz.ntmps80
    go_wp2
    go_ret
    exact ⟨ret_bool (by decide), rfl⟩
  · have h9' : (c == 9) = false := beq_eq_false_iff_ne.2 h9
    go_enter Tryz.func80, Tryz.ntmps80
    go_wp2
    all_goals go_ret
    all_goals refine ⟨ret_bool ?_, rfl⟩
    all_goals (unfold Ch.visible; rw [h9']; first | (rw [decide_eq_true (show 32 ≤ c by omega)]; simp) | (rw [decide_eq_false (show ¬ 32 ≤ c by omega)]; simp))
end Go.Proofs.YtkafbifogdoneacGreatDoor

/- The document's own answer, walked: SeenText. -/
namespace Go.Proofs.YtkafbifogdoneacGreatDoor
open Go.RowKit

set_option maxHeartbeats 400000 in
theorem seenText_any (s : ByteArray) (w : World) (hs : s.size ≤ maxLen) :
    Calls Tryz.prog 55 #[.string s] w fun e w' => e = .returned (.bool (Ch.isVisible s.data.toList)) ∧ w' = w := by
  unfold maxLen at hs
  go_enter Tryz.func55, Tryz.ntmps55
  go_wp2
  go_loop [3] (fun i => ∃ k : Nat, k ≤ s.size ∧ i = .int .i64 k ∧ ((s.data.toList.take k).all fun b => Ch.visible b.toNat) = true) (fun i => s.size - (intOf i).toNat)
  case atStart => exact ⟨0, Nat.zero_le _, rfl, rfl⟩
  case round =>
    obtain ⟨k, hk, rfl, hno⟩ := hrel
    have HN : Hid (((s.data.toList.take k).all fun b => Ch.visible b.toNat) = true) := hno
    clear hno
    by_cases hlt : k < s.size
    · have hb := s[k].toNat_lt
      cases he : Ch.visible (s[k].toNat : Int)
      · have HE : Hid (Ch.visible (s[k].toNat : Int) = false) := he
        go_wp2_with (go_at_call 80; refine (isSeen_any _ _).mono ?_; rintro e w' ⟨rfl, rfl⟩)
        go_ret
        refine ⟨ret_bool ?_, rfl⟩
        exact (Ch.all_of_take (fun b => Ch.visible b.toNat) s k hlt HE.out).symm
      · have HE : Hid (Ch.visible (s[k].toNat : Int) = true) := he
        go_wp2_with (go_at_call 80; refine (isSeen_any _ _).mono ?_; rintro e w' ⟨rfl, rfl⟩)
        go_round
        case rel => exact ⟨k + 1, by omega, by go_num, by rw [Ch.take_snoc s k hlt, Ch.all_snoc, HN.out, HE.out]; rfl⟩
        case measure => simp [intOf]; omega
    · go_wp2
      go_ret
      refine ⟨ret_bool ?_, rfl⟩
      unfold Ch.isVisible
      rw [← HN.out, Ch.take_all s k (by omega)]
end Go.Proofs.YtkafbifogdoneacGreatDoor

/- The document's own answer, walked: Small. -/
namespace Go.Proofs.YtkafbifogdoneacGreatDoor
open Go.RowKit

set_option maxHeartbeats 400000 in
theorem small_any (s : ByteArray) (w : World) (hs : s.size ≤ 2000) :
    Calls Tryz.prog 59 #[.string s] w fun e w' => e = .returned (.string ⟨(Ch.lower s.data.toList).toArray⟩) ∧ ∃ n, w' = w.drewN n := by
  go_enter Tryz.func59, Tryz.ntmps59
  go_wp2
  go_loopw [3, 4] (fun o i wr => ∃ k n : Nat, ∃ x : ByteArray, k ≤ s.size ∧ i = .int .i64 k ∧ o = .string x ∧ x.data.toList = Ch.lower (s.data.toList.take k) ∧ wr = w.drewN n) (fun _ i _ => s.size - (intOf i).toNat)
  case atStart => exact ⟨0, 0, ⟨#[]⟩, Nat.zero_le _, rfl, rfl, rfl, rfl⟩
  case round =>
    obtain ⟨k, n, x, hk, rfl, rfl, hx, rfl⟩ := hrel
    have hxs : x.size ≤ 2000 := by
      have := Ch.size_of_list hx
      rw [Ch.lower_length] at this
      have h2 : (s.data.toList.take k).length ≤ k := List.length_take_le _ _
      omega
    have HX : Hid (x.data.toList = Ch.lower (s.data.toList.take k)) := hx
    clear hx
    by_cases hlt : k < s.size
    · go_wp2
      go_loopw [5, 6] (fun c i wr => ∃ j n : Nat, ∃ y : ByteArray, j ≤ 26 ∧ i = .int .i64 j ∧ c = .string y ∧ y.data.toList = [Ch.lowTo s[k] j] ∧ wr = w.drewN n) (fun _ i _ => 26 - (intOf i).toNat)
      case atStart => exact ⟨0, n, _, Nat.zero_le _, rfl, rfl, by rw [Ch.one_at s k hlt, Ch.lowTo_zero], rfl⟩
      case round =>
        obtain ⟨j, n, y, hj, rfl, rfl, hy, rfl⟩ := hrel
        have hys : y.size ≤ 1 := by have := Ch.size_of_list hy; simp at this; omega
        have HY : Hid (y.data.toList = [Ch.lowTo s[k] j]) := hy
        clear hy
        by_cases hlj : j < 26
        · go_wp2
          go_quiet (fail)
          go_wp2
          · have he : (((((⟨#[65, 66, 67, 68, 69, 70, 71, 72, 73, 74, 75, 76, 77, 78, 79, 80, 81, 82, 83, 84, 85, 86, 87, 88, 89, 90]⟩ : ByteArray)[j]'hlj).toNat : Nat) : Int) == (s[k].toNat : Int)) = true := by assumption
            go_roundw
            case rel => exact ⟨j + 1, n + nq, _, by omega, by go_num, rfl, Ch.lowTo_hit _ _ hlj he, by simp [World.drewN]⟩
            case measure => simp [intOf]; omega
          · have he : (((((⟨#[65, 66, 67, 68, 69, 70, 71, 72, 73, 74, 75, 76, 77, 78, 79, 80, 81, 82, 83, 84, 85, 86, 87, 88, 89, 90]⟩ : ByteArray)[j]'hlj).toNat : Nat) : Int) == (s[k].toNat : Int)) = false := by assumption
            go_roundw
            case rel => exact ⟨j + 1, n + nq, y, by omega, by go_num, rfl, by rw [HY.out, Ch.lowTo_miss _ _ hlj he], by simp [World.drewN]⟩
            case measure => simp [intOf]; omega
        · obtain rfl : j = 26 := by omega
          go_wp2
          go_roundw
          case rel => exact ⟨k + 1, n, x ++ y, by omega, by go_num, rfl, by rw [Ch.data_append, HX.out, HY.out, Ch.take_snoc s k hlt, Ch.lower_snoc]; rfl, rfl⟩
          case measure => simp [intOf]; omega
    · go_wp2
      go_ret
      exact ⟨ret_str (Ch.str_eq (by rw [HX.out, Ch.take_all s k (by omega)])), n, rfl⟩
end Go.Proofs.YtkafbifogdoneacGreatDoor

/- The document's own answer, walked: Trimmed. -/
namespace Go.Proofs.YtkafbifogdoneacGreatDoor
open Go.RowKit

set_option maxHeartbeats 400000 in
theorem trimmed_any (s : ByteArray) (w : World) (hs : s.size ≤ maxLen) :
    Calls Tryz.prog 65 #[.string s] w fun e w' => e = .returned (.string ⟨(Lib.trimS s.data.toList Ch.ws).toArray⟩) ∧ w' = w := by
  unfold maxLen at hs
  go_enter Tryz.func65, Tryz.ntmps65
  go_wp2
  go_loop [0] (fun v => ∃ x : ByteArray, v = .string x ∧ x.size ≤ s.size ∧ Lib.trimLeftS x.data.toList Ch.ws = Lib.trimLeftS s.data.toList Ch.ws) (fun v => strLen v)
  case atStart => exact ⟨s, rfl, Nat.le_refl _, rfl⟩
  case round =>
    obtain ⟨x, rfl, hxs, hx⟩ := hrel
    have HX : Hid (Lib.trimLeftS x.data.toList Ch.ws = Lib.trimLeftS s.data.toList Ch.ws) := hx
    clear hx
    by_cases hgo : ∃ h : 0 < x.size, Ch.ws.contains (x[0]'h) = true
    · obtain ⟨h0, hp⟩ := hgo
      have hpos : decide ((0 : Int) < (x.size : Int)) = true := decide_eq_true (by omega)
      have HP : Hid (Ch.ws.contains (x[0]'h0) = true) := hp
      rw [Ch.ws_eq] at hp
      cases h32 : (((x[0]'h0).toNat : Int) == 32)
      · rw [h32, Bool.false_or] at hp
        go_wp2
        go_round
        case rel => exact ⟨x.extract 1 x.size, rfl, by simp; omega, by rw [Lib.extract_to_end, Ch.left_step x h0 HP.out, HX.out]⟩
        case measure => simp [strLen]; omega
      · clear hp
        go_wp2
        go_round
        case rel => exact ⟨x.extract 1 x.size, rfl, by simp; omega, by rw [Lib.extract_to_end, Ch.left_step x h0 HP.out, HX.out]⟩
        case measure => simp [strLen]; omega
    · have hstop : ∀ h : 0 < x.size, Ch.ws.contains (x[0]'h) = false := fun h => by
        cases e : Ch.ws.contains (x[0]'h)
        · rfl
        · exact absurd ⟨h, e⟩ hgo
      have HD : Hid (x.data.toList = Lib.trimLeftS s.data.toList Ch.ws) := (Ch.left_stop x hstop).symm.trans HX.out
      clear hgo HX
      have hne : x.size = 0 ∨ (0 < x.size ∧ ∀ h : 0 < x.size, (((x[0]'h).toNat : Int) == 32) = false ∧ (((x[0]'h).toNat : Int) == 9) = false) := by
        rcases Nat.eq_zero_or_pos x.size with h | h
        · exact Or.inl h
        · refine Or.inr ⟨h, fun h' => ?_⟩
          have := hstop h'
          rw [Ch.ws_eq, Bool.or_eq_false_iff] at this
          exact this
      clear hstop
      rcases hne with hz | ⟨h0, hne⟩
      · have hpos : decide ((0 : Int) < (x.size : Int)) = false := decide_eq_false (by omega)
        obtain rfl := Ch.empty_eq x hz
        go_wp2
        refine wp_loop_rounds 1 ?_
        rw [rounds_succ]
        go_wp2
        go_ret
        refine ⟨ret_str ?_, rfl⟩
        rw [← Ch.trim_both, ← HD.out]
        rfl
      · have hpos : decide ((0 : Int) < (x.size : Int)) = true := decide_eq_true (by omega)
        have h32 := (hne h0).1
        have h9 := (hne h0).2
        clear hne
        go_wp2
        go_loop [0] (fun v => ∃ y : ByteArray, v = .string y ∧ y.size ≤ x.size ∧ Lib.trimRightS y.data.toList Ch.ws = Lib.trimRightS x.data.toList Ch.ws) (fun v => strLen v)
        case atStart => exact ⟨x, rfl, Nat.le_refl _, rfl⟩
        case round =>
          obtain ⟨y, rfl, hys, hy⟩ := hrel
          have HY : Hid (Lib.trimRightS y.data.toList Ch.ws = Lib.trimRightS x.data.toList Ch.ws) := hy
          clear hy h32 h9 hpos
          by_cases hgo : ∃ h : 0 < y.size, Ch.ws.contains (y[y.size - 1]'(by omega)) = true
          · obtain ⟨hy0, hp⟩ := hgo
            have hypos : decide ((0 : Int) < (y.size : Int)) = true := decide_eq_true (by omega)
            have HP : Hid (Ch.ws.contains (y[y.size - 1]'(by omega)) = true) := hp
            rw [Ch.ws_eq] at hp
            cases hy32 : (((y[y.size - 1]'(by omega)).toNat : Int) == 32)
            · rw [hy32, Bool.false_or] at hp
              go_wp2
              go_round
              case rel => exact ⟨y.extract 0 (y.size - 1), rfl, by simp; omega, by rw [Lib.extract_data, List.drop_zero, Nat.sub_zero, Ch.right_step y hy0 HP.out, HY.out]⟩
              case measure => simp [strLen]; omega
            · clear hp
              go_wp2
              go_round
              case rel => exact ⟨y.extract 0 (y.size - 1), rfl, by simp; omega, by rw [Lib.extract_data, List.drop_zero, Nat.sub_zero, Ch.right_step y hy0 HP.out, HY.out]⟩
              case measure => simp [strLen]; omega
          · have hstop : ∀ h : 0 < y.size, Ch.ws.contains (y[y.size - 1]'(by omega)) = false := fun h => by
              cases e : Ch.ws.contains (y[y.size - 1]'(by omega))
              · rfl
              · exact absurd ⟨h, e⟩ hgo
            have HF : Hid (y = ⟨(Lib.trimS s.data.toList Ch.ws).toArray⟩) := Ch.str_eq (by rw [← Ch.trim_both, ← HD.out, ← HY.out, Ch.right_stop y hstop])
            clear hgo HY HD
            rcases Nat.eq_zero_or_pos y.size with hz | hy0
            · have hypos : decide ((0 : Int) < (y.size : Int)) = false := decide_eq_false (by omega)
              go_wp2
              go_ret
              exact ⟨ret_str HF.out, rfl⟩
            · have hypos : decide ((0 : Int) < (y.size : Int)) = true := decide_eq_true (by omega)
              have hst := hstop hy0
              rw [Ch.ws_eq, Bool.or_eq_false_iff] at hst
              have hy32 := hst.1
              have hy9 := hst.2
              clear hst hstop
              go_wp2
              go_ret
              exact ⟨ret_str HF.out, rfl⟩
end Go.Proofs.YtkafbifogdoneacGreatDoor

/- The document's own answer, walked: FieldText. -/
namespace Go.Proofs.YtkafbifogdoneacGreatDoor
open Go.RowKit

set_option maxHeartbeats 1600000 in
theorem fieldText_any (n v : ByteArray) (w : World) (hn : n.size ≤ 1000000) (hv : v.size ≤ 1000000) :
    Calls Tryz.prog 56 #[.agg #[.string n, .string v]] w fun e w' => e = .returned (txVal (Fd.text n.data.toList v.data.toList)) ∧ Below w.heap.size w w' := by
  have HT := Hid.mk' (fun W => tokenText_any n W (by unfold maxLen; omega))
  have HV := Hid.mk' (fun W => seenText_any v W (by unfold maxLen; omega))
  have HTr := Hid.mk' (fun W => trimmed_any v W (by unfold maxLen; omega))
  have hln : n.data.toList.length = n.size := by rw [Array.length_toList]; rfl
  have hlv : v.data.toList.length = v.size := by rw [Array.length_toList]; rfl
  have hof : Fd.text n.data.toList v.data.toList = if Ch.isToken n.data.toList = false then ([], 6) else if 40 < n.size ∨ 200 < n.size + 2 + v.size then ([], 4) else if Ch.isVisible v.data.toList = false ∨ Lib.trimS v.data.toList Ch.ws ≠ v.data.toList then ([], 3) else (n.data.toList ++ [58, 32] ++ v.data.toList, 0) := by
    unfold Fd.text; rw [hln, hlv]
  clear hln hlv
  have HO := Hid.mk' hof
  clear hof
  cases ht : Ch.isToken n.data.toList
  · rw [ht] at HT
    have HR : Hid (Fd.text n.data.toList v.data.toList = ([], 6)) := by have := HO.out; rw [if_pos ht] at this; exact this
    clear HO ht HV HTr
    go_enter Tryz.func56, Tryz.ntmps56
    go_wp2_with fail
    refine (HT.out _).mono ?_
    rintro e w3 ⟨rfl, hw⟩
    have hB := below_box ⟨0, hw⟩
    clear hw
    go_wp2
    go_ret2
    exact ⟨ret_tx HR.out rfl, hB⟩
  · rw [ht] at HT
    have h6 := HO.out
    rw [if_neg (by rw [ht]; simp)] at h6
    have HO6 := Hid.mk' h6
    clear HO ht h6
    by_cases h40 : 40 < n.size ∨ 200 < n.size + 2 + v.size
    · have HR : Hid (Fd.text n.data.toList v.data.toList = ([], 4)) := by have := HO6.out; rw [if_pos h40] at this; exact this
      clear HO6 HV HTr
      by_cases h4 : 40 < n.size
      · have t1 : decide ((n.size : Int) > 40) = true := by rw [decide_eq_true_eq]; omega
        go_enter Tryz.func56, Tryz.ntmps56
        go_wp2_with fail
        refine (HT.out _).mono ?_
        rintro e w3 ⟨rfl, hw⟩
        subst hw
        go_wp2
        go_ret2
        exact ⟨ret_tx HR.out rfl, below_box ⟨0, rfl⟩⟩
      · have t1 : decide ((n.size : Int) > 40) = false := by rw [decide_eq_false_iff_not]; omega
        have t2 : decide ((n.size : Int) + 2 + v.size > 200) = true := by rw [decide_eq_true_eq]; omega
        go_enter Tryz.func56, Tryz.ntmps56
        go_wp2_with fail
        refine (HT.out _).mono ?_
        rintro e w3 ⟨rfl, hw⟩
        subst hw
        go_wp2
        go_ret2
        exact ⟨ret_tx HR.out rfl, below_box ⟨0, rfl⟩⟩
    · have h4 := HO6.out
      rw [if_neg h40] at h4
      have HO4 := Hid.mk' h4
      clear HO6 h4
      have t1 : decide ((n.size : Int) > 40) = false := by rw [decide_eq_false_iff_not]; omega
      have t2 : decide ((n.size : Int) + 2 + v.size > 200) = false := by rw [decide_eq_false_iff_not]; omega
      have q1 : n.size ≤ 40 := by omega
      have q2 : v.size ≤ 198 := by omega
      clear h40
      cases hvi : Ch.isVisible v.data.toList
      · rw [hvi] at HV
        have HR : Hid (Fd.text n.data.toList v.data.toList = ([], 3)) := by have := HO4.out; rw [if_pos (Or.inl hvi)] at this; exact this
        clear HO4 hvi
        go_enter Tryz.func56, Tryz.ntmps56
        go_wp2_with fail
        refine (HT.out _).mono ?_
        rintro e w3 ⟨rfl, hw⟩
        subst hw
        go_wp2
        go_quiet ((first | (go_at_call 55; exact Calls.quiet_of_same (HV.out _)) | (go_at_call 65; exact Calls.quiet_of_same (HTr.out _))))
        go_wp2
        go_ret2
        exact ⟨ret_tx HR.out rfl, below_box ⟨_, rfl⟩⟩
      · rw [hvi] at HV
        by_cases htr : Lib.trimS v.data.toList Ch.ws = v.data.toList
        · have HR : Hid (Fd.text n.data.toList v.data.toList = (n.data.toList ++ [58, 32] ++ v.data.toList, 0)) := by have := HO4.out; rw [if_neg (by rw [hvi, htr]; simp)] at this; exact this
          have HE : Hid (n ++ ⟨#[58, 32]⟩ ++ v = ⟨(n.data.toList ++ [58, 32] ++ v.data.toList).toArray⟩) := Ch.str_eq (by rw [Ch.data_append, Ch.data_append])
          rw [htr] at HTr
          have hve : (⟨v.data.toList.toArray⟩ : ByteArray) = v := rfl
          rw [hve] at HTr
          clear HO4 hvi htr hve
          go_enter Tryz.func56, Tryz.ntmps56
          go_wp2_with fail
          refine (HT.out _).mono ?_
          rintro e w3 ⟨rfl, hw⟩
          subst hw
          go_wp2
          go_quiet ((first | (go_at_call 55; exact Calls.quiet_of_same (HV.out _)) | (go_at_call 65; exact Calls.quiet_of_same (HTr.out _))))
          go_wp2
          go_ret2
          exact ⟨ret_tx HR.out (by unfold txVal; rw [← HE.out]; rfl), below_box ⟨_, rfl⟩⟩
        · have HR : Hid (Fd.text n.data.toList v.data.toList = ([], 3)) := by have := HO4.out; rw [if_pos (Or.inr htr)] at this; exact this
          have hne : ((⟨(Lib.trimS v.data.toList Ch.ws).toArray⟩ : ByteArray).toList == v.toList) = false := by
            rw [Lib.toList_data, Lib.toList_data, beq_eq_false_iff_ne]; simpa using htr
          clear HO4 hvi htr
          generalize (⟨(Lib.trimS v.data.toList Ch.ws).toArray⟩ : ByteArray) = tv at HTr hne
          go_enter Tryz.func56, Tryz.ntmps56
          go_wp2_with fail
          refine (HT.out _).mono ?_
          rintro e w3 ⟨rfl, hw⟩
          subst hw
          go_wp2
          go_quiet ((first | (go_at_call 55; exact Calls.quiet_of_same (HV.out _)) | (go_at_call 65; exact Calls.quiet_of_same (HTr.out _))))
          go_wp2
          go_ret2
          exact ⟨ret_tx HR.out rfl, below_box ⟨_, rfl⟩⟩
end Go.Proofs.YtkafbifogdoneacGreatDoor
