/- Small texts, one behind the other: RpW, CsCap, CsLower, CsDigit, CsLetter, StIndexB, CsToken, CsAllT, CsIsTok, CsVis, CsAllV, CsIsVis. -/
import Derived.Test.YtjhbiipbmlpgoaaDoorPk1
import Derived.Test.YtjhbiipbmlpgoaaDoorBase
import Derived.Test.YtjhbiipbmlpgoaaDoorProg
import Derived.Lib.Bytealg
/- Package reply, walked: Word. -/
namespace Go.Proofs.YtjhbiipbmlpgoaaDoor
open Go.RowKit

set_option maxHeartbeats 1600000 in
theorem wordR_any (n : Int) (w : World) :
    Calls Tryd.prog 10 #[.int .i64 n] w fun e w' => e = .returned (.string ⟨(Rp.word n).toArray⟩) ∧ w' = w := by
  by_cases h0 : n = 200
  · subst h0
    go_enter Tryd.func10, Tryd.ntmps10
    go_wp2
    go_ret
    exact ⟨rfl, rfl⟩
  by_cases h1 : n = 201
  · subst h1
    go_enter Tryd.func10, Tryd.ntmps10
    go_wp2
    go_ret
    exact ⟨rfl, rfl⟩
  by_cases h2 : n = 204
  · subst h2
    go_enter Tryd.func10, Tryd.ntmps10
    go_wp2
    go_ret
    exact ⟨rfl, rfl⟩
  by_cases h3 : n = 400
  · subst h3
    go_enter Tryd.func10, Tryd.ntmps10
    go_wp2
    go_ret
    exact ⟨rfl, rfl⟩
  by_cases h4 : n = 404
  · subst h4
    go_enter Tryd.func10, Tryd.ntmps10
    go_wp2
    go_ret
    exact ⟨rfl, rfl⟩
  by_cases h5 : n = 405
  · subst h5
    go_enter Tryd.func10, Tryd.ntmps10
    go_wp2
    go_ret
    exact ⟨rfl, rfl⟩
  by_cases h6 : n = 409
  · subst h6
    go_enter Tryd.func10, Tryd.ntmps10
    go_wp2
    go_ret
    exact ⟨rfl, rfl⟩
  by_cases h7 : n = 412
  · subst h7
    go_enter Tryd.func10, Tryd.ntmps10
    go_wp2
    go_ret
    exact ⟨rfl, rfl⟩
  by_cases h8 : n = 413
  · subst h8
    go_enter Tryd.func10, Tryd.ntmps10
    go_wp2
    go_ret
    exact ⟨rfl, rfl⟩
  by_cases h9 : n = 415
  · subst h9
    go_enter Tryd.func10, Tryd.ntmps10
    go_wp2
    go_ret
    exact ⟨rfl, rfl⟩
  by_cases h10 : n = 507
  · subst h10
    go_enter Tryd.func10, Tryd.ntmps10
    go_wp2
    go_ret
    exact ⟨rfl, rfl⟩
  have HW : Hid (Rp.word n = []) := by
    refine Rp.look_no Rp.tab n (fun p hp => ?_)
    simp only [Rp.tab, List.mem_cons, List.not_mem_nil, or_false] at hp
    rcases hp with rfl | rfl | rfl | rfl | rfl | rfl | rfl | rfl | rfl | rfl | rfl
    all_goals (intro e; simp only at e; omega)
  have t0 : (n == 200) = false := by rw [beq_eq_false_iff_ne]; exact h0
  have t1 : (n == 201) = false := by rw [beq_eq_false_iff_ne]; exact h1
  have t2 : (n == 204) = false := by rw [beq_eq_false_iff_ne]; exact h2
  have t3 : (n == 400) = false := by rw [beq_eq_false_iff_ne]; exact h3
  have t4 : (n == 404) = false := by rw [beq_eq_false_iff_ne]; exact h4
  have t5 : (n == 405) = false := by rw [beq_eq_false_iff_ne]; exact h5
  have t6 : (n == 409) = false := by rw [beq_eq_false_iff_ne]; exact h6
  have t7 : (n == 412) = false := by rw [beq_eq_false_iff_ne]; exact h7
  have t8 : (n == 413) = false := by rw [beq_eq_false_iff_ne]; exact h8
  have t9 : (n == 415) = false := by rw [beq_eq_false_iff_ne]; exact h9
  have t10 : (n == 507) = false := by rw [beq_eq_false_iff_ne]; exact h10
  clear h0 h1 h2 h3 h4 h5 h6 h7 h8 h9 h10
  go_enter Tryd.func10, Tryd.ntmps10
  go_wp2
  go_ret
  exact ⟨by rw [HW.out]; rfl, rfl⟩
end Go.Proofs.YtjhbiipbmlpgoaaDoor

/- Package chars, walked: capital. -/
namespace Go.Proofs.YtjhbiipbmlpgoaaDoor
open Go.RowKit

set_option maxHeartbeats 400000 in
theorem capital_any (c : Int) (w : World) :
    Calls Tryd.prog 42 #[.int .u8 c] w fun e w' => e = .returned (.bool (Ch.capital c)) ∧ w' = w := by
  go_enter Tryd.func42, Tryd.ntmps42
  go_wp2
  all_goals go_ret
  all_goals refine ⟨ret_bool ?_, rfl⟩
  all_goals (simp [Ch.capital]; try omega)
end Go.Proofs.YtjhbiipbmlpgoaaDoor

/- Package chars, walked: Lower. -/
namespace Go.Proofs.YtjhbiipbmlpgoaaDoor
open Go.RowKit

/-- the bytes when the first k were looked at -/
def lowCell (s : ByteArray) (k j : Nat) : Value := .int .u8 ((if j < k then Ch.lowB (s.data.toList.getD j 0) else s.data.toList.getD j 0).toNat : Int)

theorem lowCell_same (s : ByteArray) (k j : Nat) (h : Ch.lowB (s.data.toList.getD k 0) = s.data.toList.getD k 0) : some (lowCell s k j) = some (lowCell s (k + 1) j) := by
  unfold lowCell
  by_cases h1 : j < k
  · rw [if_pos h1, if_pos (by omega)]
  · by_cases h2 : j = k
    · subst h2; rw [if_neg h1, if_pos (by omega), h]
    · rw [if_neg h1, if_neg (by omega)]

theorem lowCell_other (s : ByteArray) (k j : Nat) (h : j ≠ k) : some (lowCell s k j) = some (lowCell s (k + 1) j) := by
  unfold lowCell
  by_cases h1 : j < k
  · rw [if_pos h1, if_pos (by omega)]
  · rw [if_neg h1, if_neg (by omega)]

set_option maxHeartbeats 800000 in
theorem lower_any (s : ByteArray) (w : World) (hs : s.size ≤ maxLen) :
    Calls Tryd.prog 34 #[.string s] w fun e w' => e = .returned (.string ⟨(Ch.lower s.data.toList).toArray⟩) ∧ Below w.heap.size w w' := by
  unfold maxLen at hs
  have hconv := run_bytes_of_string (P := Tryd.prog) w 9 23 5 s Tryd.underlying9 Tryd.underlying23 Tryd.underlying5
  generalize grownCap w s.size 0 5 = cap at hconv
  have hat : ∀ j, j < s.size → (bytesRow s cap)[j]? = some (lowCell s 0 j) := fun j hj => by
    rw [bytesRow_at s cap j hj]
    unfold lowCell
    rw [if_neg (by omega)]
    have e : s.data.toList.getD j 0 = s.data[j]'hj := by
      simp [List.getD, hj]
    rw [e]
  have hsz : s.size ≤ (bytesRow s cap).size := by unfold bytesRow; simp
  generalize bytesRow s cap = C at hconv hat hsz
  go_enter Tryd.func34, Tryd.ntmps34
  go_wp2
  have hB0 : Below w.heap.size w (w.alloc (.cells C 5 (C.size, C.size + 1))).drew := ((Below.refl _ _).alloc (Nat.le_refl _) _).drew
  have hc0 : ∀ j, j < s.size → ((w.alloc (.cells C 5 (C.size, C.size + 1))).drew).cell? ⟨w.heap.size, j, none⟩ = some (lowCell s 0 j) := fun j hj => by
    rw [← hat j hj]; exact World.cell?_alloc_mark w C 5 _ j
  have hf0 : ∀ j, j < s.size → ((w.alloc (.cells C 5 (C.size, C.size + 1))).drew).frozen? ⟨w.heap.size, j, none⟩ = false := fun j hj => by
    refine (World.frozen?_alloc_mark w C 5 C.size (C.size + 1) j).trans ?_
    rw [decide_eq_false (by omega)]; rfl
  clear hconv hat
  go_loopw [10] (fun i wr => ∃ k : Nat, k ≤ s.size ∧ i = .int .i64 k ∧ Below w.heap.size w wr ∧ (∀ j, j < s.size → wr.cell? ⟨w.heap.size, j, none⟩ = some (lowCell s k j)) ∧ (∀ j, j < s.size → wr.frozen? ⟨w.heap.size, j, none⟩ = false)) (fun i _ => s.size - (intOf i).toNat)
  case atStart => exact ⟨0, Nat.zero_le _, rfl, hB0, hc0, hf0⟩
  case round =>
    obtain ⟨k, hk, rfl, hbl, hcs, hfs⟩ := hrel
    clear hB0 hc0 hf0 hsz
    have HC : Hid (∀ j, j < s.size → wr.cell? ⟨w.heap.size, j, none⟩ = some (lowCell s k j)) := hcs
    have HF : Hid (∀ j, j < s.size → wr.frozen? ⟨w.heap.size, j, none⟩ = false) := hfs
    clear hcs hfs
    by_cases hlt : k < s.size
    · have hb := s[k].toNat_lt
      have e0 : s.data.toList.getD k 0 = s[k] := by
        have : s.data.toList[k]? = some s[k] := List.getElem?_eq_getElem (by simpa using hlt)
        simp [List.getD, this]
      have hcell : wr.cell? ⟨w.heap.size, k, none⟩ = some (.int .u8 s[k].toNat) := by
        rw [HC.out k hlt]; unfold lowCell; rw [if_neg (by omega), e0]
      have hfz := HF.out k hlt
      have H0 : Hid (s.data.toList.getD k 0 = s[k]) := e0
      clear e0
      cases hcap : Ch.capital s[k].toNat
      · have HL : Hid (Ch.lowB s[k] = s[k]) := Ch.lowB_no _ hcap
        go_wp2_with (go_at_call 42; refine (capital_any _ _).mono ?_; rintro e w' ⟨rfl, rfl⟩)
        go_roundw
        case rel => exact ⟨k + 1, by omega, by go_num, hbl, fun j hj => by rw [HC.out j hj]; exact lowCell_same s k j (by rw [H0.out, HL.out]), HF.out⟩
        case measure => simp [intOf]; omega
      · have HL : Hid (((Ch.lowB s[k]).toNat : Int) = s[k].toNat - 65 + 97) := Ch.lowB_yes _ hcap
        have hcr : 65 ≤ s[k].toNat ∧ s[k].toNat ≤ 90 := by
          unfold Ch.capital at hcap; rw [Bool.and_eq_true, decide_eq_true_eq, decide_eq_true_eq] at hcap; omega
        go_wp2_with (go_at_call 42; refine (capital_any _ _).mono ?_; rintro e w' ⟨rfl, rfl⟩)
        go_roundw
        case rel =>
          refine ⟨k + 1, by omega, by go_num, hbl.setCell (Nat.le_refl _) _, fun j hj => ?_, fun j hj => by rw [World.frozen?_setCell]; exact HF.out j hj⟩
          by_cases hjk : j = k
          · subst hjk
            rw [World.cell?_setCell_same (h := hcell)]
            unfold lowCell
            rw [if_pos (by omega), H0.out, HL.out]
          · rw [World.cell?_setCell_other (h := by intro h; injection h with _ h2; exact hjk h2.symm), HC.out j hj]
            exact lowCell_other s k j hjk
        case measure => simp [intOf]; omega
    · obtain rfl : k = s.size := by omega
      have hback : (convert 23 9 (.slice (some ⟨w.heap.size, 0, none⟩) s.size cap)).run Tryd.prog wr = .ok (.string ⟨(Ch.lower s.data.toList).toArray⟩) wr := by
        have h := run_convert_bytes_back (P := Tryd.prog) wr 23 9 5 ⟨w.heap.size, 0, none⟩ cap (Ch.lower s.data.toList) Tryd.underlying23 Tryd.underlying5 Tryd.underlying9 (fun j hj => by
          have hj' : j < s.size := by rw [Ch.lower_length, Ch.len_list] at hj; exact hj
          have ha : ((⟨w.heap.size, 0, none⟩ : Addr).add j) = ⟨w.heap.size, j, none⟩ := by unfold Addr.add; simp; omega
          rw [ha, HC.out j hj']
          unfold lowCell
          rw [if_pos hj']
          have e : (Ch.lower s.data.toList)[j] = Ch.lowB (s.data.toList.getD j 0) := by
            simp [Ch.lower, List.getD, hj']
          rw [e])
        rw [Ch.lower_length, Ch.len_list] at h
        exact h
      clear HC HF
      generalize hr : (⟨(Ch.lower s.data.toList).toArray⟩ : ByteArray) = r at hback
      have HR : Hid ((⟨(Ch.lower s.data.toList).toArray⟩ : ByteArray) = r) := hr
      clear hr
      go_wp2
      go_ret
      exact ⟨ret_str HR.out.symm, hbl⟩
end Go.Proofs.YtjhbiipbmlpgoaaDoor

/- Package chars, walked: digit. -/
namespace Go.Proofs.YtjhbiipbmlpgoaaDoor
open Go.RowKit

set_option maxHeartbeats 400000 in
theorem digit_any (c : Int) (w : World) :
    Calls Tryd.prog 48 #[.int .u8 c] w fun e w' => e = .returned (.bool (Ch.digit c)) ∧ w' = w := by
  go_enter Tryd.func48, Tryd.ntmps48
  go_wp2
  all_goals go_ret
  all_goals refine ⟨ret_bool ?_, rfl⟩
  all_goals (simp [Ch.digit]; try omega)
end Go.Proofs.YtjhbiipbmlpgoaaDoor

/- Package chars, walked: Letter. -/
namespace Go.Proofs.YtjhbiipbmlpgoaaDoor
open Go.RowKit

set_option maxHeartbeats 400000 in
theorem letter_any (c : Int) (w : World) :
    Calls Tryd.prog 49 #[.int .u8 c] w fun e w' => e = .returned (.bool (Ch.letter c)) ∧ w' = w := by
  go_enter Tryd.func49, Tryd.ntmps49
  go_wp2_with (go_at_call 42; refine (capital_any _ _).mono ?_; rintro e w' ⟨rfl, rfl⟩)
  all_goals go_ret
  all_goals refine ⟨ret_bool ?_, rfl⟩
  all_goals (unfold Ch.letter; first | (rw [decide_eq_true (show 97 ≤ c by omega)]; simp; try omega) | (rw [decide_eq_false (show ¬ 97 ≤ c by omega)]; simp; try omega))
end Go.Proofs.YtjhbiipbmlpgoaaDoor

/- strings.IndexByte, walked. -/
namespace Go.Proofs.YtjhbiipbmlpgoaaDoor
open Go.RowKit

set_option maxHeartbeats 1000000 in
set_option maxRecDepth 100000 in
theorem sl_indexByte (s : ByteArray) (c : Int) (w : World) :
    Calls Tryd.prog 63 #[.string s, .int .u8 c] w fun e w' => e = .returned (.int .i64 (Lib.indexByte s.data.toList c.toNat.toUInt8)) ∧ w' = w := by
  go_enter Tryd.func63, Tryd.ntmps63
  go_wp2
  rw [run_callFunc_extern Tryd.func70 (by kernel_rfl) (by kernel_rfl) (by kernel_rfl) (e := Extern.BytealgIndexByte.indexByte) (by kernel_rfl), Lib.run_indexByteString]
  simp only [Result.andThen]
  rw [Oper.upon_value]
  go_wp2
  go_ret
  exact ⟨rfl, rfl⟩

set_option maxHeartbeats 400000 in
theorem indexByte_any (s : ByteArray) (c : Int) (w : World) :
    Calls Tryd.prog 50 #[.string s, .int .u8 c] w fun e w' => e = .returned (.int .i64 (Lib.indexByte s.data.toList c.toNat.toUInt8)) ∧ w' = w := by
  go_enter Tryd.func50, Tryd.ntmps50
  go_wp2_with (go_at_call 63; refine (sl_indexByte _ _ _).mono ?_; rintro e w' ⟨rfl, rfl⟩)
  go_ret
  exact ⟨rfl, rfl⟩
end Go.Proofs.YtjhbiipbmlpgoaaDoor

/- Package chars, walked: Token. -/
namespace Go.Proofs.YtjhbiipbmlpgoaaDoor
open Go.RowKit

set_option maxHeartbeats 400000 in
theorem token_any (c : Int) (w : World) :
    Calls Tryd.prog 38 #[.int .u8 c] w fun e w' => e = .returned (.bool (Ch.token c)) ∧ w' = w := by
  have hm := indexByte_any ⟨#[33, 35, 36, 37, 38, 39, 42, 43, 45, 46, 94, 95, 96, 124, 126]⟩ c w
  have HM : Hid (Lib.indexByte [33, 35, 36, 37, 38, 39, 42, 43, 45, 46, 94, 95, 96, 124, 126] c.toNat.toUInt8 = Lib.indexByte Ch.marks c.toNat.toUInt8) := rfl
  generalize (Lib.indexByte [33, 35, 36, 37, 38, 39, 42, 43, 45, 46, 94, 95, 96, 124, 126] c.toNat.toUInt8) = r at hm HM
  cases hd : Ch.digit c
  · cases hl : Ch.letter c
    all_goals
      have HH : Hid (Ch.token c = (Ch.digit c || Ch.letter c || decide (0 ≤ r))) := by rw [HM.out]; rfl
      go_enter Tryd.func38, Tryd.ntmps38
      go_wp2_with (first | (go_at_call 48; refine (digit_any _ _).mono ?_; rintro e w' ⟨rfl, rfl⟩) | (go_at_call 49; refine (letter_any _ _).mono ?_; rintro e w' ⟨rfl, rfl⟩) | (go_at_call 50; refine hm.mono ?_; rintro e w' ⟨rfl, rfl⟩))
      go_ret
      refine ⟨ret_bool ?_, rfl⟩
      rw [HH.out, hd, hl]
      simp
  · have HH : Hid (Ch.token c = (Ch.digit c || Ch.letter c || decide (0 ≤ r))) := by rw [HM.out]; rfl
    go_enter Tryd.func38, Tryd.ntmps38
    go_wp2_with (first | (go_at_call 48; refine (digit_any _ _).mono ?_; rintro e w' ⟨rfl, rfl⟩) | (go_at_call 49; refine (letter_any _ _).mono ?_; rintro e w' ⟨rfl, rfl⟩) | (go_at_call 50; refine hm.mono ?_; rintro e w' ⟨rfl, rfl⟩))
    go_ret
    refine ⟨ret_bool ?_, rfl⟩
    rw [HH.out, hd]
    simp
end Go.Proofs.YtjhbiipbmlpgoaaDoor

/- Package chars, walked: all, of Token. -/
namespace Go.Proofs.YtjhbiipbmlpgoaaDoor
open Go.RowKit

set_option maxHeartbeats 400000 in
theorem all_token (s : ByteArray) (w : World) (hs : s.size ≤ maxLen) :
    Calls Tryd.prog 37 #[.string s, .func (.func 38) #[] #[]] w fun e w' => e = .returned (.bool (Ch.allToken s.data.toList)) ∧ w' = w := by
  unfold maxLen at hs
  go_enter Tryd.func37, Tryd.ntmps37
  go_wp2
  go_loop [8] (fun i => ∃ k : Nat, k ≤ s.size ∧ i = .int .i64 k ∧ ((s.data.toList.take k).all fun b => Ch.token b.toNat) = true) (fun i => s.size - (intOf i).toNat)
  case atStart => exact ⟨0, Nat.zero_le _, rfl, rfl⟩
  case round =>
    obtain ⟨k, hk, rfl, hno⟩ := hrel
    have HN : Hid (((s.data.toList.take k).all fun b => Ch.token b.toNat) = true) := hno
    clear hno
    by_cases hlt : k < s.size
    · cases he : Ch.token (s[k].toNat : Int)
      · have HE : Hid (Ch.token (s[k].toNat : Int) = false) := he
        go_wp2_with (go_at_call 38; refine (token_any _ _).mono ?_; rintro e w' ⟨rfl, rfl⟩)
        go_ret
        refine ⟨ret_bool ?_, rfl⟩
        exact (Ch.all_of_take (fun b => Ch.token b.toNat) s k hlt HE.out).symm
      · have HE : Hid (Ch.token (s[k].toNat : Int) = true) := he
        go_wp2_with (go_at_call 38; refine (token_any _ _).mono ?_; rintro e w' ⟨rfl, rfl⟩)
        go_round
        case rel => exact ⟨k + 1, by omega, by go_num, by rw [Ch.take_snoc s k hlt, Ch.all_snoc, HN.out, HE.out]; rfl⟩
        case measure => simp [intOf]; omega
    · go_wp2
      go_ret
      refine ⟨ret_bool ?_, rfl⟩
      rw [← HN.out, Ch.take_all s k (by omega)]
      rfl
end Go.Proofs.YtjhbiipbmlpgoaaDoor

/- Package chars, walked: IsToken. -/
namespace Go.Proofs.YtjhbiipbmlpgoaaDoor
open Go.RowKit

set_option maxHeartbeats 400000 in
theorem isToken_any (s : ByteArray) (w : World) (hs : s.size ≤ maxLen) :
    Calls Tryd.prog 29 #[.string s] w fun e w' => e = .returned (.bool (Ch.isToken s.data.toList)) ∧ w' = w := by
  by_cases h0 : s.size = 0
  · obtain rfl := Ch.empty_eq s h0
    go_enter Tryd.func29, Tryd.ntmps29
    go_wp2
    go_ret
    exact ⟨rfl, rfl⟩
  · have hne := Ch.isEmpty_false s (by omega)
    have HT : Hid (Ch.allToken s.data.toList = Ch.isToken s.data.toList) := by
      unfold Hid Ch.isToken Ch.allToken; rw [← Lib.toList_data, hne]; simp
    go_enter Tryd.func29, Tryd.ntmps29
    go_wp2_with (go_at_call 37; refine (all_token _ _ hs).mono ?_; rintro e w' ⟨rfl, rfl⟩)
    go_ret
    exact ⟨ret_bool HT.out, rfl⟩
end Go.Proofs.YtjhbiipbmlpgoaaDoor

/- Package chars, walked: visible. -/
namespace Go.Proofs.YtjhbiipbmlpgoaaDoor
open Go.RowKit

set_option maxHeartbeats 400000 in
theorem visible_any (c : Int) (w : World) :
    Calls Tryd.prog 39 #[.int .u8 c] w fun e w' => e = .returned (.bool (Ch.visible c)) ∧ w' = w := by
  by_cases h9 : c = 9
  · subst h9
    go_enter Tryd.func39, Tryd.ntmps39
    go_wp2
    go_ret
    exact ⟨ret_bool (by decide), rfl⟩
  · have h9' : (c == 9) = false := beq_eq_false_iff_ne.2 h9
    go_enter Tryd.func39, Tryd.ntmps39
    go_wp2
    all_goals go_ret
    all_goals refine ⟨ret_bool ?_, rfl⟩
    all_goals (unfold Ch.visible; rw [h9']; first | (rw [decide_eq_true (show 32 ≤ c by omega)]; simp) | (rw [decide_eq_false (show ¬ 32 ≤ c by omega)]; simp))
end Go.Proofs.YtjhbiipbmlpgoaaDoor

/- Package chars, walked: all, of Visible. -/
namespace Go.Proofs.YtjhbiipbmlpgoaaDoor
open Go.RowKit

set_option maxHeartbeats 400000 in
theorem all_visible (s : ByteArray) (w : World) (hs : s.size ≤ maxLen) :
    Calls Tryd.prog 37 #[.string s, .func (.func 39) #[] #[]] w fun e w' => e = .returned (.bool (Ch.isVisible s.data.toList)) ∧ w' = w := by
  unfold maxLen at hs
  go_enter Tryd.func37, Tryd.ntmps37
  go_wp2
  go_loop [8] (fun i => ∃ k : Nat, k ≤ s.size ∧ i = .int .i64 k ∧ ((s.data.toList.take k).all fun b => Ch.visible b.toNat) = true) (fun i => s.size - (intOf i).toNat)
  case atStart => exact ⟨0, Nat.zero_le _, rfl, rfl⟩
  case round =>
    obtain ⟨k, hk, rfl, hno⟩ := hrel
    have HN : Hid (((s.data.toList.take k).all fun b => Ch.visible b.toNat) = true) := hno
    clear hno
    by_cases hlt : k < s.size
    · cases he : Ch.visible (s[k].toNat : Int)
      · have HE : Hid (Ch.visible (s[k].toNat : Int) = false) := he
        go_wp2_with (go_at_call 39; refine (visible_any _ _).mono ?_; rintro e w' ⟨rfl, rfl⟩)
        go_ret
        refine ⟨ret_bool ?_, rfl⟩
        exact (Ch.all_of_take (fun b => Ch.visible b.toNat) s k hlt HE.out).symm
      · have HE : Hid (Ch.visible (s[k].toNat : Int) = true) := he
        go_wp2_with (go_at_call 39; refine (visible_any _ _).mono ?_; rintro e w' ⟨rfl, rfl⟩)
        go_round
        case rel => exact ⟨k + 1, by omega, by go_num, by rw [Ch.take_snoc s k hlt, Ch.all_snoc, HN.out, HE.out]; rfl⟩
        case measure => simp [intOf]; omega
    · go_wp2
      go_ret
      refine ⟨ret_bool ?_, rfl⟩
      rw [← HN.out, Ch.take_all s k (by omega)]
      rfl
end Go.Proofs.YtjhbiipbmlpgoaaDoor

/- Package chars, walked: IsVisible. -/
namespace Go.Proofs.YtjhbiipbmlpgoaaDoor
open Go.RowKit

set_option maxHeartbeats 400000 in
theorem isVisible_any (s : ByteArray) (w : World) (hs : s.size ≤ maxLen) :
    Calls Tryd.prog 30 #[.string s] w fun e w' => e = .returned (.bool (Ch.isVisible s.data.toList)) ∧ w' = w := by
  go_enter Tryd.func30, Tryd.ntmps30
  go_wp2_with (go_at_call 37; refine (all_visible _ _ hs).mono ?_; rintro e w' ⟨rfl, rfl⟩)
  go_ret
  exact ⟨rfl, rfl⟩
end Go.Proofs.YtjhbiipbmlpgoaaDoor
