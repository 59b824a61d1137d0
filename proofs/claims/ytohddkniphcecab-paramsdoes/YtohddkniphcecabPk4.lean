/- Small texts, one behind the other: StIndexB, CsToken, PmRdB, BtInfo. -/
import Derived.Test.YtohddkniphcecabPk2
import Derived.Test.YtohddkniphcecabPk1
import Derived.Test.YtohddkniphcecabProg
import Derived.Lib.Bytealg
import Derived.Test.YtohddkniphcecabPk3
/- strings.IndexByte, walked. -/
namespace Go.Proofs.Ytohddkniphcecab
open Go.RowKit

set_option maxHeartbeats 1000000 in
set_option maxRecDepth 100000 in
theorem sl_indexByte (s : ByteArray) (c : Int) (w : World) :
    Calls Try.prog 61 #[.string s, .int .u8 c] w fun e w' => e = .returned (.int .i64 (Lib.indexByte s.data.toList c.toNat.toUInt8)) ∧ w' = w := by
  go_enter Try.func61, Try.ntmps61
  go_wp2
  rw [run_callFunc_extern Try.func65 (by kernel_rfl) (by kernel_rfl) (by kernel_rfl) (e := Extern.BytealgIndexByte.indexByte) (by kernel_rfl), Lib.run_indexByteString]
  simp only [Result.andThen]
  rw [Oper.upon_value]
  go_wp2
  go_ret
  exact ⟨rfl, rfl⟩

set_option maxHeartbeats 400000 in
theorem indexByte_any (s : ByteArray) (c : Int) (w : World) :
    Calls Try.prog 60 #[.string s, .int .u8 c] w fun e w' => e = .returned (.int .i64 (Lib.indexByte s.data.toList c.toNat.toUInt8)) ∧ w' = w := by
  go_enter Try.func60, Try.ntmps60
  go_wp2_with (go_at_call 61; refine (sl_indexByte _ _ _).mono ?_; rintro e w' ⟨rfl, rfl⟩)
  go_ret
  exact ⟨rfl, rfl⟩
end Go.Proofs.Ytohddkniphcecab

/- Package chars, walked: Token. -/
namespace Go.Proofs.Ytohddkniphcecab
open Go.RowKit

set_option maxHeartbeats 400000 in
theorem token_any (c : Int) (w : World) :
    Calls Try.prog 54 #[.int .u8 c] w fun e w' => e = .returned (.bool (Ch.token c)) ∧ w' = w := by
  have hm := indexByte_any ⟨#[33, 35, 36, 37, 38, 39, 42, 43, 45, 46, 94, 95, 96, 124, 126]⟩ c w
  have HM : Hid (Lib.indexByte [33, 35, 36, 37, 38, 39, 42, 43, 45, 46, 94, 95, 96, 124, 126] c.toNat.toUInt8 = Lib.indexByte Ch.marks c.toNat.toUInt8) := rfl
  generalize (Lib.indexByte [33, 35, 36, 37, 38, 39, 42, 43, 45, 46, 94, 95, 96, 124, 126] c.toNat.toUInt8) = r at hm HM
  cases hd : Ch.digit c
  · cases hl : Ch.letter c
    all_goals
      have HH : Hid (Ch.token c = (Ch.digit c || Ch.letter c || decide (0 ≤ r))) := by rw [HM.out]; rfl
      go_enter Try.func54, Try.ntmps54
      go_wp2_with (first | (go_at_call 58; refine (digit_any _ _).mono ?_; rintro e w' ⟨rfl, rfl⟩) | (go_at_call 59; refine (letter_any _ _).mono ?_; rintro e w' ⟨rfl, rfl⟩) | (go_at_call 60; refine hm.mono ?_; rintro e w' ⟨rfl, rfl⟩))
      go_ret
      refine ⟨ret_bool ?_, rfl⟩
      rw [HH.out, hd, hl]
      simp
  · have HH : Hid (Ch.token c = (Ch.digit c || Ch.letter c || decide (0 ≤ r))) := by rw [HM.out]; rfl
    go_enter Try.func54, Try.ntmps54
    go_wp2_with (first | (go_at_call 58; refine (digit_any _ _).mono ?_; rintro e w' ⟨rfl, rfl⟩) | (go_at_call 59; refine (letter_any _ _).mono ?_; rintro e w' ⟨rfl, rfl⟩) | (go_at_call 60; refine hm.mono ?_; rintro e w' ⟨rfl, rfl⟩))
    go_ret
    refine ⟨ret_bool ?_, rfl⟩
    rw [HH.out, hd]
    simp
end Go.Proofs.Ytohddkniphcecab

/- Package params, walked: a reader's run, token, blanks, inner. -/
namespace Go.Proofs.Ytohddkniphcecab
open Go.RowKit

/-- where a reader stands, for a loop's measure -/
def atOf (w : World) (g : Nat) : Nat := match w.cell? ⟨g, 1, none⟩ with
  | some (.int _ x) => x.toNat
  | _ => 0
theorem RdAt.atOf {w : World} {g : Nat} {s : ByteArray} {i : Nat} (h : RdAt w g s i) : atOf w g = i := by
  unfold Go.Proofs.Ytohddkniphcecab.atOf; rw [h.cells.2.1]; simp
theorem text_at (s : ByteArray) (k : Nat) (h : k < s.size) : s.data.toList[k]'(by rw [Array.length_toList]; exact h) = s[k] := by simp [ByteArray.getElem_eq_getElem_data]
theorem byte_tok (c : UInt8) : Ch.token (c.toNat : Int) = Pm.tok c := rfl

theorem blank_any (c : UInt8) (w : World) :
    Calls Try.prog 48 #[.int .u8 (c.toNat : Int)] w fun e w' => e = .returned (.bool (Pm.blank c)) ∧ w' = w := by
  by_cases h32 : c = 32
  · subst h32
    go_enter Try.func48, Try.ntmps48
    go_wp2
    go_ret
    exact ⟨rfl, rfl⟩
  · have b1 : ((c.toNat : Int) == 32) = false := byte_ne' h32
    by_cases h9 : c = 9
    · subst h9
      go_enter Try.func48, Try.ntmps48
      go_wp2
      go_ret
      exact ⟨rfl, rfl⟩
    · have b2 : ((c.toNat : Int) == 9) = false := byte_ne' h9
      have HB : Hid (Pm.blank c = false) := by unfold Hid Pm.blank; rw [beq_eq_false_iff_ne.2 h32, beq_eq_false_iff_ne.2 h9]; rfl
      clear h32 h9
      go_enter Try.func48, Try.ntmps48
      go_wp2
      go_ret
      exact ⟨ret_bool (by rw [HB.out]), rfl⟩

set_option maxHeartbeats 1600000 in
theorem run_tok (s : ByteArray) (i g : Nat) (w : World) (h : RdAt w g s i) (hs : s.size ≤ 1000000) (hi : i ≤ s.size) :
    Calls Try.prog 47 #[.pointer (some ⟨g, 0, none⟩), .func (.func 54) #[] #[]] w fun e w' =>
      e = .returned (.string (s.extract i (i + Pm.word s.data.toList i))) ∧ RdAt w' g s (i + Pm.word s.data.toList i) ∧ Turns (only g) w w' := by
  have hl : s.data.toList.length = s.size := by rw [Array.length_toList]; rfl
  have HL := Hid.mk' hl
  have H := Hid.mk' h
  obtain ⟨c0, c1, f1⟩ := h.cells
  clear h hl
  go_enter Try.func47, Try.ntmps47
  go_wp2
  go_loopw [] (fun wr => ∃ k : Nat, i ≤ k ∧ k ≤ s.size ∧ RdAt wr g s k ∧ Turns (only g) w wr ∧ i + Pm.word s.data.toList i = k + Pm.word s.data.toList k) (fun wr => s.size - atOf wr g)
  case atStart => exact ⟨i, Nat.le_refl _, hi, H.out, Turns.refl _ _, rfl⟩
  case round =>
    clear H c0 c1 f1
    obtain ⟨k, hik, hk, h, ht, hw⟩ := hrel
    have HM := Hid.mk' (fun q => more_any s k g (wr.drewN q) (h.drewN q))
    have H := Hid.mk' h
    have HT := Hid.mk' ht
    have HW := Hid.mk' hw
    obtain ⟨c0, c1, f1⟩ := h.cells
    have HA := Hid.mk' h.atOf
    clear h ht hw
    by_cases hlt : k < s.size
    · have t1 : decide (k < s.size) = true := by rw [decide_eq_true_eq]; omega
      have hlt' : (k : Int) < s.size := by omega
      have HLL : Hid (k < s.data.toList.length) := by unfold Hid; rw [HL.out]; exact hlt
      have hat := text_at s k hlt
      rw [t1] at HM
      cases htk : Pm.tok s[k]
      · have HR : Hid (i + Pm.word s.data.toList i = k) := by
          unfold Hid; rw [HW.out]; unfold Pm.word; rw [Pm.run_stop HLL.out (by rw [hat]; exact htk)]; rfl
        have HK := Hid.mk' (fun W => token_any (s[k].toNat : Int) W)
        rw [byte_tok, htk] at HK
        clear hat htk HW
        have e1 : (i : Int) ≤ k := by omega
        have e2 : (k : Int) ≤ s.size := by omega
        go_wp2
        go_quiet ((first | (go_at_call 35; exact Calls.quiet_of (HM.out _)) | (go_at_call 54; exact Calls.quiet_of_same (HK.out _))))
        go_wp2
        go_quiet (fail)
        go_wp2
        go_ret
        exact ⟨ret_str (by rw [HR.out]), by rw [HR.out]; exact H.out, (HT.out.trans (Turns.drewN (only g) _ _) (fun _ h _ => h)).trans (Turns.drewN (only g) _ _) (fun _ h _ => h)⟩
      · have HR : Hid (i + Pm.word s.data.toList i = (k + 1) + Pm.word s.data.toList (k + 1)) := by
          unfold Hid; rw [HW.out]; unfold Pm.word; rw [Pm.run_step HLL.out (by rw [hat]; exact htk)]; omega
        have HK := Hid.mk' (fun W => token_any (s[k].toNat : Int) W)
        rw [byte_tok, htk] at HK
        clear hat htk HW
        go_wp2
        go_quiet ((first | (go_at_call 35; exact Calls.quiet_of (HM.out _)) | (go_at_call 54; exact Calls.quiet_of_same (HK.out _))))
        go_wp2
        have HN := Hid.mk' ((H.out.drewN nq).go (k + 1) ((k : Int) + 1) (by omega))
        go_roundw
        case rel => exact ⟨k + 1, by omega, by omega, HN.out, HT.out.trans (Turns.go _ _) (fun _ h _ => h), HR.out⟩
        case measure => rw [HN.out.atOf, HA.out]; omega
    · obtain rfl : k = s.size := by omega
      have t1 : decide (s.size < s.size) = false := by rw [decide_eq_false_iff_not]; omega
      have HR : Hid (i + Pm.word s.data.toList i = s.size) := by
        unfold Hid; rw [HW.out]; unfold Pm.word; rw [Pm.run_end _ (by rw [HL.out]; exact Nat.le_refl _)]; rfl
      rw [t1] at HM
      clear HW
      have e1 : (i : Int) ≤ s.size := by omega
      go_wp2
      go_quiet ((go_at_call 35; exact Calls.quiet_of (HM.out _)))
      go_wp2
      go_quiet (fail)
      go_wp2
      go_ret
      exact ⟨ret_str (by rw [HR.out]), by rw [HR.out]; exact H.out, (HT.out.trans (Turns.drewN (only g) _ _) (fun _ h _ => h)).trans (Turns.drewN (only g) _ _) (fun _ h _ => h)⟩
set_option maxHeartbeats 1600000 in
theorem run_blank (s : ByteArray) (i g : Nat) (w : World) (h : RdAt w g s i) (hs : s.size ≤ 1000000) (hi : i ≤ s.size) :
    Calls Try.prog 47 #[.pointer (some ⟨g, 0, none⟩), .func (.func 48) #[] #[]] w fun e w' =>
      e = .returned (.string (s.extract i (i + Pm.run Pm.blank s.data.toList i))) ∧ RdAt w' g s (i + Pm.run Pm.blank s.data.toList i) ∧ Turns (only g) w w' := by
  have hl : s.data.toList.length = s.size := by rw [Array.length_toList]; rfl
  have HL := Hid.mk' hl
  have H := Hid.mk' h
  obtain ⟨c0, c1, f1⟩ := h.cells
  clear h hl
  go_enter Try.func47, Try.ntmps47
  go_wp2
  go_loopw [] (fun wr => ∃ k : Nat, i ≤ k ∧ k ≤ s.size ∧ RdAt wr g s k ∧ Turns (only g) w wr ∧ i + Pm.run Pm.blank s.data.toList i = k + Pm.run Pm.blank s.data.toList k) (fun wr => s.size - atOf wr g)
  case atStart => exact ⟨i, Nat.le_refl _, hi, H.out, Turns.refl _ _, rfl⟩
  case round =>
    clear H c0 c1 f1
    obtain ⟨k, hik, hk, h, ht, hw⟩ := hrel
    have HM := Hid.mk' (fun q => more_any s k g (wr.drewN q) (h.drewN q))
    have H := Hid.mk' h
    have HT := Hid.mk' ht
    have HW := Hid.mk' hw
    obtain ⟨c0, c1, f1⟩ := h.cells
    have HA := Hid.mk' h.atOf
    clear h ht hw
    by_cases hlt : k < s.size
    · have t1 : decide (k < s.size) = true := by rw [decide_eq_true_eq]; omega
      have hlt' : (k : Int) < s.size := by omega
      have HLL : Hid (k < s.data.toList.length) := by unfold Hid; rw [HL.out]; exact hlt
      have hat := text_at s k hlt
      rw [t1] at HM
      cases htk : Pm.blank s[k]
      · have HR : Hid (i + Pm.run Pm.blank s.data.toList i = k) := by
          unfold Hid; rw [HW.out]; rw [Pm.run_stop HLL.out (by rw [hat]; exact htk)]; rfl
        have HK := Hid.mk' (fun W => blank_any s[k] W)
        rw [htk] at HK
        clear hat htk HW
        have e1 : (i : Int) ≤ k := by omega
        have e2 : (k : Int) ≤ s.size := by omega
        go_wp2
        go_quiet ((first | (go_at_call 35; exact Calls.quiet_of (HM.out _)) | (go_at_call 48; exact Calls.quiet_of_same (HK.out _))))
        go_wp2
        go_quiet (fail)
        go_wp2
        go_ret
        exact ⟨ret_str (by rw [HR.out]), by rw [HR.out]; exact H.out, (HT.out.trans (Turns.drewN (only g) _ _) (fun _ h _ => h)).trans (Turns.drewN (only g) _ _) (fun _ h _ => h)⟩
      · have HR : Hid (i + Pm.run Pm.blank s.data.toList i = (k + 1) + Pm.run Pm.blank s.data.toList (k + 1)) := by
          unfold Hid; rw [HW.out]; rw [Pm.run_step HLL.out (by rw [hat]; exact htk)]; omega
        have HK := Hid.mk' (fun W => blank_any s[k] W)
        rw [htk] at HK
        clear hat htk HW
        go_wp2
        go_quiet ((first | (go_at_call 35; exact Calls.quiet_of (HM.out _)) | (go_at_call 48; exact Calls.quiet_of_same (HK.out _))))
        go_wp2
        have HN := Hid.mk' ((H.out.drewN nq).go (k + 1) ((k : Int) + 1) (by omega))
        go_roundw
        case rel => exact ⟨k + 1, by omega, by omega, HN.out, HT.out.trans (Turns.go _ _) (fun _ h _ => h), HR.out⟩
        case measure => rw [HN.out.atOf, HA.out]; omega
    · obtain rfl : k = s.size := by omega
      have t1 : decide (s.size < s.size) = false := by rw [decide_eq_false_iff_not]; omega
      have HR : Hid (i + Pm.run Pm.blank s.data.toList i = s.size) := by
        unfold Hid; rw [HW.out]; rw [Pm.run_end _ (by rw [HL.out]; exact Nat.le_refl _)]; rfl
      rw [t1] at HM
      clear HW
      have e1 : (i : Int) ≤ s.size := by omega
      go_wp2
      go_quiet ((go_at_call 35; exact Calls.quiet_of (HM.out _)))
      go_wp2
      go_quiet (fail)
      go_wp2
      go_ret
      exact ⟨ret_str (by rw [HR.out]), by rw [HR.out]; exact H.out, (HT.out.trans (Turns.drewN (only g) _ _) (fun _ h _ => h)).trans (Turns.drewN (only g) _ _) (fun _ h _ => h)⟩

theorem blanksR_any (s : ByteArray) (i g : Nat) (w : World) (h : RdAt w g s i) (hs : s.size ≤ 1000000) (hi : i ≤ s.size) :
    Calls Try.prog 33 #[.pointer (some ⟨g, 0, none⟩)] w fun e w' => e = .returned (.tuple #[]) ∧ RdAt w' g s (Pm.blanks s.data.toList i) ∧ Turns (only g) w w' := by
  have HR := Hid.mk' (run_blank s i g w h hs hi)
  go_enter Try.func33, Try.ntmps33
  go_wp2_with fail
  refine HR.out.mono ?_
  rintro e w1 ⟨rfl, h1, h2⟩
  go_wp2
  go_end0
  exact ⟨rfl, h1, h2⟩
theorem token_yes (s : ByteArray) (i g : Nat) (w : World) (h : RdAt w g s i) (hs : s.size ≤ 1000000) (hi : i ≤ s.size) (hn : Pm.word s.data.toList i ≠ 0) :
    Calls Try.prog 49 #[.pointer (some ⟨g, 0, none⟩)] w fun e w' => e = .returned (.string (s.extract i (i + Pm.word s.data.toList i))) ∧ RdAt w' g s (i + Pm.word s.data.toList i) ∧ Turns (only g) w w' := by
  have HR := Hid.mk' (run_tok s i g w h hs hi)
  have hw := Pm.word_le s.data.toList i (by rw [Array.length_toList]; exact hi)
  rw [Array.length_toList] at hw
  have hw' : i + Pm.word s.data.toList i ≤ s.size := hw
  have hne := Ch.isEmpty_false (s.extract i (i + Pm.word s.data.toList i)) (by simp; omega)
  have hne2 : ((s.extract i (i + Pm.word s.data.toList i)).toList == []) = false := by
    cases hx : (s.extract i (i + Pm.word s.data.toList i)).toList with
    | nil => rw [hx] at hne; cases hne
    | cons _ _ => rfl
  clear hw hw' hn
  generalize Pm.word s.data.toList i = n at *
  generalize s.extract i (i + n) = x at *
  go_enter Try.func49, Try.ntmps49
  go_wp2_with fail
  refine HR.out.mono ?_
  rintro e w1 ⟨rfl, h1, h2⟩
  go_wp2
  go_ret
  exact ⟨rfl, h1, h2⟩
theorem token_no (s : ByteArray) (i g : Nat) (w : World) (h : RdAt w g s i) (hs : s.size ≤ 1000000) (hi : i ≤ s.size) (hn : Pm.word s.data.toList i = 0) :
    Calls Try.prog 49 #[.pointer (some ⟨g, 0, none⟩)] w fun e w' => e = gave 5 ∧ Turns (only g) w w' := by
  have HR := Hid.mk' (run_tok s i g w h hs hi)
  have hx : s.extract i (i + Pm.word s.data.toList i) = ⟨#[]⟩ := Ch.empty_eq _ (by rw [hn]; simp)
  rw [hx] at HR
  clear hx hn
  go_enter Try.func49, Try.ntmps49
  go_wp2_with fail
  refine HR.out.mono ?_
  rintro e w1 ⟨rfl, h1, h2⟩
  go_wp2
  exact ⟨rfl, rfl, h2⟩
set_option maxHeartbeats 800000 in
theorem inner_yes (s : ByteArray) (i g : Nat) (w : World) (h : RdAt w g s i) (hs : s.size ≤ 1000000) (hi : i < s.size) :
    Calls Try.prog 56 #[.pointer (some ⟨g, 0, none⟩)] w fun e w' => e = .returned (.int .u8 (s[i].toNat : Int)) ∧ RdAt w' g s (i + 1) ∧ Turns (only g) w w' := by
  have HM := Hid.mk' (more_any s i g w h)
  have t1 : decide (i < s.size) = true := by rw [decide_eq_true_eq]; omega
  rw [t1] at HM
  have H := Hid.mk' h
  clear h t1
  go_enter Try.func56, Try.ntmps56
  go_wp2_with fail
  refine HM.out.mono ?_
  rintro e w1 ⟨rfl, n, hw⟩
  have H1 : Hid (RdAt w1 g s i) := by rw [hw]; exact H.out.drewN n
  have T1 : Hid (Turns (only g) w w1) := by rw [hw]; exact Turns.drewN _ _ _
  clear hw H HM
  obtain ⟨c0, c1, f1⟩ := H1.out.cells
  have H2 := Hid.mk' (H1.out.go (i + 1) ((i : Int) + 1) (by omega))
  have T2 : Hid (Turns (only g) w (w1.setCell ⟨g, 1, none⟩ (.int .i64 ((i : Int) + 1)))) := T1.out.trans (Turns.setCell (only g) _ _ _ rfl) (fun _ h _ => h)
  have d0 : (w1.setCell ⟨g, 1, none⟩ (.int .i64 ((i : Int) + 1))).cell? ⟨g, 0, none⟩ = some (.string s) := H2.out.cells.1
  have e1 : (i : Int) + 1 - 1 = i := by omega
  have e2 : (i : Int) < s.size := by omega
  go_wp2
  go_quiet (fail)
  go_wp2
  go_ret
  exact ⟨rfl, H2.out.drewN nq, T2.out.trans (Turns.drewN (only g) _ _) (fun _ h _ => h)⟩
theorem inner_no (s : ByteArray) (i g : Nat) (w : World) (h : RdAt w g s i) (hi : ¬ i < s.size) :
    Calls Try.prog 56 #[.pointer (some ⟨g, 0, none⟩)] w fun e w' => e = gave 14 ∧ Turns (only g) w w' := by
  have HM := Hid.mk' (more_any s i g w h)
  have t1 : decide (i < s.size) = false := by rw [decide_eq_false_iff_not]; omega
  rw [t1] at HM
  clear h t1 hi
  go_enter Try.func56, Try.ntmps56
  go_wp2_with fail
  refine HM.out.mono ?_
  rintro e w1 ⟨rfl, n, hw⟩
  have T1 : Hid (Turns (only g) w w1) := by rw [hw]; exact Turns.drewN _ _ _
  clear hw
  go_wp2
  exact ⟨rfl, rfl, T1.out⟩
end Go.Proofs.Ytohddkniphcecab

/- The table's rows of bytes and ints. -/
namespace Go.Proofs.Ytohddkniphcecab
open Go.RowKit

theorem info_u8 : (Try.prog.info? 5).map (fun i => (i.zero, i.size, i.bytes)) = some (some (.int .u8 0), 1, 1) := by kernel_rfl

theorem info_int : (Try.prog.info? 3).map (fun i => (i.zero, i.size, i.bytes)) = some (some (.int .i64 0), 1, 8) := by kernel_rfl
end Go.Proofs.Ytohddkniphcecab
