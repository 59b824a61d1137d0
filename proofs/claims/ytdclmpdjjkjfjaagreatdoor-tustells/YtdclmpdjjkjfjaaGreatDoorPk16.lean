/- Small texts, one behind the other: PmRdA, PmRdB, PmRdC. -/
import Derived.Test.YtdclmpdjjkjfjaaGreatDoorPk1
import Derived.Test.YtdclmpdjjkjfjaaGreatDoorPk5
import Derived.Test.YtdclmpdjjkjfjaaGreatDoorBase
import Derived.Test.YtdclmpdjjkjfjaaGreatDoorProg
import Derived.Test.YtdclmpdjjkjfjaaGreatDoorPk14
import Derived.Test.YtdclmpdjjkjfjaaGreatDoorPk12
/- Package params, walked: a reader as it lies in memory; more, skip, need. -/
namespace Go.Proofs.YtdclmpdjjkjfjaaGreatDoor
open Go.RowKit

/-- a reader at block g: its text, and where it stands -/
def RdAt (w : World) (g : Nat) (s : ByteArray) (i : Nat) : Prop := w.heap[g]? = some (.cells #[.string s, .int .i64 (i : Int)] 155 (0, 0))
/-- that block alone -/
def only (g : Nat) : Nat → Prop := fun k => k = g
/-- a reader gave up -/
def gave (c : Nat) : Ending := .panicked [{ v := .iface 168 (.int .i64 (c : Int)), recovered := false }]
section
variable {w w' : World} {g : Nat} {s : ByteArray} {i : Nat}
theorem RdAt.lt (h : RdAt w g s i) : g < w.heap.size := (Array.getElem?_eq_some_iff.1 h).1
theorem RdAt.keep (h : RdAt w g s i) (hb : Below w.heap.size w w') : RdAt w' g s i := (hb.block g h.lt).trans h
theorem RdAt.drewN (h : RdAt w g s i) (n : Nat) : RdAt (w.drewN n) g s i := h
theorem RdAt.turns {S : Nat → Prop} (h : RdAt w g s i) (ht : Turns S w w') (hn : ¬ S g) : RdAt w' g s i := ht.row h hn
theorem RdAt.cells (h : RdAt w g s i) : w.cell? ⟨g, 0, none⟩ = some (.string s) ∧ w.cell? ⟨g, 1, none⟩ = some (.int .i64 (i : Int)) ∧ w.frozen? ⟨g, 1, none⟩ = false :=
  ⟨cell_of_row w _ 0 _ _ _ h, cell_of_row w _ 1 _ _ _ h, frozen_of_row w _ 1 _ _ h⟩
theorem RdAt.go (h : RdAt w g s i) (j : Nat) (x : Int) (hx : x = j) : RdAt (w.setCell ⟨g, 1, none⟩ (.int .i64 x)) g s j := by
  subst hx
  unfold RdAt at h ⊢
  rw [heap_setCell_same w g 1 _ _ _ h]; rfl
end
/-- what a call that goes on may turn -/
theorem Turns.go {w : World} {g : Nat} (n : Nat) (v : Value) : Turns (only g) w ((w.drewN n).setCell ⟨g, 1, none⟩ v) :=
  (Turns.drewN _ w n).trans (Turns.setCell (only g) _ _ _ rfl) (fun _ h _ => h)

theorem more_any (s : ByteArray) (i g : Nat) (w : World) (h : RdAt w g s i) :
    Calls Tryz.prog 167 #[.pointer (some ⟨g, 0, none⟩)] w fun e w' => e = .returned (.bool (decide (i < s.size))) ∧ ∃ n, w' = w.drewN n := by
  obtain ⟨c0, c1, f1⟩ := h.cells
  clear h
  go_enter Tryz.func167, Tryz.ntmps167
  go_wp2
  go_quiet (fail)
  go_wp2
  go_ret
  exact ⟨rfl, nq, rfl⟩

set_option maxHeartbeats 800000 in
theorem skip_yes (s : ByteArray) (i g : Nat) (c : UInt8) (w : World) (h : RdAt w g s i) (hs : s.size ≤ 1000000) (hc : s.data.toList[i]? = some c) :
    Calls Tryz.prog 186 #[.pointer (some ⟨g, 0, none⟩), .int .u8 (c.toNat : Int)] w fun e w' => e = .returned (.bool true) ∧ RdAt w' g s (i + 1) ∧ Turns (only g) w w' := by
  have hl : s.data.toList.length = s.size := by rw [Array.length_toList]; rfl
  have HM := Hid.mk' (fun q => more_any s i g (w.drewN q) (h.drewN q))
  have H := Hid.mk' h
  obtain ⟨c0, c1, f1⟩ := h.cells
  clear h
  have hlt : i < s.size := by
    have := (List.getElem?_eq_some_iff.1 hc).1
    rwa [hl] at this
  have t1 : decide (i < s.size) = true := by rw [decide_eq_true_eq]; omega
  have hlt' : (i : Int) < s.size := by omega
  have he : s[i] = c := by
    rw [List.getElem?_eq_getElem (by rw [hl]; exact hlt)] at hc
    injection hc with hc
  rw [t1] at HM
  have t2 : ((s[i].toNat : Int) != c.toNat) = false := byte_eq he
  clear hl he hc
  go_enter Tryz.func186, Tryz.ntmps186
  go_wp2
  go_quiet ((go_at_call 167; exact Calls.quiet_of (HM.out _)))
  go_wp2
  go_ret
  exact ⟨rfl, (H.out.drewN nq).go (i + 1) _ (by omega), Turns.go _ _⟩
set_option maxHeartbeats 800000 in
theorem skip_no (s : ByteArray) (i g : Nat) (c : UInt8) (w : World) (h : RdAt w g s i) (hc : ¬ s.data.toList[i]? = some c) :
    Calls Tryz.prog 186 #[.pointer (some ⟨g, 0, none⟩), .int .u8 (c.toNat : Int)] w fun e w' => e = .returned (.bool false) ∧ RdAt w' g s i ∧ Turns (only g) w w' := by
  have hl : s.data.toList.length = s.size := by rw [Array.length_toList]; rfl
  have HM := Hid.mk' (fun q => more_any s i g (w.drewN q) (h.drewN q))
  have H := Hid.mk' h
  obtain ⟨c0, c1, f1⟩ := h.cells
  clear h
  by_cases hlt : i < s.size
  · have t1 : decide (i < s.size) = true := by rw [decide_eq_true_eq]; omega
    have hlt' : (i : Int) < s.size := by omega
    have he : s[i] ≠ c := by
      intro e
      refine hc ?_
      rw [List.getElem?_eq_getElem (by rw [hl]; exact hlt), ← e]; simp [ByteArray.getElem_eq_getElem_data]
    rw [t1] at HM
    have t2 : ((s[i].toNat : Int) != c.toNat) = true := byte_ne he
    clear hl he hc
    go_enter Tryz.func186, Tryz.ntmps186
    go_wp2
    go_quiet ((go_at_call 167; exact Calls.quiet_of (HM.out _)))
    go_wp2
    go_ret
    exact ⟨rfl, H.out.drewN nq, Turns.drewN _ _ _⟩
  · have t1 : decide (i < s.size) = false := by rw [decide_eq_false_iff_not]; omega
    rw [t1] at HM
    clear hl hc
    go_enter Tryz.func186, Tryz.ntmps186
    go_wp2
    go_quiet ((go_at_call 167; exact Calls.quiet_of (HM.out _)))
    go_wp2
    go_ret
    exact ⟨rfl, H.out.drewN nq, Turns.drewN _ _ _⟩

theorem need_yes (s : ByteArray) (i g : Nat) (c : UInt8) (w : World) (h : RdAt w g s i) (hs : s.size ≤ 1000000) (hc : s.data.toList[i]? = some c) :
    Calls Tryz.prog 168 #[.pointer (some ⟨g, 0, none⟩), .int .u8 (c.toNat : Int)] w fun e w' => e = .returned (.tuple #[]) ∧ RdAt w' g s (i + 1) ∧ Turns (only g) w w' := by
  have HS := Hid.mk' (skip_yes s i g c w h hs hc)
  clear hc
  go_enter Tryz.func168, Tryz.ntmps168
  go_wp2_with fail
  refine HS.out.mono ?_
  rintro e w1 ⟨rfl, h1, h2⟩
  go_wp2
  go_end0
  exact ⟨rfl, h1, h2⟩
theorem need_no (s : ByteArray) (i g : Nat) (c : UInt8) (w : World) (h : RdAt w g s i) (hc : ¬ s.data.toList[i]? = some c) :
    Calls Tryz.prog 168 #[.pointer (some ⟨g, 0, none⟩), .int .u8 (c.toNat : Int)] w fun e w' => e = gave 5 ∧ Turns (only g) w w' := by
  have HS := Hid.mk' (skip_no s i g c w h hc)
  clear hc
  go_enter Tryz.func168, Tryz.ntmps168
  go_wp2_with fail
  refine HS.out.mono ?_
  rintro e w1 ⟨rfl, h1, h2⟩
  go_wp2
  exact ⟨rfl, rfl, h2⟩
end Go.Proofs.YtdclmpdjjkjfjaaGreatDoor

/- Package params, walked: a reader's run, token, blanks, inner. -/
namespace Go.Proofs.YtdclmpdjjkjfjaaGreatDoor
open Go.RowKit

/-- where a reader stands, for a loop's measure -/
def atOf (w : World) (g : Nat) : Nat := match w.cell? ⟨g, 1, none⟩ with
  | some (.int _ x) => x.toNat
  | _ => 0
theorem RdAt.atOf {w : World} {g : Nat} {s : ByteArray} {i : Nat} (h : RdAt w g s i) : atOf w g = i := by
  unfold Go.Proofs.YtdclmpdjjkjfjaaGreatDoor.atOf; rw [h.cells.2.1]; simp
theorem text_at (s : ByteArray) (k : Nat) (h : k < s.size) : s.data.toList[k]'(by rw [Array.length_toList]; exact h) = s[k] := by simp [ByteArray.getElem_eq_getElem_data]
theorem byte_tok (c : UInt8) : Ch.token (c.toNat : Int) = Pm.tok c := rfl

theorem blank_any (c : UInt8) (w : World) :
    Calls Tryz.prog 184 #[.int .u8 (c.toNat : Int)] w fun e w' => e = .returned (.bool (Pm.blank c)) ∧ w' = w := by
  by_cases h32 : c = 32
  · subst h32
    go_enter Tryz.func184, Tryz.ntmps184
    go_wp2
    go_ret
    exact ⟨rfl, rfl⟩
  · have b1 : ((c.toNat : Int) == 32) = false := byte_ne' h32
    by_cases h9 : c = 9
    · subst h9
      go_enter Tryz.func184, Tryz.ntmps184
      go_wp2
      go_ret
      exact ⟨rfl, rfl⟩
    · have b2 : ((c.toNat : Int) == 9) = false := byte_ne' h9
      have HB : Hid (Pm.blank c = false) := by unfold Hid Pm.blank; rw [beq_eq_false_iff_ne.2 h32, beq_eq_false_iff_ne.2 h9]; rfl
      clear h32 h9
      go_enter Tryz.func184, Tryz.ntmps184
      go_wp2
      go_ret
      exact ⟨ret_bool (by rw [HB.out]), rfl⟩

set_option maxHeartbeats 1600000 in
theorem run_tok (s : ByteArray) (i g : Nat) (w : World) (h : RdAt w g s i) (hs : s.size ≤ 1000000) (hi : i ≤ s.size) :
    Calls Tryz.prog 183 #[.pointer (some ⟨g, 0, none⟩), .func (.func 195) #[] #[]] w fun e w' =>
      e = .returned (.string (s.extract i (i + Pm.word s.data.toList i))) ∧ RdAt w' g s (i + Pm.word s.data.toList i) ∧ Turns (only g) w w' := by
  have hl : s.data.toList.length = s.size := by rw [Array.length_toList]; rfl
  have HL := Hid.mk' hl
  have H := Hid.mk' h
  obtain ⟨c0, c1, f1⟩ := h.cells
  clear h hl
  go_enter Tryz.func183, Tryz.ntmps183
  go_wp2
  go_loopw [] (fun wr => ∃ k : Nat, i ≤ k ∧ k ≤ s.size ∧ RdAt wr g s k ∧ Turns (only g) w wr ∧ i + Pm.word s.data.toList i = k + Pm.word s.data.toList k) (fun wr => s.size - atOf wr g)
  case atStart => exact ⟨i, Nat.le_refl _, hi, H.out, Turns.refl _ _, rfl⟩
  case round =>
    clear H c0 c1 f1
    obtain ⟨k, hik, hk, h, ht, hw⟩ := hrel
    have HM := Hid.mk' (fun q => more_any s k g (wr.drewN q) (h.drewN q))
    have H := Hid.mk' h
    have HT := Hid.mk' ht
    have HW := Hid.mk' hw
    obtain ⟨c0, c1, f1⟩ := h.cells
    have HA := Hid.mk' h.atOf
    clear h ht hw
    by_cases hlt : k < s.size
    · have t1 : decide (k < s.size) = true := by rw [decide_eq_true_eq]; omega
      have hlt' : (k : Int) < s.size := by omega
      have HLL : Hid (k < s.data.toList.length) := by unfold Hid; rw [HL.out]; exact hlt
      have hat := text_at s k hlt
      rw [t1] at HM
      cases htk : Pm.tok s[k]
      · have HR : Hid (i + Pm.word s.data.toList i = k) := by
          unfold Hid; rw [HW.out]; unfold Pm.word; rw [Pm.run_stop HLL.out (by rw [hat]; exact htk)]; rfl
        have HK := Hid.mk' (fun W => token_any (s[k].toNat : Int) W)
        rw [byte_tok, htk] at HK
        clear hat htk HW
        have e1 : (i : Int) ≤ k := by omega
        have e2 : (k : Int) ≤ s.size := by omega
        go_wp2
        go_quiet ((first | (go_at_call 167; exact Calls.quiet_of (HM.out _)) | (go_at_call 195; exact Calls.quiet_of_same (HK.out _))))
        go_wp2
        go_quiet (fail)
        go_wp2
        go_ret
        exact ⟨ret_str (by rw [HR.out]), by rw [HR.out]; exact H.out, (HT.out.trans (Turns.drewN (only g) _ _) (fun _ h _ => h)).trans (Turns.drewN (only g) _ _) (fun _ h _ => h)⟩
      · have HR : Hid (i + Pm.word s.data.toList i = (k + 1) + Pm.word s.data.toList (k + 1)) := by
          unfold Hid; rw [HW.out]; unfold Pm.word; rw [Pm.run_step HLL.out (by rw [hat]; exact htk)]; omega
        have HK := Hid.mk' (fun W => token_any (s[k].toNat : Int) W)
        rw [byte_tok, htk] at HK
        clear hat htk HW
        go_wp2
        go_quiet ((first | (go_at_call 167; exact Calls.quiet_of (HM.out _)) | (go_at_call 195; exact Calls.quiet_of_same (HK.out _))))
        go_wp2
        have HN := Hid.mk' ((H.out.drewN nq).go (k + 1) ((k : Int) + 1) (by omega))
        go_roundw
        case rel => exact ⟨k + 1, by omega, by omega, HN.out, HT.out.trans (Turns.go _ _) (fun _ h _ => h), HR.out⟩
        case measure => rw [HN.out.atOf, HA.out]; omega
    · obtain rfl : k = s.size := by omega
      have t1 : decide (s.size < s.size) = false := by rw [decide_eq_false_iff_not]; omega
      have HR : Hid (i + Pm.word s.data.toList i = s.size) := by
        unfold Hid; rw [HW.out]; unfold Pm.word; rw [Pm.run_end _ (by rw [HL.out]; exact Nat.le_refl _)]; rfl
      rw [t1] at HM
      clear HW
      have e1 : (i : Int) ≤ s.size := by omega
      go_wp2
      go_quiet ((go_at_call 167; exact Calls.quiet_of (HM.out _)))
      go_wp2
      go_quiet (fail)
      go_wp2
      go_ret
      exact ⟨ret_str (by rw [HR.out]), by rw [HR.out]; exact H.out, (HT.out.trans (Turns.drewN (only g) _ _) (fun _ h _ => h)).trans (Turns.drewN (only g) _ _) (fun _ h _ => h)⟩
set_option maxHeartbeats 1600000 in
theorem run_blank (s : ByteArray) (i g : Nat) (w : World) (h : RdAt w g s i) (hs : s.size ≤ 1000000) (hi : i ≤ s.size) :
    Calls Tryz.prog 183 #[.pointer (some ⟨g, 0, none⟩), .func (.func 184) #[] #[]] w fun e w' =>
      e = .returned (.string (s.extract i (i + Pm.run Pm.blank s.data.toList i))) ∧ RdAt w' g s (i + Pm.run Pm.blank s.data.toList i) ∧ Turns (only g) w w' := by
  have hl : s.data.toList.length = s.size := by rw [Array.length_toList]; rfl
  have HL := Hid.mk' hl
  have H := Hid.mk' h
  obtain ⟨c0, c1, f1⟩ := h.cells
  clear h hl
  go_enter Tryz.func183, Tryz.ntmps183
  go_wp2
  go_loopw [] (fun wr => ∃ k : Nat, i ≤ k ∧ k ≤ s.size ∧ RdAt wr g s k ∧ Turns (only g) w wr ∧ i + Pm.run Pm.blank s.data.toList i = k + Pm.run Pm.blank s.data.toList k) (fun wr => s.size - atOf wr g)
  case atStart => exact ⟨i, Nat.le_refl _, hi, H.out, Turns.refl _ _, rfl⟩
  case round =>
    clear H c0 c1 f1
    obtain ⟨k, hik, hk, h, ht, hw⟩ := hrel
    have HM := Hid.mk' (fun q => more_any s k g (wr.drewN q) (h.drewN q))
    have H := Hid.mk' h
    have HT := Hid.mk' ht
    have HW := Hid.mk' hw
    obtain ⟨c0, c1, f1⟩ := h.cells
    have HA := Hid.mk' h.atOf
    clear h ht hw
    by_cases hlt : k < s.size
    · have t1 : decide (k < s.size) = true := by rw [decide_eq_true_eq]; omega
      have hlt' : (k : Int) < s.size := by omega
      have HLL : Hid (k < s.data.toList.length) := by unfold Hid; rw [HL.out]; exact hlt
      have hat := text_at s k hlt
      rw [t1] at HM
      cases htk : Pm.blank s[k]
      · have HR : Hid (i + Pm.run Pm.blank s.data.toList i = k) := by
          unfold Hid; rw [HW.out]; rw [Pm.run_stop HLL.out (by rw [hat]; exact htk)]; rfl
        have HK := Hid.mk' (fun W => blank_any s[k] W)
        rw [htk] at HK
        clear hat htk HW
        have e1 : (i : Int) ≤ k := by omega
        have e2 : (k : Int) ≤ s.size := by omega
        go_wp2
        go_quiet ((first | (go_at_call 167; exact Calls.quiet_of (HM.out _)) | (go_at_call 184; exact Calls.quiet_of_same (HK.out _))))
        go_wp2
        go_quiet (fail)
        go_wp2
        go_ret
        exact ⟨ret_str (by rw [HR.out]), by rw [HR.out]; exact H.out, (HT.out.trans (Turns.drewN (only g) _ _) (fun _ h _ => h)).trans (Turns.drewN (only g) _ _) (fun _ h _ => h)⟩
      · have HR : Hid (i + Pm.run Pm.blank s.data.toList i = (k + 1) + Pm.run Pm.blank s.data.toList (k + 1)) := by
          unfold Hid; rw [HW.out]; rw [Pm.run_step HLL.out (by rw [hat]; exact htk)]; omega
        have HK := Hid.mk' (fun W => blank_any s[k] W)
        rw [htk] at HK
        clear hat htk HW
        go_wp2
        go_quiet ((first | (go_at_call 167; exact Calls.quiet_of (HM.out _)) | (go_at_call 184; exact Calls.quiet_of_same (HK.out _))))
        go_wp2
        have HN := Hid.mk' ((H.out.drewN nq).go (k + 1) ((k : Int) + 1) (by omega))
        go_roundw
        case rel => exact ⟨k + 1, by omega, by omega, HN.out, HT.out.trans (Turns.go _ _) (fun _ h _ => h), HR.out⟩
        case measure => rw [HN.out.atOf, HA.out]; omega
    · obtain rfl : k = s.size := by omega
      have t1 : decide (s.size < s.size) = false := by rw [decide_eq_false_iff_not]; omega
      have HR : Hid (i + Pm.run Pm.blank s.data.toList i = s.size) := by
        unfold Hid; rw [HW.out]; rw [Pm.run_end _ (by rw [HL.out]; exact Nat.le_refl _)]; rfl
      rw [t1] at HM
      clear HW
      have e1 : (i : Int) ≤ s.size := by omega
      go_wp2
      go_quiet ((go_at_call 167; exact Calls.quiet_of (HM.out _)))
      go_wp2
      go_quiet (fail)
      go_wp2
      go_ret
      exact ⟨ret_str (by rw [HR.out]), by rw [HR.out]; exact H.out, (HT.out.trans (Turns.drewN (only g) _ _) (fun _ h _ => h)).trans (Turns.drewN (only g) _ _) (fun _ h _ => h)⟩

theorem blanksR_any (s : ByteArray) (i g : Nat) (w : World) (h : RdAt w g s i) (hs : s.size ≤ 1000000) (hi : i ≤ s.size) :
    Calls Tryz.prog 165 #[.pointer (some ⟨g, 0, none⟩)] w fun e w' => e = .returned (.tuple #[]) ∧ RdAt w' g s (Pm.blanks s.data.toList i) ∧ Turns (only g) w w' := by
  have HR := Hid.mk' (run_blank s i g w h hs hi)
  go_enter Tryz.func165, Tryz.ntmps165
  go_wp2_with fail
  refine HR.out.mono ?_
  rintro e w1 ⟨rfl, h1, h2⟩
  go_wp2
  go_end0
  exact ⟨rfl, h1, h2⟩
theorem token_yes (s : ByteArray) (i g : Nat) (w : World) (h : RdAt w g s i) (hs : s.size ≤ 1000000) (hi : i ≤ s.size) (hn : Pm.word s.data.toList i ≠ 0) :
    Calls Tryz.prog 185 #[.pointer (some ⟨g, 0, none⟩)] w fun e w' => e = .returned (.string (s.extract i (i + Pm.word s.data.toList i))) ∧ RdAt w' g s (i + Pm.word s.data.toList i) ∧ Turns (only g) w w' := by
  have HR := Hid.mk' (run_tok s i g w h hs hi)
  have hw := Pm.word_le s.data.toList i (by rw [Array.length_toList]; exact hi)
  rw [Array.length_toList] at hw
  have hw' : i + Pm.word s.data.toList i ≤ s.size := hw
  have hne := Ch.isEmpty_false (s.extract i (i + Pm.word s.data.toList i)) (by simp; omega)
  have hne2 : ((s.extract i (i + Pm.word s.data.toList i)).toList == []) = false := by
    cases hx : (s.extract i (i + Pm.word s.data.toList i)).toList with
    | nil => rw [hx] at hne; cases hne
    | cons _ _ => rfl
  clear hw hw' hn
  generalize Pm.word s.data.toList i = n at *
  generalize s.extract i (i + n) = x at *
  go_enter Tryz.func185, Tryz.ntmps185
  go_wp2_with fail
  refine HR.out.mono ?_
  rintro e w1 ⟨rfl, h1, h2⟩
  go_wp2
  go_ret
  exact ⟨rfl, h1, h2⟩
theorem token_no (s : ByteArray) (i g : Nat) (w : World) (h : RdAt w g s i) (hs : s.size ≤ 1000000) (hi : i ≤ s.size) (hn : Pm.word s.data.toList i = 0) :
    Calls Tryz.prog 185 #[.pointer (some ⟨g, 0, none⟩)] w fun e w' => e = gave 5 ∧ Turns (only g) w w' := by
  have HR := Hid.mk' (run_tok s i g w h hs hi)
  have hx : s.extract i (i + Pm.word s.data.toList i) = ⟨#[]⟩ := Ch.empty_eq _ (by rw [hn]; simp)
  rw [hx] at HR
  clear hx hn
  go_enter Tryz.func185, Tryz.ntmps185
  go_wp2_with fail
  refine HR.out.mono ?_
  rintro e w1 ⟨rfl, h1, h2⟩
  go_wp2
  exact ⟨rfl, rfl, h2⟩
set_option maxHeartbeats 800000 in
theorem inner_yes (s : ByteArray) (i g : Nat) (w : World) (h : RdAt w g s i) (hs : s.size ≤ 1000000) (hi : i < s.size) :
    Calls Tryz.prog 196 #[.pointer (some ⟨g, 0, none⟩)] w fun e w' => e = .returned (.int .u8 (s[i].toNat : Int)) ∧ RdAt w' g s (i + 1) ∧ Turns (only g) w w' := by
  have HM := Hid.mk' (more_any s i g w h)
  have t1 : decide (i < s.size) = true := by rw [decide_eq_true_eq]; omega
  rw [t1] at HM
  have H := Hid.mk' h
  clear h t1
  go_enter Tryz.func196, Tryz.ntmps196
  go_wp2_with fail
  refine HM.out.mono ?_
  rintro e w1 ⟨rfl, n, hw⟩
  have H1 : Hid (RdAt w1 g s i) := by rw [hw]; exact H.out.drewN n
  have T1 : Hid (Turns (only g) w w1) := by rw [hw]; exact Turns.drewN _ _ _
  clear hw H HM
  obtain ⟨c0, c1, f1⟩ := H1.out.cells
  have H2 := Hid.mk' (H1.out.go (i + 1) ((i : Int) + 1) (by omega))
  have T2 : Hid (Turns (only g) w (w1.setCell ⟨g, 1, none⟩ (.int .i64 ((i : Int) + 1)))) := T1.out.trans (Turns.setCell (only g) _ _ _ rfl) (fun _ h _ => h)
  have d0 : (w1.setCell ⟨g, 1, none⟩ (.int .i64 ((i : Int) + 1))).cell? ⟨g, 0, none⟩ = some (.string s) := H2.out.cells.1
  have e1 : (i : Int) + 1 - 1 = i := by omega
  have e2 : (i : Int) < s.size := by omega
  go_wp2
  go_quiet (fail)
  go_wp2
  go_ret
  exact ⟨rfl, H2.out.drewN nq, T2.out.trans (Turns.drewN (only g) _ _) (fun _ h _ => h)⟩
theorem inner_no (s : ByteArray) (i g : Nat) (w : World) (h : RdAt w g s i) (hi : ¬ i < s.size) :
    Calls Tryz.prog 196 #[.pointer (some ⟨g, 0, none⟩)] w fun e w' => e = gave 14 ∧ Turns (only g) w w' := by
  have HM := Hid.mk' (more_any s i g w h)
  have t1 : decide (i < s.size) = false := by rw [decide_eq_false_iff_not]; omega
  rw [t1] at HM
  clear h t1 hi
  go_enter Tryz.func196, Tryz.ntmps196
  go_wp2_with fail
  refine HM.out.mono ?_
  rintro e w1 ⟨rfl, n, hw⟩
  have T1 : Hid (Turns (only g) w w1) := by rw [hw]; exact Turns.drewN _ _ _
  clear hw
  go_wp2
  exact ⟨rfl, rfl, T1.out⟩
end Go.Proofs.YtdclmpdjjkjfjaaGreatDoor

/- Package params, walked: a reader's quoted. -/
namespace Go.Proofs.YtdclmpdjjkjfjaaGreatDoor
open Go.RowKit

/-- what a quoted text is told by -/
def QuoOut (m : Option (List UInt8 × List UInt8)) (w : World) (g : Nat) (s : ByteArray) (e : Ending) (w' : World) : Prop :=
  Turns (only g) w w' ∧ match m with
    | none => e = gave 14
    | some x => e = .returned (.string ⟨x.1.toArray⟩) ∧ ∃ j, j ≤ s.size ∧ RdAt w' g s j ∧ s.data.toList.drop j = x.2
theorem QuoOut.no {m : Option (List UInt8 × List UInt8)} {w : World} {g : Nat} {s : ByteArray} {w' : World} (hm : m = none) (ht : Turns (only g) w w') : QuoOut m w g s (gave 14) w' := by
  subst hm; exact ⟨ht, rfl⟩
theorem QuoOut.yes {m : Option (List UInt8 × List UInt8)} {w : World} {g : Nat} {s : ByteArray} {v r : List UInt8} {e : Ending} {w' : World} {j : Nat} (hm : m = some (v, r)) (he : e = .returned (.string ⟨v.toArray⟩)) (hj : j ≤ s.size) (hr : RdAt w' g s j) (hd : s.data.toList.drop j = r) (ht : Turns (only g) w w') : QuoOut m w g s e w' := by
  subst hm; exact ⟨ht, he, j, hj, hr, hd⟩
/-- a reader, and bytes that are gathered beside it -/
structure QuoAt (w : World) (g : Nat) (s : ByteArray) (k : Nat) (acc : List UInt8) (ao : Option Addr) (cap : Nat) (wr : World) : Prop where
  rd : RdAt wr g s k
  own : OwnB wr w.heap.size 5 ao cap acc
  turns : Turns (only g) w wr
  lt : g < w.heap.size
section
variable {w wr w1 w3 : World} {g k k' : Nat} {s : ByteArray} {acc acc' : List UInt8} {ao ao' : Option Addr} {cap cap' : Nat}
theorem QuoAt.feed (h : QuoAt w g s k acc ao cap wr) (h1 : RdAt w1 g s k') (h2 : Turns (only g) wr w1) : QuoAt w g s k' acc ao cap w1 :=
  ⟨h1, h.own.turns h2 (fun a e e2 => by have := (h.own.block a e).1; have := h.lt; unfold only at e2; omega), h.turns.trans h2 (fun _ h _ => h), h.lt⟩
theorem QuoAt.push (h : QuoAt w g s k acc ao cap wr) (ob : Obj) (hO : OwnB w3 w.heap.size 5 ao' cap' acc') (hG : (wr.alloc ob).grownBy w3 (blockOf ao)) : QuoAt w g s k acc' ao' cap' w3 := by
  have hS : ∀ i, blockOf ao = some i → w.heap.size ≤ i := by
    intro i e
    cases ao with
    | none => simp [blockOf] at e
    | some a => simp only [blockOf, Option.some.injEq] at e; have := (h.own.block a rfl).1; omega
  have hT : Turns (fun i => w.heap.size ≤ i) wr w3 := (Turns.of_grown (World.grownBy_alloc wr ob none) (fun k e => by cases e)).trans (Turns.of_grown hG hS) (fun _ h _ => h)
  exact ⟨h.rd.turns hT (by have := h.lt; omega), hO, h.turns.trans hT (fun i hi hlt => by omega), h.lt⟩
end
theorem IsB.one_at' (W : World) (c : UInt8) (t : Nat) (fr : Nat × Nat) {k : Nat} (hk : W.heap.size = k) : IsB (W.alloc (.cells #[.int .u8 (c.toNat : Int)] t fr)) (Option.some ⟨k, 0, Option.none⟩) 1 [c] := hk ▸ IsB.one W c t fr

set_option maxHeartbeats 1600000 in
theorem quoted_any (s : ByteArray) (i g : Nat) (w : World) (h : RdAt w g s i) (hs : s.size ≤ 1000000) (hi : i ≤ s.size) :
    Calls Tryz.prog 187 #[.pointer (some ⟨g, 0, none⟩)] w fun e w' => QuoOut (Pm.quo [] (s.data.toList.drop i)) w g s e w' := by
  have hl : s.data.toList.length = s.size := by rw [Array.length_toList]; rfl
  have HL := Hid.mk' hl
  have H := Hid.mk' h
  obtain ⟨i0, hi0, hz0, hz1, hz2⟩ := info_parts info_u8
  have Hi := Hid.mk' hi0; have Hz0 := Hid.mk' hz0; have Hz1 := Hid.mk' hz1; have Hz2 := Hid.mk' hz2
  clear h hl hi0 hz0 hz1 hz2
  go_enter Tryz.func187, Tryz.ntmps187
  go_wp2
  go_loopw [3] (fun t wr => ∃ (k : Nat) (acc : List UInt8) (ao : Option Addr) (cap : Nat), k ≤ s.size ∧ acc.length ≤ k ∧ t = .slice ao acc.length cap ∧ QuoAt w g s k acc ao cap wr ∧ Pm.quo [] (s.data.toList.drop i) = Pm.quo acc (s.data.toList.drop k)) (fun _ wr => s.size - atOf wr g)
  case atStart => exact ⟨i, [], none, 0, hi, Nat.zero_le _, rfl, ⟨H.out, OwnB.nil _ _ _, Turns.refl _ _, H.out.lt⟩, rfl⟩
  case round =>
    clear H
    obtain ⟨k, acc, ao, cap, hk, hal, rfl, hA, hq⟩ := hrel
    have HA := Hid.mk' hA
    have HAt := Hid.mk' hA.rd.atOf
    have HQ := Hid.mk' hq
    clear hA hq
    by_cases hlt : k < s.size
    · have HD : Hid (s.data.toList.drop k = s[k] :: s.data.toList.drop (k + 1)) := by
        unfold Hid; rw [List.drop_eq_getElem_cons (by rw [HL.out]; exact hlt), text_at s k hlt]
      go_wp2_with fail
      refine (inner_yes s k g _ HA.out.rd hs hlt).mono ?_
      rintro e w1 ⟨rfl, h1, h2⟩
      have HA1 := Hid.mk' (HA.out.feed h1 h2)
      clear h1 h2 HA
      generalize s[k] = c at *
      by_cases h34 : c = 34
      · subst h34
        have HR : Hid (Pm.quo [] (s.data.toList.drop i) = some (acc, s.data.toList.drop (k + 1))) := by unfold Hid; rw [HQ.out, HD.out, Pm.quo_end]
        have hconv := HA1.out.own.isB.str (P := Tryz.prog) 30 9 5 Tryz.underlying30 Tryz.underlying5 Tryz.underlying9
        clear HQ HD
        go_wp2
        go_ret
        exact QuoOut.yes HR.out rfl (by omega) HA1.out.rd rfl HA1.out.turns
      · have t34 : ((c.toNat : Int) == 34) = false := byte_ne' h34
        by_cases h92 : c = 92
        · subst h92
          clear t34 h34
          by_cases hlt2 : k + 1 < s.size
          · have HD2 : Hid (s.data.toList.drop (k + 1) = s[k + 1] :: s.data.toList.drop (k + 2)) := by
              unfold Hid; rw [List.drop_eq_getElem_cons (by rw [HL.out]; exact hlt2), text_at s (k + 1) hlt2]
            have HR : Hid (Pm.quo [] (s.data.toList.drop i) = Pm.quo (acc ++ [s[k + 1]]) (s.data.toList.drop (k + 2))) := by
              unfold Hid; rw [HQ.out, HD.out, HD2.out, Pm.quo_back]
            clear HQ HD HD2
            go_wp2_with fail
            refine (inner_yes s (k + 1) g _ HA1.out.rd hs hlt2).mono ?_
            rintro e w2 ⟨rfl, h1, h2⟩
            have HA2 := Hid.mk' (HA1.out.feed h1 h2)
            clear h1 h2 HA1
            generalize s[k + 1] = d at *
            go_wp2_with (at_builtin; refine wpList_append_at rfl (.tmp 15) (.tmp 17) 30 rfl w.heap.size 5 i0 Tryz.underlying30 Hi.out Hz0.out Hz1.out Hz2.out (l := acc) (l2 := [d]) rfl rfl (HA2.out.own.alloc _) rfl rfl (IsB.one_at' _ _ _ _ (by simp)) (by simp; omega) (by have := HA2.out.turns.size; simp; omega) ?_; intro ao3 cap3 w3 hO3 hG3 hat3; have HA3 := Hid.mk' (HA2.out.push _ hO3 hG3); clear hO3 hG3 hat3)
            go_roundw
            case rel => exact ⟨k + 2, acc ++ [d], ao3, cap3, by omega, by rw [List.length_append]; simp; omega, by rw [List.length_append]; rfl, HA3.out, HR.out⟩
            case measure => rw [HA3.out.rd.atOf, HAt.out]; omega
          · have HR : Hid (Pm.quo [] (s.data.toList.drop i) = none) := by
              unfold Hid; rw [HQ.out, HD.out, List.drop_eq_nil_of_le (show s.data.toList.length ≤ k + 1 by rw [HL.out]; omega), Pm.quo_back_nil]
            clear HQ HD
            go_wp2_with fail
            refine (inner_no s (k + 1) g _ HA1.out.rd hlt2).mono ?_
            rintro e w2 ⟨he, h2⟩
            unfold gave at he
            subst he
            have HT := Hid.mk' (HA1.out.turns.trans h2 (fun _ h _ => h))
            clear h2
            go_wp2
            exact ⟨rfl, QuoOut.no HR.out HT.out⟩
        · have t92 : ((c.toNat : Int) == 92) = false := byte_ne' h92
          have HR : Hid (Pm.quo [] (s.data.toList.drop i) = Pm.quo (acc ++ [c]) (s.data.toList.drop (k + 1))) := by
            unfold Hid; rw [HQ.out, HD.out, Pm.quo_byte _ _ _ h34 h92]
          clear HQ HD h34 h92
          go_wp2_with (at_builtin; refine wpList_append_at rfl (.tmp 15) (.tmp 17) 30 rfl w.heap.size 5 i0 Tryz.underlying30 Hi.out Hz0.out Hz1.out Hz2.out (l := acc) (l2 := [c]) rfl rfl (HA1.out.own.alloc _) rfl rfl (IsB.one_at' _ _ _ _ (by simp)) (by simp; omega) (by have := HA1.out.turns.size; simp; omega) ?_; intro ao3 cap3 w3 hO3 hG3 hat3; have HA3 := Hid.mk' (HA1.out.push _ hO3 hG3); clear hO3 hG3 hat3)
          go_roundw
          case rel => exact ⟨k + 1, acc ++ [c], ao3, cap3, by omega, by rw [List.length_append]; simp; omega, by rw [List.length_append]; rfl, HA3.out, HR.out⟩
          case measure => rw [HA3.out.rd.atOf, HAt.out]; omega
    · have HR : Hid (Pm.quo [] (s.data.toList.drop i) = none) := by
        unfold Hid; rw [HQ.out, List.drop_eq_nil_of_le (show s.data.toList.length ≤ k by rw [HL.out]; omega), Pm.quo_nil]
      clear HQ
      go_wp2_with fail
      refine (inner_no s k g _ HA.out.rd hlt).mono ?_
      rintro e w2 ⟨he, h2⟩
      unfold gave at he
      subst he
      have HT := Hid.mk' (HA.out.turns.trans h2 (fun _ h _ => h))
      clear h2
      go_wp2
      exact ⟨rfl, QuoOut.no HR.out HT.out⟩
end Go.Proofs.YtdclmpdjjkjfjaaGreatDoor
