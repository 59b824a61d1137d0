/- Small texts, one behind the other: PmRdA, CsDigit, CsCap, CsLetter. -/
import Derived.Test.YtohddkniphcecabPk1
import Derived.Test.YtohddkniphcecabPk2
import Derived.Test.YtohddkniphcecabProg
/- Package params, walked: a reader as it lies in memory; more, skip, need. -/
namespace Go.Proofs.Ytohddkniphcecab
open Go.RowKit

/-- a reader at block g: its text, and where it stands -/
def RdAt (w : World) (g : Nat) (s : ByteArray) (i : Nat) : Prop := w.heap[g]? = some (.cells #[.string s, .int .i64 (i : Int)] 40 (0, 0))
/-- that block alone -/
def only (g : Nat) : Nat → Prop := fun k => k = g
/-- a reader gave up -/
def gave (c : Nat) : Ending := .panicked [{ v := .iface 52 (.int .i64 (c : Int)), recovered := false }]
section
variable {w w' : World} {g : Nat} {s : ByteArray} {i : Nat}
theorem RdAt.lt (h : RdAt w g s i) : g < w.heap.size := (Array.getElem?_eq_some_iff.1 h).1
theorem RdAt.keep (h : RdAt w g s i) (hb : Below w.heap.size w w') : RdAt w' g s i := (hb.block g h.lt).trans h
theorem RdAt.drewN (h : RdAt w g s i) (n : Nat) : RdAt (w.drewN n) g s i := h
theorem RdAt.turns {S : Nat → Prop} (h : RdAt w g s i) (ht : Turns S w w') (hn : ¬ S g) : RdAt w' g s i := ht.row h hn
theorem RdAt.cells (h : RdAt w g s i) : w.cell? ⟨g, 0, none⟩ = some (.string s) ∧ w.cell? ⟨g, 1, none⟩ = some (.int .i64 (i : Int)) ∧ w.frozen? ⟨g, 1, none⟩ = false :=
  ⟨cell_of_row w _ 0 _ _ _ h, cell_of_row w _ 1 _ _ _ h, frozen_of_row w _ 1 _ _ h⟩
theorem RdAt.go (h : RdAt w g s i) (j : Nat) (x : Int) (hx : x = j) : RdAt (w.setCell ⟨g, 1, none⟩ (.int .i64 x)) g s j := by
  subst hx
  unfold RdAt at h ⊢
  rw [heap_setCell_same w g 1 _ _ _ h]; rfl
end
/-- what a call that goes on may turn -/
theorem Turns.go {w : World} {g : Nat} (n : Nat) (v : Value) : Turns (only g) w ((w.drewN n).setCell ⟨g, 1, none⟩ v) :=
  (Turns.drewN _ w n).trans (Turns.setCell (only g) _ _ _ rfl) (fun _ h _ => h)

theorem more_any (s : ByteArray) (i g : Nat) (w : World) (h : RdAt w g s i) :
    Calls Try.prog 35 #[.pointer (some ⟨g, 0, none⟩)] w fun e w' => e = .returned (.bool (decide (i < s.size))) ∧ ∃ n, w' = w.drewN n := by
  obtain ⟨c0, c1, f1⟩ := h.cells
  clear h
  go_enter Try.func35, Try.ntmps35
  go_wp2
  go_quiet (fail)
  go_wp2
  go_ret
  exact ⟨rfl, nq, rfl⟩

set_option maxHeartbeats 800000 in
theorem skip_yes (s : ByteArray) (i g : Nat) (c : UInt8) (w : World) (h : RdAt w g s i) (hs : s.size ≤ 1000000) (hc : s.data.toList[i]? = some c) :
    Calls Try.prog 50 #[.pointer (some ⟨g, 0, none⟩), .int .u8 (c.toNat : Int)] w fun e w' => e = .returned (.bool true) ∧ RdAt w' g s (i + 1) ∧ Turns (only g) w w' := by
  have hl : s.data.toList.length = s.size := by rw [Array.length_toList]; rfl
  have HM := Hid.mk' (fun q => more_any s i g (w.drewN q) (h.drewN q))
  have H := Hid.mk' h
  obtain ⟨c0, c1, f1⟩ := h.cells
  clear h
  have hlt : i < s.size := by
    have := (List.getElem?_eq_some_iff.1 hc).1
    rwa [hl] at this
  have t1 : decide (i < s.size) = true := by rw [decide_eq_true_eq]; omega
  have hlt' : (i : Int) < s.size := by omega
  have he : s[i] = c := by
    rw [List.getElem?_eq_getElem (by rw [hl]; exact hlt)] at hc
    injection hc with hc
  rw [t1] at HM
  have t2 : ((s[i].toNat : Int) != c.toNat) = false := byte_eq he
  clear hl he hc
  go_enter Try.func50, Try.ntmps50
  go_wp2
  go_quiet ((go_at_call 35; exact Calls.quiet_of (HM.out _)))
  go_wp2
  go_ret
  exact ⟨rfl, (H.out.drewN nq).go (i + 1) _ (by omega), Turns.go _ _⟩
set_option maxHeartbeats 800000 in
theorem skip_no (s : ByteArray) (i g : Nat) (c : UInt8) (w : World) (h : RdAt w g s i) (hc : ¬ s.data.toList[i]? = some c) :
    Calls Try.prog 50 #[.pointer (some ⟨g, 0, none⟩), .int .u8 (c.toNat : Int)] w fun e w' => e = .returned (.bool false) ∧ RdAt w' g s i ∧ Turns (only g) w w' := by
  have hl : s.data.toList.length = s.size := by rw [Array.length_toList]; rfl
  have HM := Hid.mk' (fun q => more_any s i g (w.drewN q) (h.drewN q))
  have H := Hid.mk' h
  obtain ⟨c0, c1, f1⟩ := h.cells
  clear h
  by_cases hlt : i < s.size
  · have t1 : decide (i < s.size) = true := by rw [decide_eq_true_eq]; omega
    have hlt' : (i : Int) < s.size := by omega
    have he : s[i] ≠ c := by
      intro e
      refine hc ?_
      rw [List.getElem?_eq_getElem (by rw [hl]; exact hlt), ← e]; simp [ByteArray.getElem_eq_getElem_data]
    rw [t1] at HM
    have t2 : ((s[i].toNat : Int) != c.toNat) = true := byte_ne he
    clear hl he hc
    go_enter Try.func50, Try.ntmps50
    go_wp2
    go_quiet ((go_at_call 35; exact Calls.quiet_of (HM.out _)))
    go_wp2
    go_ret
    exact ⟨rfl, H.out.drewN nq, Turns.drewN _ _ _⟩
  · have t1 : decide (i < s.size) = false := by rw [decide_eq_false_iff_not]; omega
    rw [t1] at HM
    clear hl hc
    go_enter Try.func50, Try.ntmps50
    go_wp2
    go_quiet ((go_at_call 35; exact Calls.quiet_of (HM.out _)))
    go_wp2
    go_ret
    exact ⟨rfl, H.out.drewN nq, Turns.drewN _ _ _⟩

theorem need_yes (s : ByteArray) (i g : Nat) (c : UInt8) (w : World) (h : RdAt w g s i) (hs : s.size ≤ 1000000) (hc : s.data.toList[i]? = some c) :
    Calls Try.prog 36 #[.pointer (some ⟨g, 0, none⟩), .int .u8 (c.toNat : Int)] w fun e w' => e = .returned (.tuple #[]) ∧ RdAt w' g s (i + 1) ∧ Turns (only g) w w' := by
  have HS := Hid.mk' (skip_yes s i g c w h hs hc)
  clear hc
  go_enter Try.func36, Try.ntmps36
  go_wp2_with fail
  refine HS.out.mono ?_
  rintro e w1 ⟨rfl, h1, h2⟩
  go_wp2
  go_end0
  exact ⟨rfl, h1, h2⟩
theorem need_no (s : ByteArray) (i g : Nat) (c : UInt8) (w : World) (h : RdAt w g s i) (hc : ¬ s.data.toList[i]? = some c) :
    Calls Try.prog 36 #[.pointer (some ⟨g, 0, none⟩), .int .u8 (c.toNat : Int)] w fun e w' => e = gave 5 ∧ Turns (only g) w w' := by
  have HS := Hid.mk' (skip_no s i g c w h hc)
  clear hc
  go_enter Try.func36, Try.ntmps36
  go_wp2_with fail
  refine HS.out.mono ?_
  rintro e w1 ⟨rfl, h1, h2⟩
  go_wp2
  exact ⟨rfl, rfl, h2⟩
end Go.Proofs.Ytohddkniphcecab

/- Package chars, walked: digit. -/
namespace Go.Proofs.Ytohddkniphcecab
open Go.RowKit

set_option maxHeartbeats 400000 in
theorem digit_any (c : Int) (w : World) :
    Calls Try.prog 58 #[.int .u8 c] w fun e w' => e = .returned (.bool (Ch.digit c)) ∧ w' = w := by
  go_enter Try.func58, Try.ntmps58
  go_wp2
  all_goals go_ret
  all_goals refine ⟨ret_bool ?_, rfl⟩
  all_goals (simp [Ch.digit]; try omega)
end Go.Proofs.Ytohddkniphcecab

/- Package chars, walked: capital. -/
namespace Go.Proofs.Ytohddkniphcecab
open Go.RowKit

set_option maxHeartbeats 400000 in
theorem capital_any (c : Int) (w : World) :
    Calls Try.prog 55 #[.int .u8 c] w fun e w' => e = .returned (.bool (Ch.capital c)) ∧ w' = w := by
  go_enter Try.func55, Try.ntmps55
  go_wp2
  all_goals go_ret
  all_goals refine ⟨ret_bool ?_, rfl⟩
  all_goals (simp [Ch.capital]; try omega)
end Go.Proofs.Ytohddkniphcecab

/- Package chars, walked: Letter. -/
namespace Go.Proofs.Ytohddkniphcecab
open Go.RowKit

set_option maxHeartbeats 400000 in
theorem letter_any (c : Int) (w : World) :
    Calls Try.prog 59 #[.int .u8 c] w fun e w' => e = .returned (.bool (Ch.letter c)) ∧ w' = w := by
  go_enter Try.func59, Try.ntmps59
  go_wp2_with (go_at_call 55; refine (capital_any _ _).mono ?_; rintro e w' ⟨rfl, rfl⟩)
  all_goals go_ret
  all_goals refine ⟨ret_bool ?_, rfl⟩
  all_goals (unfold Ch.letter; first | (rw [decide_eq_true (show 97 ≤ c by omega)]; simp; try omega) | (rw [decide_eq_false (show ¬ 97 ≤ c by omega)]; simp; try omega))
end Go.Proofs.Ytohddkniphcecab
