/- Package forms, walked: Mark. -/
import Derived.Test.YtjpenioloeplgadGreatDoorPk6
import Derived.Test.YtjpenioloeplgadGreatDoorPk20
import Derived.Test.YtjpenioloeplgadGreatDoorPk12
namespace Go.Proofs.YtjpenioloeplgadGreatDoor
open Go.RowKit

set_option maxRecDepth 100000 in
set_option maxHeartbeats 2000000 in
theorem mark_any (s : ByteArray) (w : World) :
    Calls Tryz.prog 23 #[.string s] w fun e w' => e = .returned (.bool (Fm.isMark s.data.toList)) ∧ Below w.heap.size w w' := by
  have hl := Ch.len_list s
  by_cases h0 : s.data.toList = []
  · have HR : Hid (Fm.isMark s.data.toList = false) := by unfold Hid Fm.isMark; rw [h0]; rfl
    have t0 : (s.toList == []) = true := by rw [beq_iff_eq, Lib.toList_data]; exact h0
    clear h0
    go_enter Tryz.func23, Tryz.ntmps23
    go_wp2
    go_ret
    exact ⟨by rw [HR.out]; rfl, Below.refl _ _⟩
  · have t0 : (s.toList == []) = false := by rw [beq_eq_false_iff_ne, Lib.toList_data]; exact h0
    have hne : s.data.toList.isEmpty = false := by rw [List.isEmpty_eq_false_iff]; exact h0
    by_cases h70 : s.size ≤ 70
    · have t70 : decide ((s.size : Int) ≤ 70) = true := decide_eq_true (by omega)
      have HV := Hid.mk' (fun W => isVisible_any s W (by unfold maxLen; omega))
      have HT := Hid.mk' (fun W => trim_any s W (by omega))
      cases hv : Ch.isVisible s.data.toList with
      | false =>
        rw [hv] at HV
        have HR : Hid (Fm.isMark s.data.toList = false) := by unfold Hid Fm.isMark; rw [hv]; simp
        clear h0 h70 hne hv
        go_enter Tryz.func23, Tryz.ntmps23
        go_wp2_with (go_at_call 48; refine (HV.out _).mono ?_; rintro e w1 ⟨rfl, hw⟩; subst hw)
        go_ret
        exact ⟨by rw [HR.out]; rfl, Below.refl _ _⟩
      | true =>
        rw [hv] at HV
        have hM : Fm.isMark s.data.toList = decide (Lib.trimS s.data.toList Ch.ws = s.data.toList) := by
          unfold Fm.isMark; rw [hne, hv, hl, decide_eq_true h70]; simp
        have tt : ((⟨(Lib.trimS s.data.toList Ch.ws).toArray⟩ : ByteArray).toList == s.toList) = decide (Lib.trimS s.data.toList Ch.ws = s.data.toList) := by
          rw [Lib.toList_data, Lib.toList_data, Bool.eq_iff_iff]; simp
        have HM := Hid.mk' hM
        generalize decide (Lib.trimS s.data.toList Ch.ws = s.data.toList) = dd at *
        generalize (⟨(Lib.trimS s.data.toList Ch.ws).toArray⟩ : ByteArray) = tr at *
        clear h0 h70 hne hv hM
        go_enter Tryz.func23, Tryz.ntmps23
        go_wp2_with (first
          | (go_at_call 48; refine (HV.out _).mono ?_; rintro e w1 ⟨rfl, hw⟩; subst hw)
          | (go_at_call 49; refine (HT.out _).mono ?_; rintro e w2 ⟨rfl, hb⟩))
        go_ret
        exact ⟨by rw [HM.out]; rfl, hb⟩
    · have t70 : decide ((s.size : Int) ≤ 70) = false := decide_eq_false (by omega)
      have HR : Hid (Fm.isMark s.data.toList = false) := by unfold Hid Fm.isMark; rw [hl, decide_eq_false h70]; simp
      clear h0 h70 hne
      go_enter Tryz.func23, Tryz.ntmps23
      go_wp2
      go_ret
      exact ⟨by rw [HR.out]; rfl, Below.refl _ _⟩
theorem isMark_facts {l : List UInt8} (h : Fm.isMark l = true) : l ≠ [] ∧ l.length ≤ 70 := by
  unfold Fm.isMark at h
  rw [Bool.and_eq_true, Bool.and_eq_true, Bool.and_eq_true] at h
  refine ⟨?_, of_decide_eq_true h.1.1.2⟩
  intro e
  rw [e] at h
  exact absurd h.1.1.1 (by decide)
end Go.Proofs.YtjpenioloeplgadGreatDoor
