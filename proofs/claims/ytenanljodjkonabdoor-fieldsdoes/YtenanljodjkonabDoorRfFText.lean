/- The document's own answer, walked: FieldText. -/
import Derived.Test.YtenanljodjkonabDoorPlainF
import Derived.Test.YtenanljodjkonabDoorRfTokT
import Derived.Test.YtenanljodjkonabDoorRfSeenT
import Derived.Test.YtenanljodjkonabDoorRfTrim
namespace Go.Proofs.YtenanljodjkonabDoor
open Go.RowKit

set_option maxHeartbeats 1600000 in
theorem fieldText_any (n v : ByteArray) (w : World) (hn : n.size ≤ 1000000) (hv : v.size ≤ 1000000) :
    Calls Tryd.prog 10 #[.agg #[.string n, .string v]] w fun e w' => e = .returned (txVal (Fd.text n.data.toList v.data.toList)) ∧ Below w.heap.size w w' := by
  have HT := Hid.mk' (fun W => tokenText_any n W (by unfold maxLen; omega))
  have HV := Hid.mk' (fun W => seenText_any v W (by unfold maxLen; omega))
  have HTr := Hid.mk' (fun W => trimmed_any v W (by unfold maxLen; omega))
  have hln : n.data.toList.length = n.size := by rw [Array.length_toList]; rfl
  have hlv : v.data.toList.length = v.size := by rw [Array.length_toList]; rfl
  have hof : Fd.text n.data.toList v.data.toList = if Ch.isToken n.data.toList = false then ([], 6) else if 40 < n.size ∨ 200 < n.size + 2 + v.size then ([], 4) else if Ch.isVisible v.data.toList = false ∨ Lib.trimS v.data.toList Ch.ws ≠ v.data.toList then ([], 3) else (n.data.toList ++ [58, 32] ++ v.data.toList, 0) := by
    unfold Fd.text; rw [hln, hlv]
  clear hln hlv
  have HO := Hid.mk' hof
  clear hof
  cases ht : Ch.isToken n.data.toList
  · rw [ht] at HT
    have HR : Hid (Fd.text n.data.toList v.data.toList = ([], 6)) := by have := HO.out; rw [if_pos ht] at this; exact this
    clear HO ht HV HTr
    go_enter Tryd.func10, Tryd.ntmps10
    go_wp2_with fail
    refine (HT.out _).mono ?_
    rintro e w3 ⟨rfl, hw⟩
    have hB := below_box ⟨0, hw⟩
    clear hw
    go_wp2
    go_ret2
    exact ⟨ret_tx HR.out rfl, hB⟩
  · rw [ht] at HT
    have h6 := HO.out
    rw [if_neg (by rw [ht]; simp)] at h6
    have HO6 := Hid.mk' h6
    clear HO ht h6
    by_cases h40 : 40 < n.size ∨ 200 < n.size + 2 + v.size
    · have HR : Hid (Fd.text n.data.toList v.data.toList = ([], 4)) := by have := HO6.out; rw [if_pos h40] at this; exact this
      clear HO6 HV HTr
      by_cases h4 : 40 < n.size
      · have t1 : decide ((n.size : Int) > 40) = true := by rw [decide_eq_true_eq]; omega
        go_enter Tryd.func10, Tryd.ntmps10
        go_wp2_with fail
        refine (HT.out _).mono ?_
        rintro e w3 ⟨rfl, hw⟩
        subst hw
        go_wp2
        go_ret2
        exact ⟨ret_tx HR.out rfl, below_box ⟨0, rfl⟩⟩
      · have t1 : decide ((n.size : Int) > 40) = false := by rw [decide_eq_false_iff_not]; omega
        have t2 : decide ((n.size : Int) + 2 + v.size > 200) = true := by rw [decide_eq_true_eq]; omega
        go_enter Tryd.func10, Tryd.ntmps10
        go_wp2_with fail
        refine (HT.out _).mono ?_
        rintro e w3 ⟨rfl, hw⟩
        subst hw
        go_wp2
        go_ret2
        exact ⟨ret_tx HR.out rfl, below_box ⟨0, rfl⟩⟩
    · have h4 := HO6.out
      rw [if_neg h40] at h4
      have HO4 := Hid.mk' h4
      clear HO6 h4
      have t1 : decide ((n.size : Int) > 40) = false := by rw [decide_eq_false_iff_not]; omega
      have t2 : decide ((n.size : Int) + 2 + v.size > 200) = false := by rw [decide_eq_false_iff_not]; omega
      have q1 : n.size ≤ 40 := by omega
      have q2 : v.size ≤ 198 := by omega
      clear h40
      cases hvi : Ch.isVisible v.data.toList
      · rw [hvi] at HV
        have HR : Hid (Fd.text n.data.toList v.data.toList = ([], 3)) := by have := HO4.out; rw [if_pos (Or.inl hvi)] at this; exact this
        clear HO4 hvi
        go_enter Tryd.func10, Tryd.ntmps10
        go_wp2_with fail
        refine (HT.out _).mono ?_
        rintro e w3 ⟨rfl, hw⟩
        subst hw
        go_wp2
        go_quiet ((first | (go_at_call 22; exact Calls.quiet_of_same (HV.out _)) | (go_at_call 23; exact Calls.quiet_of_same (HTr.out _))))
        go_wp2
        go_ret2
        exact ⟨ret_tx HR.out rfl, below_box ⟨_, rfl⟩⟩
      · rw [hvi] at HV
        by_cases htr : Lib.trimS v.data.toList Ch.ws = v.data.toList
        · have HR : Hid (Fd.text n.data.toList v.data.toList = (n.data.toList ++ [58, 32] ++ v.data.toList, 0)) := by have := HO4.out; rw [if_neg (by rw [hvi, htr]; simp)] at this; exact this
          have HE : Hid (n ++ ⟨#[58, 32]⟩ ++ v = ⟨(n.data.toList ++ [58, 32] ++ v.data.toList).toArray⟩) := Ch.str_eq (by rw [Ch.data_append, Ch.data_append])
          rw [htr] at HTr
          have hve : (⟨v.data.toList.toArray⟩ : ByteArray) = v := rfl
          rw [hve] at HTr
          clear HO4 hvi htr hve
          go_enter Tryd.func10, Tryd.ntmps10
          go_wp2_with fail
          refine (HT.out _).mono ?_
          rintro e w3 ⟨rfl, hw⟩
          subst hw
          go_wp2
          go_quiet ((first | (go_at_call 22; exact Calls.quiet_of_same (HV.out _)) | (go_at_call 23; exact Calls.quiet_of_same (HTr.out _))))
          go_wp2
          go_ret2
          exact ⟨ret_tx HR.out (by unfold txVal; rw [← HE.out]; rfl), below_box ⟨_, rfl⟩⟩
        · have HR : Hid (Fd.text n.data.toList v.data.toList = ([], 3)) := by have := HO4.out; rw [if_pos (Or.inr htr)] at this; exact this
          have hne : ((⟨(Lib.trimS v.data.toList Ch.ws).toArray⟩ : ByteArray).toList == v.toList) = false := by
            rw [Lib.toList_data, Lib.toList_data, beq_eq_false_iff_ne]; simpa using htr
          clear HO4 hvi htr
          generalize (⟨(Lib.trimS v.data.toList Ch.ws).toArray⟩ : ByteArray) = tv at HTr hne
          go_enter Tryd.func10, Tryd.ntmps10
          go_wp2_with fail
          refine (HT.out _).mono ?_
          rintro e w3 ⟨rfl, hw⟩
          subst hw
          go_wp2
          go_quiet ((first | (go_at_call 22; exact Calls.quiet_of_same (HV.out _)) | (go_at_call 23; exact Calls.quiet_of_same (HTr.out _))))
          go_wp2
          go_ret2
          exact ⟨ret_tx HR.out rfl, below_box ⟨_, rfl⟩⟩
end Go.Proofs.YtenanljodjkonabDoor
