/- Small texts, one behind the other: FdBox, FdText. -/
import Derived.Test.YtjpenioloeplgadDoorPk2
import Derived.Test.YtjpenioloeplgadDoorPk15
import Derived.Test.YtjpenioloeplgadDoorPk11
import Derived.Test.YtjpenioloeplgadDoorPk4
import Derived.Deep.RegionHeld3
/- A field in its box. -/
namespace Go.Proofs.YtjpenioloeplgadDoor
open Go.RowKit

/-- a block of two texts that a call made first of its argument -/
structure BoxAt (w : World) (n v : ByteArray) (W : World) : Prop where
  c0 : W.cell? ⟨w.heap.size, 0, none⟩ = some (.string n)
  c1 : W.cell? ⟨w.heap.size, 1, none⟩ = some (.string v)
  below : Below w.heap.size w W
  lt : w.heap.size < W.heap.size
theorem BoxAt.made (w : World) (n v : ByteArray) (t : Nat) : BoxAt w n v (w.alloc (.cells #[.string n, .string v] t)) :=
  ⟨World.cell?_alloc_mark w _ _ _ 0, World.cell?_alloc_mark w _ _ _ 1, (Below.refl _ _).alloc (Nat.le_refl _) _, by simp⟩
theorem BoxAt.stay {w W W' : World} {n v : ByteArray} (h : BoxAt w n v W) (hb : Below W.heap.size W W') : BoxAt w n v W' :=
  ⟨(hb.cell (p := ⟨w.heap.size, 0, none⟩) h.lt).trans h.c0, (hb.cell (p := ⟨w.heap.size, 1, none⟩) h.lt).trans h.c1, then_ h.below hb, Nat.lt_of_lt_of_le h.lt hb.size⟩
theorem BoxAt.alloc {w W : World} {n v : ByteArray} (h : BoxAt w n v W) (o : Obj) : BoxAt w n v (W.alloc o) := h.stay ((Below.refl _ _).alloc (Nat.le_refl _) _)
theorem BoxAt.drew {w W : World} {n v : ByteArray} (h : BoxAt w n v W) : BoxAt w n v W.drew := h.stay (below_drew _ _)

end Go.Proofs.YtjpenioloeplgadDoor

/- Package fields, walked: Text. -/
namespace Go.Proofs.YtjpenioloeplgadDoor
open Go.RowKit

set_option maxHeartbeats 1600000 in
theorem text_any (n v : ByteArray) (w : World) (hn : n.size ≤ 100000) (hv : v.size ≤ 100000) :
    Calls Tryd.prog 23 #[.agg #[.string n, .string v]] w fun e w' => e = .returned (txVal (Fd.text n.data.toList v.data.toList)) ∧ Below w.heap.size w w' := by
  have HT := Hid.mk' (fun W => isToken_any n W (by unfold maxLen; omega))
  have HV := Hid.mk' (fun W => isVisible_any v W (by unfold maxLen; omega))
  have HTr := Hid.mk' (fun W => trim_any v W (by omega))
  have hln : n.data.toList.length = n.size := by rw [Array.length_toList]; rfl
  have hlv : v.data.toList.length = v.size := by rw [Array.length_toList]; rfl
  have hof : Fd.text n.data.toList v.data.toList = if Ch.isToken n.data.toList = false then ([], 6) else if 40 < n.size ∨ 200 < n.size + 2 + v.size then ([], 4) else if Ch.isVisible v.data.toList = false ∨ Lib.trimS v.data.toList Ch.ws ≠ v.data.toList then ([], 3) else (n.data.toList ++ [58, 32] ++ v.data.toList, 0) := by
    unfold Fd.text; rw [hln, hlv]
  clear hln hlv
  have HO := Hid.mk' hof
  clear hof
  have hsz : (n ++ ⟨#[58, 32]⟩ ++ v).size = n.size + 2 + v.size := by simp [ByteArray.size_append]; rfl
  have HE : Hid (n ++ ⟨#[58, 32]⟩ ++ v = ⟨(n.data.toList ++ [58, 32] ++ v.data.toList).toArray⟩) := Ch.str_eq (by rw [Ch.data_append, Ch.data_append])
  cases ht : Ch.isToken n.data.toList
  · rw [ht] at HT
    have HR : Hid (Fd.text n.data.toList v.data.toList = ([], 6)) := by have := HO.out; rw [if_pos ht] at this; exact this
    clear HO ht HV HTr HE
    go_enter Tryd.func23, Tryd.ntmps23
    go_wp2_with fail
    refine (HT.out _).mono ?_
    rintro e w3 ⟨rfl, hw⟩
    have hB := below_box ⟨0, hw⟩
    clear hw
    go_wp2
    go_ret2
    exact ⟨ret_tx HR.out rfl, hB⟩
  · rw [ht] at HT
    have h6 := HO.out
    rw [if_neg (by rw [ht]; simp)] at h6
    have HO6 := Hid.mk' h6
    clear HO ht h6
    by_cases h40 : 40 < n.size ∨ 200 < n.size + 2 + v.size
    · have HR : Hid (Fd.text n.data.toList v.data.toList = ([], 4)) := by have := HO6.out; rw [if_pos h40] at this; exact this
      clear HO6 HV HTr HE
      by_cases h4 : 40 < n.size
      · have t1 : decide ((n.size : Int) > 40) = true := by rw [decide_eq_true_eq]; omega
        go_enter Tryd.func23, Tryd.ntmps23
        go_wp2_with fail
        refine (HT.out _).mono ?_
        rintro e w3 ⟨rfl, hw⟩
        have B3 : Hid (BoxAt w n v w3) := by rw [hw]; exact BoxAt.made w n v _
        clear hw
        have c0 := B3.out.c0
        go_wp2
        go_ret2
        exact ⟨ret_tx HR.out rfl, B3.out.below⟩
      · have t1 : decide ((n.size : Int) > 40) = false := by rw [decide_eq_false_iff_not]; omega
        have t2 : decide (((n ++ ⟨#[58, 32]⟩ ++ v).size : Int) > 200) = true := by rw [decide_eq_true_eq, hsz]; omega
        clear hsz
        go_enter Tryd.func23, Tryd.ntmps23
        go_wp2_with fail
        refine (HT.out _).mono ?_
        rintro e w3 ⟨rfl, hw⟩
        have B3 : Hid (BoxAt w n v w3) := by rw [hw]; exact BoxAt.made w n v _
        clear hw
        have c0 := B3.out.c0
        generalize n ++ ⟨#[58, 32]⟩ ++ v = tx at *
        go_wp2
        go_ret2
        exact ⟨ret_tx HR.out rfl, B3.out.below⟩
    · have h4 := HO6.out
      rw [if_neg h40] at h4
      have HO4 := Hid.mk' h4
      clear HO6 h4
      have t1 : decide ((n.size : Int) > 40) = false := by rw [decide_eq_false_iff_not]; omega
      have t2 : decide (((n ++ ⟨#[58, 32]⟩ ++ v).size : Int) > 200) = false := by rw [decide_eq_false_iff_not, hsz]; omega
      clear h40 hsz
      cases hvi : Ch.isVisible v.data.toList
      · rw [hvi] at HV
        have HR : Hid (Fd.text n.data.toList v.data.toList = ([], 3)) := by have := HO4.out; rw [if_pos (Or.inl hvi)] at this; exact this
        clear HO4 hvi HTr HE
        go_enter Tryd.func23, Tryd.ntmps23
        go_wp2_with fail
        refine (HT.out _).mono ?_
        rintro e w3 ⟨rfl, hw⟩
        have B3 : Hid (BoxAt w n v w3) := by rw [hw]; exact BoxAt.made w n v _
        clear hw
        have c0 := B3.out.c0
        have c1 := B3.out.c1
        generalize n ++ ⟨#[58, 32]⟩ ++ v = tx at *
        go_wp2_with fail
        refine (HV.out _).mono ?_
        rintro e w4 ⟨rfl, hw⟩
        subst hw
        go_wp2
        go_ret2
        exact ⟨ret_tx HR.out rfl, B3.out.below⟩
      · rw [hvi] at HV
        by_cases htr : Lib.trimS v.data.toList Ch.ws = v.data.toList
        · have HR : Hid (Fd.text n.data.toList v.data.toList = (n.data.toList ++ [58, 32] ++ v.data.toList, 0)) := by have := HO4.out; rw [if_neg (by rw [hvi, htr]; simp)] at this; exact this
          rw [htr] at HTr
          have hve : (⟨v.data.toList.toArray⟩ : ByteArray) = v := rfl
          rw [hve] at HTr
          clear HO4 hvi htr hve
          go_enter Tryd.func23, Tryd.ntmps23
          go_wp2_with fail
          refine (HT.out _).mono ?_
          rintro e w3 ⟨rfl, hw⟩
          have B3 : Hid (BoxAt w n v w3) := by rw [hw]; exact BoxAt.made w n v _
          clear hw
          have c0 := B3.out.c0
          have c1 := B3.out.c1
          generalize n ++ ⟨#[58, 32]⟩ ++ v = tx at *
          go_wp2_with fail
          refine (HV.out _).mono ?_
          rintro e w4 ⟨rfl, hw⟩
          subst hw
          go_wp2
          go_region_held3 (fun w' => w'.cell? ⟨w.heap.size, 1, none⟩ = some (.string v)) (go_keep) (first | (go_at_call 18; refine (HTr.out _).mono ?_; rintro e w5 ⟨rfl, hB⟩; have B5 := Hid.mk' (B3.out.drew.stay hB); have c1' := B5.out.c1; clear hB))
          all_goals
            go_wp2
            go_ret2
            exact ⟨ret_tx HR.out (by unfold txVal; rw [← HE.out]; rfl), B5.out.below⟩
        · have HR : Hid (Fd.text n.data.toList v.data.toList = ([], 3)) := by have := HO4.out; rw [if_pos (Or.inr htr)] at this; exact this
          have hne : ((⟨(Lib.trimS v.data.toList Ch.ws).toArray⟩ : ByteArray).toList == v.toList) = false := by
            rw [Lib.toList_data, Lib.toList_data, beq_eq_false_iff_ne]; simpa using htr
          clear HO4 hvi htr HE
          generalize (⟨(Lib.trimS v.data.toList Ch.ws).toArray⟩ : ByteArray) = tv at HTr hne
          go_enter Tryd.func23, Tryd.ntmps23
          go_wp2_with fail
          refine (HT.out _).mono ?_
          rintro e w3 ⟨rfl, hw⟩
          have B3 : Hid (BoxAt w n v w3) := by rw [hw]; exact BoxAt.made w n v _
          clear hw
          have c0 := B3.out.c0
          have c1 := B3.out.c1
          generalize n ++ ⟨#[58, 32]⟩ ++ v = tx at *
          go_wp2_with fail
          refine (HV.out _).mono ?_
          rintro e w4 ⟨rfl, hw⟩
          subst hw
          go_wp2
          go_region_held3 (fun w' => w'.cell? ⟨w.heap.size, 1, none⟩ = some (.string v)) (go_keep) (first | (go_at_call 18; refine (HTr.out _).mono ?_; rintro e w5 ⟨rfl, hB⟩; have B5 := Hid.mk' (B3.out.drew.stay hB); have c1' := B5.out.c1; clear hB))
          all_goals
            go_wp2
            go_ret2
            exact ⟨ret_tx HR.out rfl, B5.out.below⟩
end Go.Proofs.YtjpenioloeplgadDoor
