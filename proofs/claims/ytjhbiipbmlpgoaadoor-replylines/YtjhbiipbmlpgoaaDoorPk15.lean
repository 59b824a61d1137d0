/- Small texts, one behind the other: FdBox, FdAll, FdText. -/
import Derived.Test.YtjhbiipbmlpgoaaDoorPk2
import Derived.Test.YtjhbiipbmlpgoaaDoorPk14
import Derived.Test.YtjhbiipbmlpgoaaDoorPk11
import Derived.Test.YtjhbiipbmlpgoaaDoorPk4
import Derived.Deep.RegionHeld3
import Derived.Test.YtjhbiipbmlpgoaaDoorPk13
/- A field in its box. -/
namespace Go.Proofs.YtjhbiipbmlpgoaaDoor
open Go.RowKit

/-- a block of two texts that a call made first of its argument -/
structure BoxAt (w : World) (n v : ByteArray) (W : World) : Prop where
  c0 : W.cell? ⟨w.heap.size, 0, none⟩ = some (.string n)
  c1 : W.cell? ⟨w.heap.size, 1, none⟩ = some (.string v)
  below : Below w.heap.size w W
  lt : w.heap.size < W.heap.size
theorem BoxAt.made (w : World) (n v : ByteArray) (t : Nat) : BoxAt w n v (w.alloc (.cells #[.string n, .string v] t)) :=
  ⟨World.cell?_alloc_mark w _ _ _ 0, World.cell?_alloc_mark w _ _ _ 1, (Below.refl _ _).alloc (Nat.le_refl _) _, by simp⟩
theorem BoxAt.stay {w W W' : World} {n v : ByteArray} (h : BoxAt w n v W) (hb : Below W.heap.size W W') : BoxAt w n v W' :=
  ⟨(hb.cell (p := ⟨w.heap.size, 0, none⟩) h.lt).trans h.c0, (hb.cell (p := ⟨w.heap.size, 1, none⟩) h.lt).trans h.c1, then_ h.below hb, Nat.lt_of_lt_of_le h.lt hb.size⟩
theorem BoxAt.alloc {w W : World} {n v : ByteArray} (h : BoxAt w n v W) (o : Obj) : BoxAt w n v (W.alloc o) := h.stay ((Below.refl _ _).alloc (Nat.le_refl _) _)
theorem BoxAt.drew {w W : World} {n v : ByteArray} (h : BoxAt w n v W) : BoxAt w n v W.drew := h.stay (below_drew _ _)

end Go.Proofs.YtjhbiipbmlpgoaaDoor

/- Package fields, walked: All, One. -/
namespace Go.Proofs.YtjhbiipbmlpgoaaDoor
open Go.RowKit

set_option maxHeartbeats 1600000 in
theorem fdAll_any (l : List (ByteArray × ByteArray)) (name : ByteArray) (ao : Option Addr) (cap n : Nat) (w : World) (hl : IsV w ao cap n (pairV l)) (hn : l.length = n) (hN : n ≤ 1000000) (hs : ∀ p ∈ l, p.1.size ≤ 2000 ∧ p.2.size ≤ 2000) (hnm : name.size ≤ 2000) :
    Calls Tryd.prog 27 #[.slice ao n cap, .string name] w fun e w' => ∃ ao' cap', e = .returned (.slice ao' (Fd.vals name l).length cap') ∧ OwnV w' w.heap.size 9 1 ao' cap' (Fd.vals name l).length (strV (Fd.vals name l)) ∧ Below w.heap.size w w' := by
  subst hn
  obtain ⟨i0, hi0, hz0, hz1, hz2⟩ := info_parts info_str
  have Hi := Hid.mk' hi0; have Hz0 := Hid.mk' hz0; have Hz1 := Hid.mk' hz1; have Hz2 := Hid.mk' hz2
  have H := Hid.mk' hl
  have Hs := Hid.mk' hs
  have HSn := Hid.mk' (lower_any name w (by unfold maxLen; omega))
  clear hl hs hi0 hz0 hz1 hz2
  have HX : Hid (∀ p : ByteArray, ((⟨(Ch.lower p.data.toList).toArray⟩ : ByteArray).toList == (⟨(Ch.lower name.data.toList).toArray⟩ : ByteArray).toList) = decide (Ch.lower p.data.toList = Ch.lower name.data.toList)) := by
    intro p; rw [Lib.toList_data, Lib.toList_data, Bool.eq_iff_iff]; simp
  generalize (⟨(Ch.lower name.data.toList).toArray⟩ : ByteArray) = sn at HSn HX
  go_enter Tryd.func27, Tryd.ntmps27
  go_wp2_with fail
  refine HSn.out.mono ?_
  rintro e w0 ⟨rfl, hb0⟩
  have HB0 := Hid.mk' hb0
  clear hb0 HSn
  go_wp2
  go_loopw [6, 13] (fun v t wr => ∃ (k : Nat) (ao' : Option Addr) (cap' : Nat), k ≤ l.length ∧ t = .int .i64 k ∧ v = .slice ao' (Fd.vals name (l.take k)).length cap' ∧ OwnV wr w.heap.size 9 1 ao' cap' (Fd.vals name (l.take k)).length (strV (Fd.vals name (l.take k))) ∧ Below w.heap.size w wr) (fun _ t _ => l.length - (intOf t).toNat)
  case atStart => exact ⟨0, none, 0, Nat.zero_le _, rfl, rfl, OwnV.nil _ _ _ _, HB0.out⟩
  case round =>
    obtain ⟨k, ao', cap', hk, rfl, rfl, hO, hB⟩ := hrel
    have HO := Hid.mk' hO; have HB := Hid.mk' hB
    clear hO hB HB0
    have hvl := Fd.vals_length name (l.take k)
    have hvk : (l.take k).length ≤ k := List.length_take_le _ _
    by_cases hlt : k < l.length
    · have hpl : 0 < (pairV l).length := by rw [pairV_length]; omega
      obtain ⟨bb, oo, rfl, hcs⟩ := H.out.lit hpl
      have h1 := hcs _ _ (pairV_at l k hlt).1
      have h2 := hcs _ _ (pairV_at l k hlt).2
      rw [← Nat.add_assoc] at h2
      have hc0 := (HB.out.cell (World.block_lt_of_cell? w _ h1)).trans h1
      have hc1 := (HB.out.cell (World.block_lt_of_cell? w _ h2)).trans h2
      clear hcs h1 h2
      have HT : Hid (l.take (k + 1) = l.take k ++ [l[k]]) := List.take_succ_eq_append_getElem hlt
      have hp1 := Hs.out l[k] (List.getElem_mem hlt)
      have HSp := Hid.mk' (fun W => lower_any l[k].1 W (by unfold maxLen; omega))
      have HCl := Hid.mk' (fun W => sclone_any l[k].2 W (by have := hp1.2; omega))
      have hlt' : (k : Int) < l.length := by omega
      have HV := Hid.mk' (Fd.vals_snoc name (l.take k) l[k])
      rw [← HT.out] at HV
      generalize l[k] = p at *
      have HTx := Hid.mk' (HX.out p.1)
      generalize (⟨(Ch.lower p.1.data.toList).toArray⟩ : ByteArray) = sp at HSp HTx
      generalize Fd.vals name (l.take k) = vs at HO HV hvl
      by_cases heq : Ch.lower p.1.data.toList = Ch.lower name.data.toList
      · have hx := HTx.out
        rw [decide_eq_true heq] at hx
        have HV2 : Hid (Fd.vals name (l.take (k + 1)) = vs ++ [p.2]) := by have := HV.out; rw [if_pos heq] at this; exact this
        clear HV HTx heq HX
        go_wp2_with fail
        refine (HSp.out _).mono ?_
        rintro e w1 ⟨rfl, hb1⟩
        have X1 := (BoxAt.made wr p.1 p.2 _).stay hb1
        have B1 := Hid.mk' (then_ HB.out X1.below)
        have O1 := Hid.mk' (HO.out.stay X1.below)
        have c1 := X1.c1
        clear hb1 X1 hc0 hc1
        go_wp2_with fail
        refine (HCl.out _).mono ?_
        rintro e w2 ⟨rfl, hb2⟩
        have HB2 := Hid.mk' (then_ B1.out hb2)
        have HO2 := Hid.mk' (O1.out.stay hb2)
        clear hb2 c1 B1 O1
        go_wp2_with (at_builtin; refine wpList_append_v rfl (.tmp 22) (.tmp 26) 45 rfl w.heap.size 9 i0 (.string ⟨#[]⟩) 1 16 Tryd.underlying45 Hi.out Hz0.out Hz1.out Hz2.out rfl (by decide) rfl (HO2.out.alloc _) rfl (IsV.made _ _ 1 _ _) rfl (fun u hu => by simp at hu; subst hu; rfl) (by omega) (by omega) (by have := HB2.out.size; simp; omega) ?_; intro ao3 cap3 w3 hO3 hG3 _)
        go_roundw
        case rel =>
          have e1 : Fd.vals name (l.take (k + 1)) = vs ++ [p.2] := HV2.out
          refine ⟨k + 1, ao3, cap3, by omega, by go_num, by rw [e1, List.length_append]; rfl, ?_, ?_⟩
          · rw [e1, List.length_append, strV_append]; exact hO3
          · exact (HB2.out.alloc HB2.out.size _).grown hG3 (by have := HB2.out.size; simp; omega) (fun q e => by
              cases ao' with
              | none => simp [blockOf] at e
              | some y => simp only [blockOf, Option.some.injEq] at e; have := (HO2.out.block y rfl).1; omega)
        case measure => simp [intOf]; omega
      · have hx := HTx.out
        rw [decide_eq_false heq] at hx
        have HV2 : Hid (Fd.vals name (l.take (k + 1)) = vs) := by have := HV.out; rw [if_neg heq] at this; exact this
        clear HV HTx heq HX
        go_wp2_with fail
        refine (HSp.out _).mono ?_
        rintro e w1 ⟨rfl, hb1⟩
        have X1 := (BoxAt.made wr p.1 p.2 _).stay hb1
        have B1 := Hid.mk' (then_ HB.out X1.below)
        have O1 := Hid.mk' (HO.out.stay X1.below)
        clear hb1 X1 hc0 hc1
        go_wp2
        go_roundw
        case rel => exact ⟨k + 1, ao', cap', by omega, by go_num, by rw [HV2.out], by rw [HV2.out]; exact O1.out, B1.out⟩
        case measure => simp [intOf]; omega
    · obtain rfl : k = l.length := by omega
      go_wp2
      go_ret
      have e : l.take l.length = l := List.take_length
      have h1 := HO.out
      rw [e] at h1
      exact ⟨ao', cap', by rw [e]; rfl, h1, HB.out⟩
end Go.Proofs.YtjhbiipbmlpgoaaDoor

/- Package fields, walked: Text. -/
namespace Go.Proofs.YtjhbiipbmlpgoaaDoor
open Go.RowKit

set_option maxHeartbeats 1600000 in
theorem text_any (n v : ByteArray) (w : World) (hn : n.size ≤ 100000) (hv : v.size ≤ 100000) :
    Calls Tryd.prog 19 #[.agg #[.string n, .string v]] w fun e w' => e = .returned (txVal (Fd.text n.data.toList v.data.toList)) ∧ Below w.heap.size w w' := by
  have HT := Hid.mk' (fun W => isToken_any n W (by unfold maxLen; omega))
  have HV := Hid.mk' (fun W => isVisible_any v W (by unfold maxLen; omega))
  have HTr := Hid.mk' (fun W => trim_any v W (by omega))
  have hln : n.data.toList.length = n.size := by rw [Array.length_toList]; rfl
  have hlv : v.data.toList.length = v.size := by rw [Array.length_toList]; rfl
  have hof : Fd.text n.data.toList v.data.toList = if Ch.isToken n.data.toList = false then ([], 6) else if 40 < n.size ∨ 200 < n.size + 2 + v.size then ([], 4) else if Ch.isVisible v.data.toList = false ∨ Lib.trimS v.data.toList Ch.ws ≠ v.data.toList then ([], 3) else (n.data.toList ++ [58, 32] ++ v.data.toList, 0) := by
    unfold Fd.text; rw [hln, hlv]
  clear hln hlv
  have HO := Hid.mk' hof
  clear hof
  have hsz : (n ++ ⟨#[58, 32]⟩ ++ v).size = n.size + 2 + v.size := by simp [ByteArray.size_append]; rfl
  have HE : Hid (n ++ ⟨#[58, 32]⟩ ++ v = ⟨(n.data.toList ++ [58, 32] ++ v.data.toList).toArray⟩) := Ch.str_eq (by rw [Ch.data_append, Ch.data_append])
  cases ht : Ch.isToken n.data.toList
  · rw [ht] at HT
    have HR : Hid (Fd.text n.data.toList v.data.toList = ([], 6)) := by have := HO.out; rw [if_pos ht] at this; exact this
    clear HO ht HV HTr HE
    go_enter Tryd.func19, Tryd.ntmps19
    go_wp2_with fail
    refine (HT.out _).mono ?_
    rintro e w3 ⟨rfl, hw⟩
    have hB := below_box ⟨0, hw⟩
    clear hw
    go_wp2
    go_ret2
    exact ⟨ret_tx HR.out rfl, hB⟩
  · rw [ht] at HT
    have h6 := HO.out
    rw [if_neg (by rw [ht]; simp)] at h6
    have HO6 := Hid.mk' h6
    clear HO ht h6
    by_cases h40 : 40 < n.size ∨ 200 < n.size + 2 + v.size
    · have HR : Hid (Fd.text n.data.toList v.data.toList = ([], 4)) := by have := HO6.out; rw [if_pos h40] at this; exact this
      clear HO6 HV HTr HE
      by_cases h4 : 40 < n.size
      · have t1 : decide ((n.size : Int) > 40) = true := by rw [decide_eq_true_eq]; omega
        go_enter Tryd.func19, Tryd.ntmps19
        go_wp2_with fail
        refine (HT.out _).mono ?_
        rintro e w3 ⟨rfl, hw⟩
        have B3 : Hid (BoxAt w n v w3) := by rw [hw]; exact BoxAt.made w n v _
        clear hw
        have c0 := B3.out.c0
        go_wp2
        go_ret2
        exact ⟨ret_tx HR.out rfl, B3.out.below⟩
      · have t1 : decide ((n.size : Int) > 40) = false := by rw [decide_eq_false_iff_not]; omega
        have t2 : decide (((n ++ ⟨#[58, 32]⟩ ++ v).size : Int) > 200) = true := by rw [decide_eq_true_eq, hsz]; omega
        clear hsz
        go_enter Tryd.func19, Tryd.ntmps19
        go_wp2_with fail
        refine (HT.out _).mono ?_
        rintro e w3 ⟨rfl, hw⟩
        have B3 : Hid (BoxAt w n v w3) := by rw [hw]; exact BoxAt.made w n v _
        clear hw
        have c0 := B3.out.c0
        generalize n ++ ⟨#[58, 32]⟩ ++ v = tx at *
        go_wp2
        go_ret2
        exact ⟨ret_tx HR.out rfl, B3.out.below⟩
    · have h4 := HO6.out
      rw [if_neg h40] at h4
      have HO4 := Hid.mk' h4
      clear HO6 h4
      have t1 : decide ((n.size : Int) > 40) = false := by rw [decide_eq_false_iff_not]; omega
      have t2 : decide (((n ++ ⟨#[58, 32]⟩ ++ v).size : Int) > 200) = false := by rw [decide_eq_false_iff_not, hsz]; omega
      clear h40 hsz
      cases hvi : Ch.isVisible v.data.toList
      · rw [hvi] at HV
        have HR : Hid (Fd.text n.data.toList v.data.toList = ([], 3)) := by have := HO4.out; rw [if_pos (Or.inl hvi)] at this; exact this
        clear HO4 hvi HTr HE
        go_enter Tryd.func19, Tryd.ntmps19
        go_wp2_with fail
        refine (HT.out _).mono ?_
        rintro e w3 ⟨rfl, hw⟩
        have B3 : Hid (BoxAt w n v w3) := by rw [hw]; exact BoxAt.made w n v _
        clear hw
        have c0 := B3.out.c0
        have c1 := B3.out.c1
        generalize n ++ ⟨#[58, 32]⟩ ++ v = tx at *
        go_wp2_with fail
        refine (HV.out _).mono ?_
        rintro e w4 ⟨rfl, hw⟩
        subst hw
        go_wp2
        go_ret2
        exact ⟨ret_tx HR.out rfl, B3.out.below⟩
      · rw [hvi] at HV
        by_cases htr : Lib.trimS v.data.toList Ch.ws = v.data.toList
        · have HR : Hid (Fd.text n.data.toList v.data.toList = (n.data.toList ++ [58, 32] ++ v.data.toList, 0)) := by have := HO4.out; rw [if_neg (by rw [hvi, htr]; simp)] at this; exact this
          rw [htr] at HTr
          have hve : (⟨v.data.toList.toArray⟩ : ByteArray) = v := rfl
          rw [hve] at HTr
          clear HO4 hvi htr hve
          go_enter Tryd.func19, Tryd.ntmps19
          go_wp2_with fail
          refine (HT.out _).mono ?_
          rintro e w3 ⟨rfl, hw⟩
          have B3 : Hid (BoxAt w n v w3) := by rw [hw]; exact BoxAt.made w n v _
          clear hw
          have c0 := B3.out.c0
          have c1 := B3.out.c1
          generalize n ++ ⟨#[58, 32]⟩ ++ v = tx at *
          go_wp2_with fail
          refine (HV.out _).mono ?_
          rintro e w4 ⟨rfl, hw⟩
          subst hw
          go_wp2
          go_region_held3 (fun w' => w'.cell? ⟨w.heap.size, 1, none⟩ = some (.string v)) (go_keep) (first | (go_at_call 31; refine (HTr.out _).mono ?_; rintro e w5 ⟨rfl, hB⟩; have B5 := Hid.mk' (B3.out.drew.stay hB); have c1' := B5.out.c1; clear hB))
          all_goals
            go_wp2
            go_ret2
            exact ⟨ret_tx HR.out (by unfold txVal; rw [← HE.out]; rfl), B5.out.below⟩
        · have HR : Hid (Fd.text n.data.toList v.data.toList = ([], 3)) := by have := HO4.out; rw [if_pos (Or.inr htr)] at this; exact this
          have hne : ((⟨(Lib.trimS v.data.toList Ch.ws).toArray⟩ : ByteArray).toList == v.toList) = false := by
            rw [Lib.toList_data, Lib.toList_data, beq_eq_false_iff_ne]; simpa using htr
          clear HO4 hvi htr HE
          generalize (⟨(Lib.trimS v.data.toList Ch.ws).toArray⟩ : ByteArray) = tv at HTr hne
          go_enter Tryd.func19, Tryd.ntmps19
          go_wp2_with fail
          refine (HT.out _).mono ?_
          rintro e w3 ⟨rfl, hw⟩
          have B3 : Hid (BoxAt w n v w3) := by rw [hw]; exact BoxAt.made w n v _
          clear hw
          have c0 := B3.out.c0
          have c1 := B3.out.c1
          generalize n ++ ⟨#[58, 32]⟩ ++ v = tx at *
          go_wp2_with fail
          refine (HV.out _).mono ?_
          rintro e w4 ⟨rfl, hw⟩
          subst hw
          go_wp2
          go_region_held3 (fun w' => w'.cell? ⟨w.heap.size, 1, none⟩ = some (.string v)) (go_keep) (first | (go_at_call 31; refine (HTr.out _).mono ?_; rintro e w5 ⟨rfl, hB⟩; have B5 := Hid.mk' (B3.out.drew.stay hB); have c1' := B5.out.c1; clear hB))
          all_goals
            go_wp2
            go_ret2
            exact ⟨ret_tx HR.out rfl, B5.out.below⟩
end Go.Proofs.YtjhbiipbmlpgoaaDoor
