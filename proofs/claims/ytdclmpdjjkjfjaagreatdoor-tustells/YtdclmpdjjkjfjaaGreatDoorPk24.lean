/- Small texts, one behind the other: FdBox, FdAll, FdOne. -/
import Derived.Test.YtdclmpdjjkjfjaaGreatDoorPk1
import Derived.Test.YtdclmpdjjkjfjaaGreatDoorPk22
import Derived.Test.YtdclmpdjjkjfjaaGreatDoorPk14
import Derived.Test.YtdclmpdjjkjfjaaGreatDoorPk3
import Derived.Deep.RegionHeld3
import Derived.Test.YtdclmpdjjkjfjaaGreatDoorPk15
/- A field in its box. -/
namespace Go.Proofs.YtdclmpdjjkjfjaaGreatDoor
open Go.RowKit

/-- a block of two texts that a call made first of its argument -/
structure BoxAt (w : World) (n v : ByteArray) (W : World) : Prop where
  c0 : W.cell? ⟨w.heap.size, 0, none⟩ = some (.string n)
  c1 : W.cell? ⟨w.heap.size, 1, none⟩ = some (.string v)
  below : Below w.heap.size w W
  lt : w.heap.size < W.heap.size
theorem BoxAt.made (w : World) (n v : ByteArray) (t : Nat) : BoxAt w n v (w.alloc (.cells #[.string n, .string v] t)) :=
  ⟨World.cell?_alloc_mark w _ _ _ 0, World.cell?_alloc_mark w _ _ _ 1, (Below.refl _ _).alloc (Nat.le_refl _) _, by simp⟩
theorem BoxAt.stay {w W W' : World} {n v : ByteArray} (h : BoxAt w n v W) (hb : Below W.heap.size W W') : BoxAt w n v W' :=
  ⟨(hb.cell (p := ⟨w.heap.size, 0, none⟩) h.lt).trans h.c0, (hb.cell (p := ⟨w.heap.size, 1, none⟩) h.lt).trans h.c1, then_ h.below hb, Nat.lt_of_lt_of_le h.lt hb.size⟩
theorem BoxAt.alloc {w W : World} {n v : ByteArray} (h : BoxAt w n v W) (o : Obj) : BoxAt w n v (W.alloc o) := h.stay ((Below.refl _ _).alloc (Nat.le_refl _) _)
theorem BoxAt.drew {w W : World} {n v : ByteArray} (h : BoxAt w n v W) : BoxAt w n v W.drew := h.stay (below_drew _ _)

end Go.Proofs.YtdclmpdjjkjfjaaGreatDoor

/- Package fields, walked: All, One. -/
namespace Go.Proofs.YtdclmpdjjkjfjaaGreatDoor
open Go.RowKit

set_option maxHeartbeats 1600000 in
theorem fdAll_any (l : List (ByteArray × ByteArray)) (name : ByteArray) (ao : Option Addr) (cap n : Nat) (w : World) (hl : IsV w ao cap n (pairV l)) (hn : l.length = n) (hN : n ≤ 1000000) (hs : ∀ p ∈ l, p.1.size ≤ 2000 ∧ p.2.size ≤ 2000) (hnm : name.size ≤ 2000) :
    Calls Tryz.prog 105 #[.slice ao n cap, .string name] w fun e w' => ∃ ao' cap', e = .returned (.slice ao' (Fd.vals name l).length cap') ∧ OwnV w' w.heap.size 9 1 ao' cap' (Fd.vals name l).length (strV (Fd.vals name l)) ∧ Below w.heap.size w w' := by
  subst hn
  obtain ⟨i0, hi0, hz0, hz1, hz2⟩ := info_parts info_str
  have Hi := Hid.mk' hi0; have Hz0 := Hid.mk' hz0; have Hz1 := Hid.mk' hz1; have Hz2 := Hid.mk' hz2
  have H := Hid.mk' hl
  have Hs := Hid.mk' hs
  have HSn := Hid.mk' (lower_any name w (by unfold maxLen; omega))
  clear hl hs hi0 hz0 hz1 hz2
  have HX : Hid (∀ p : ByteArray, ((⟨(Ch.lower p.data.toList).toArray⟩ : ByteArray).toList == (⟨(Ch.lower name.data.toList).toArray⟩ : ByteArray).toList) = decide (Ch.lower p.data.toList = Ch.lower name.data.toList)) := by
    intro p; rw [Lib.toList_data, Lib.toList_data, Bool.eq_iff_iff]; simp
  generalize (⟨(Ch.lower name.data.toList).toArray⟩ : ByteArray) = sn at HSn HX
  go_enter Tryz.func105, Tryz.ntmps105
  go_wp2_with fail
  refine HSn.out.mono ?_
  rintro e w0 ⟨rfl, hb0⟩
  have HB0 := Hid.mk' hb0
  clear hb0 HSn
  go_wp2
  go_loopw [6, 13] (fun v t wr => ∃ (k : Nat) (ao' : Option Addr) (cap' : Nat), k ≤ l.length ∧ t = .int .i64 k ∧ v = .slice ao' (Fd.vals name (l.take k)).length cap' ∧ OwnV wr w.heap.size 9 1 ao' cap' (Fd.vals name (l.take k)).length (strV (Fd.vals name (l.take k))) ∧ Below w.heap.size w wr) (fun _ t _ => l.length - (intOf t).toNat)
  case atStart => exact ⟨0, none, 0, Nat.zero_le _, rfl, rfl, OwnV.nil _ _ _ _, HB0.out⟩
  case round =>
    obtain ⟨k, ao', cap', hk, rfl, rfl, hO, hB⟩ := hrel
    have HO := Hid.mk' hO; have HB := Hid.mk' hB
    clear hO hB HB0
    have hvl := Fd.vals_length name (l.take k)
    have hvk : (l.take k).length ≤ k := List.length_take_le _ _
    by_cases hlt : k < l.length
    · have hpl : 0 < (pairV l).length := by rw [pairV_length]; omega
      obtain ⟨bb, oo, rfl, hcs⟩ := H.out.lit hpl
      have h1 := hcs _ _ (pairV_at l k hlt).1
      have h2 := hcs _ _ (pairV_at l k hlt).2
      rw [← Nat.add_assoc] at h2
      have hc0 := (HB.out.cell (World.block_lt_of_cell? w _ h1)).trans h1
      have hc1 := (HB.out.cell (World.block_lt_of_cell? w _ h2)).trans h2
      clear hcs h1 h2
      have HT : Hid (l.take (k + 1) = l.take k ++ [l[k]]) := List.take_succ_eq_append_getElem hlt
      have hp1 := Hs.out l[k] (List.getElem_mem hlt)
      have HSp := Hid.mk' (fun W => lower_any l[k].1 W (by unfold maxLen; omega))
      have HCl := Hid.mk' (fun W => sclone_any l[k].2 W (by have := hp1.2; omega))
      have hlt' : (k : Int) < l.length := by omega
      have HV := Hid.mk' (Fd.vals_snoc name (l.take k) l[k])
      rw [← HT.out] at HV
      generalize l[k] = p at *
      have HTx := Hid.mk' (HX.out p.1)
      generalize (⟨(Ch.lower p.1.data.toList).toArray⟩ : ByteArray) = sp at HSp HTx
      generalize Fd.vals name (l.take k) = vs at HO HV hvl
      by_cases heq : Ch.lower p.1.data.toList = Ch.lower name.data.toList
      · have hx := HTx.out
        rw [decide_eq_true heq] at hx
        have HV2 : Hid (Fd.vals name (l.take (k + 1)) = vs ++ [p.2]) := by have := HV.out; rw [if_pos heq] at this; exact this
        clear HV HTx heq HX
        go_wp2_with fail
        refine (HSp.out _).mono ?_
        rintro e w1 ⟨rfl, hb1⟩
        have X1 := (BoxAt.made wr p.1 p.2 _).stay hb1
        have B1 := Hid.mk' (then_ HB.out X1.below)
        have O1 := Hid.mk' (HO.out.stay X1.below)
        have c1 := X1.c1
        clear hb1 X1 hc0 hc1
        go_wp2_with fail
        refine (HCl.out _).mono ?_
        rintro e w2 ⟨rfl, hb2⟩
        have HB2 := Hid.mk' (then_ B1.out hb2)
        have HO2 := Hid.mk' (O1.out.stay hb2)
        clear hb2 c1 B1 O1
        go_wp2_with (at_builtin; refine wpList_append_v rfl (.tmp 22) (.tmp 26) 82 rfl w.heap.size 9 i0 (.string ⟨#[]⟩) 1 16 Tryz.underlying82 Hi.out Hz0.out Hz1.out Hz2.out rfl (by decide) rfl (HO2.out.alloc _) rfl (IsV.made _ _ 1 _ _) rfl (fun u hu => by simp at hu; subst hu; rfl) (by omega) (by omega) (by have := HB2.out.size; simp; omega) ?_; intro ao3 cap3 w3 hO3 hG3 _)
        go_roundw
        case rel =>
          have e1 : Fd.vals name (l.take (k + 1)) = vs ++ [p.2] := HV2.out
          refine ⟨k + 1, ao3, cap3, by omega, by go_num, by rw [e1, List.length_append]; rfl, ?_, ?_⟩
          · rw [e1, List.length_append, strV_append]; exact hO3
          · exact (HB2.out.alloc HB2.out.size _).grown hG3 (by have := HB2.out.size; simp; omega) (fun q e => by
              cases ao' with
              | none => simp [blockOf] at e
              | some y => simp only [blockOf, Option.some.injEq] at e; have := (HO2.out.block y rfl).1; omega)
        case measure => simp [intOf]; omega
      · have hx := HTx.out
        rw [decide_eq_false heq] at hx
        have HV2 : Hid (Fd.vals name (l.take (k + 1)) = vs) := by have := HV.out; rw [if_neg heq] at this; exact this
        clear HV HTx heq HX
        go_wp2_with fail
        refine (HSp.out _).mono ?_
        rintro e w1 ⟨rfl, hb1⟩
        have X1 := (BoxAt.made wr p.1 p.2 _).stay hb1
        have B1 := Hid.mk' (then_ HB.out X1.below)
        have O1 := Hid.mk' (HO.out.stay X1.below)
        clear hb1 X1 hc0 hc1
        go_wp2
        go_roundw
        case rel => exact ⟨k + 1, ao', cap', by omega, by go_num, by rw [HV2.out], by rw [HV2.out]; exact O1.out, B1.out⟩
        case measure => simp [intOf]; omega
    · obtain rfl : k = l.length := by omega
      go_wp2
      go_ret
      have e : l.take l.length = l := List.take_length
      have h1 := HO.out
      rw [e] at h1
      exact ⟨ao', cap', by rw [e]; rfl, h1, HB.out⟩
end Go.Proofs.YtdclmpdjjkjfjaaGreatDoor

/- Package fields, walked: One. -/
namespace Go.Proofs.YtdclmpdjjkjfjaaGreatDoor
open Go.RowKit

set_option maxHeartbeats 800000 in
theorem fdOne_any (l : List (ByteArray × ByteArray)) (name : ByteArray) (ao : Option Addr) (cap n : Nat) (w : World) (hl : IsV w ao cap n (pairV l)) (hn : l.length = n) (hN : n ≤ 1000000) (hs : ∀ p ∈ l, p.1.size ≤ 2000 ∧ p.2.size ≤ 2000) (hnm : name.size ≤ 2000) :
    Calls Tryz.prog 72 #[.slice ao n cap, .string name] w fun e w' => e = .returned (txVal (Fd.one (Fd.vals name l))) ∧ Below w.heap.size w w' := by
  have HV := Hid.mk' (fdAll_any l name ao cap n w hl hn hN hs hnm)
  have hvl := Fd.vals_length name l
  rw [hn] at hvl
  generalize Fd.vals name l = vs at HV hvl
  clear hl hs
  rcases vs with _ | ⟨v, _ | ⟨v2, t⟩⟩
  · go_enter Tryz.func72, Tryz.ntmps72
    go_wp2_with fail
    refine HV.out.mono ?_
    rintro e w1 ⟨ao1, cap1, rfl, hO, hB⟩
    have HO := Hid.mk' hO; have HB := Hid.mk' hB
    clear hO hB HV
    go_wp2
    go_ret2
    exact ⟨ret_tx (p := ([], 10)) rfl rfl, HB.out⟩
  · go_enter Tryz.func72, Tryz.ntmps72
    go_wp2_with fail
    refine HV.out.mono ?_
    rintro e w1 ⟨ao1, cap1, rfl, hO, hB⟩
    have HO := Hid.mk' hO; have HB := Hid.mk' hB
    clear hO hB HV
    obtain ⟨bb, oo, rfl, hcs⟩ := HO.out.isV.lit (by simp [strV])
    have hc := hcs 0 (.string v) rfl
    rw [Nat.add_zero] at hc
    clear hcs
    go_wp2
    go_ret2
    exact ⟨ret_tx (p := (v.data.toList, 0)) rfl rfl, HB.out⟩
  · have t0 : (((v :: v2 :: t).length : Int) == 0) = false := by rw [beq_eq_false_iff_ne, List.length_cons, List.length_cons]; omega
    have t1 : (((v :: v2 :: t).length : Int) == 1) = false := by rw [beq_eq_false_iff_ne, List.length_cons, List.length_cons]; omega
    have HR : Hid (Fd.one (v :: v2 :: t) = ([], 9)) := rfl
    generalize v :: v2 :: t = vs at *
    generalize vs.length = L at *
    go_enter Tryz.func72, Tryz.ntmps72
    go_wp2_with fail
    refine HV.out.mono ?_
    rintro e w1 ⟨ao1, cap1, rfl, hO, hB⟩
    have HO := Hid.mk' hO; have HB := Hid.mk' hB
    clear hO hB HV
    go_wp2
    go_ret2
    exact ⟨ret_tx (p := ([], 9)) HR.out rfl, HB.out⟩
end Go.Proofs.YtdclmpdjjkjfjaaGreatDoor
