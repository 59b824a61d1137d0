/- RequestBack, walked. -/
import Derived.Test.YtkbeaehjagdnnacGreatDoorPk27
import Derived.Test.YtkbeaehjagdnnacGreatDoorRqWrE
import Derived.Test.YtkbeaehjagdnnacGreatDoorPk24
import Derived.Test.YtkbeaehjagdnnacGreatDoorLwPiec
import Derived.Test.YtkbeaehjagdnnacGreatDoorPk10
import Derived.Test.YtkbeaehjagdnnacGreatDoorRfSameE
import Derived.Test.YtkbeaehjagdnnacGreatDoorPk13
import Derived.Test.YtkbeaehjagdnnacGreatDoorPk7
import Derived.Test.YtkbeaehjagdnnacGreatDoorPlainRM
import Derived.Test.YtkbeaehjagdnnacGreatDoorPk26
import Derived.Deep.RegionLaw
namespace Go.Proofs.YtkbeaehjagdnnacGreatDoor
open Go.RowKit

theorem old_pair2 {wb w5 : World} {x y : ByteArray} {t : Nat} (h : Below (wb.alloc (.cells #[.string x, .string y] t)).heap.size (wb.alloc (.cells #[.string x, .string y] t)) w5) : ∀ j u, ([.string x, .string y] : List Value)[j]? = some u → w5.cell? (Addr.add ⟨wb.heap.size, 0, none⟩ j) = some u := fun j u hu => by
  have h1 := new_pair wb x y t rfl j u hu
  exact (h.cell (World.block_lt_of_cell? _ _ h1)).trans h1
theorem SmallF.each {l : List (ByteArray × ByteArray)} (h : SmallF l) : ∀ p ∈ l, p.1.size ≤ 2000 ∧ p.2.size ≤ 2000 := fun p hp => by have := h.2 p hp; omega
set_option maxRecDepth 100000 in
set_option maxHeartbeats 2500000 in
theorem requestBack_any (w : World) (m1 t1 m2 t2 : ByteArray) (mi1 ln1 mi2 ln2 : Int) (l1 l2 : List (ByteArray × ByteArray)) (fo1 fo2 ao bo co : Option Addr) (fc1 fc2 ac bc cc na nb nc : Nat) (A B : List UInt8) (cs : List Int)
    (h1 : IsV w fo1 fc1 l1.length (pairV l1)) (h2 : IsV w fo2 fc2 l2.length (pairV l2)) (hA : IsB w ao ac A) (hB : IsB w bo bc B) (hna : A.length = na) (hnb : B.length = nb) (hC : IsV w co cc nc (cs.map fun c => Value.int .i64 c)) (hnc : cs.length = nc)
    (z1 : ∀ p ∈ l1, p.1.size + p.2.size ≤ maxLen) (z2 : ∀ p ∈ l2, p.1.size + p.2.size ≤ maxLen) (q1 : m1.size ≤ 281474976710656) (q2 : t1.size ≤ 281474976710656) (q3 : m2.size ≤ 281474976710656) (q4 : t2.size ≤ 281474976710656) (q5 : na ≤ 281474976710656) (q6 : nb ≤ 281474976710656) (hP : PowAt w) :
    Calls Tryz.prog 5 #[.agg #[.string m1, .string t1, .int .i64 mi1, .slice fo1 l1.length fc1, .int .i64 ln1], .agg #[.string m2, .string t2, .int .i64 mi2, .slice fo2 l2.length fc2, .int .i64 ln2], .slice ao na ac, .slice bo nb bc, .slice co nc cc] w fun e w' => e = .returned (.bool true) ∧ Below w.heap.size w w' := by
  have HV1 := Hid.mk' h1; have HV2 := Hid.mk' h2; have HA := Hid.mk' hA; have HB := Hid.mk' hB; have HC := Hid.mk' hC
  have HNa := Hid.mk' hna; have HNb := Hid.mk' hnb; have HNc := Hid.mk' hnc; have HZ1 := Hid.mk' z1; have HZ2 := Hid.mk' z2; have HP := Hid.mk' hP
  clear h1 h2 hA hB hC hna hnb hnc z1 z2 hP
  have HX : Hid (∀ W, TwoAt w (.cells #[.string m1, .string t1, .int .i64 mi1, .slice fo1 l1.length fc1, .int .i64 ln1] 25 (0, 0)) (.cells #[.string m2, .string t2, .int .i64 mi2, .slice fo2 l2.length fc2, .int .i64 ln2] 25 (0, 0)) W → W.cell? ⟨w.heap.size, 0, none⟩ = some (.string m1) ∧ W.cell? ⟨w.heap.size, 1, none⟩ = some (.string t1) ∧ W.cell? ⟨w.heap.size, 2, none⟩ = some (.int .i64 mi1) ∧ W.cell? ⟨w.heap.size, 3, none⟩ = some (.slice fo1 l1.length fc1) ∧ W.cell? ⟨w.heap.size, 4, none⟩ = some (.int .i64 ln1) ∧ W.cell? ⟨w.heap.size + 1, 0, none⟩ = some (.string m2) ∧ W.cell? ⟨w.heap.size + 1, 1, none⟩ = some (.string t2) ∧ W.cell? ⟨w.heap.size + 1, 2, none⟩ = some (.int .i64 mi2) ∧ W.cell? ⟨w.heap.size + 1, 3, none⟩ = some (.slice fo2 l2.length fc2) ∧ W.cell? ⟨w.heap.size + 1, 4, none⟩ = some (.int .i64 ln2)) := fun W h => ⟨h.cell 0, h.cell 1, h.cell 2, h.cell 3, h.cell 4, h.cell2 0, h.cell2 1, h.cell2 2, h.cell2 3, h.cell2 4⟩
  go_enter Tryz.func5, Tryz.ntmps5
  go_wp2_with fail
  refine (requestBegun_any _).mono ?_
  rintro e w1 ⟨rfl, hb1⟩
  have hT1 : TwoAt w (.cells #[.string m1, .string t1, .int .i64 mi1, .slice fo1 l1.length fc1, .int .i64 ln1] 25 (0, 0)) (.cells #[.string m2, .string t2, .int .i64 mi2, .slice fo2 l2.length fc2, .int .i64 ln2] 25 (0, 0)) w1 := (TwoAt.made w #[.string m1, .string t1, .int .i64 mi1, .slice fo1 l1.length fc1, .int .i64 ln1] #[.string m2, .string t2, .int .i64 mi2, .slice fo2 l2.length fc2, .int .i64 ln2] 25 25).stay hb1
  have HT1 := Hid.mk' hT1
  obtain ⟨x0, x1, x2, x3, x4, y0, y1, y2, y3, y4⟩ := HX.out w1 hT1
  clear hb1 hT1
  by_cases hbig : 9000 < na + nb
  · have t : decide ((na : Int) + nb > 9000) = true := decide_eq_true (by omega)
    go_wp2
    go_ret
    exact ⟨rfl, HT1.out.below⟩
  have t : decide ((na : Int) + nb > 9000) = false := decide_eq_false (by omega)
  go_wp2_with fail
  refine (greatFields_any l1 fo1 fc1 _ w1 (HV1.out.stay HT1.out.below) rfl HZ1.out).mono ?_
  rintro e w2 ⟨g1, rfl, hs1, hw⟩
  have hT2 := HT1.out.stay (drewN_below hw)
  have HT2 := Hid.mk' hT2; have HS1 := Hid.mk' hs1
  clear x0 x1 x2 x3 x4 y0 y1 y2 y3 y4 hw hs1 HT1
  obtain ⟨x0, x1, x2, x3, x4, y0, y1, y2, y3, y4⟩ := HX.out w2 hT2
  clear hT2
  cases g1 with
  | true =>
    go_wp2
    go_ret
    exact ⟨rfl, HT2.out.below⟩
  | false =>
  have HSa : Hid (SmallF l1) := HS1.out rfl
  clear HS1
  go_wp2_with fail
  refine (greatFields_any l2 fo2 fc2 _ w2 (HV2.out.stay HT2.out.below) rfl HZ2.out).mono ?_
  rintro e w3 ⟨g2, rfl, hs2, hw⟩
  have hT3 := HT2.out.stay (drewN_below hw)
  have HT3 := Hid.mk' hT3; have HS2 := Hid.mk' hs2
  clear x0 x1 x2 x3 x4 y0 y1 y2 y3 y4 hw hs2 HT2
  obtain ⟨x0, x1, x2, x3, x4, y0, y1, y2, y3, y4⟩ := HX.out w3 hT3
  clear hT3
  cases g2 with
  | true =>
    go_wp2
    go_ret
    exact ⟨rfl, HT3.out.below⟩
  | false =>
  have HSb : Hid (SmallF l2) := HS2.out rfl
  clear HS2
  by_cases hbg2 : 100 < nc
  · have tt2 : decide ((nc : Int) > 100) = true := decide_eq_true (by omega)
    go_wp2
    go_ret
    exact ⟨rfl, HT3.out.below⟩
  have tt2 : decide ((nc : Int) > 100) = false := decide_eq_false (by omega)
  by_cases hbg3 : 2000 < m1.size + t1.size + m2.size + t2.size
  · have tt3 : decide ((m1.size : Int) + t1.size + m2.size + t2.size > 2000) = true := decide_eq_true (by omega)
    go_wp2
    go_ret
    exact ⟨rfl, HT3.out.below⟩
  have tt3 : decide ((m1.size : Int) + t1.size + m2.size + t2.size > 2000) = false := decide_eq_false (by omega)
  have hz3 : w.heap.size + 2 ≤ w3.heap.size := (Array.getElem?_eq_some_iff.1 HT3.out.two).1
  have HZ3 := Hid.mk' hz3
  clear hz3
  have HW1 := Hid.mk' (write_any w3 m1 t1 mi1 ln1 l1 fo1 ao fc1 l1.length ac na A (HV1.out.stay HT3.out.below) rfl (by have := HSa.out.1; omega) HSa.out.each (by omega) HNa.out (HA.out.stay HT3.out.below) (by omega) (HP.out.stay HT3.out.below))
  go_wp2_with fail
  refine HW1.out.mono ?_
  intro e w4 hWr1
  have b4 : Below w3.heap.size w3 w4 := by cases hWr1 <;> assumption
  have hT4 := HT3.out.stay b4
  have HT4 := Hid.mk' hT4; have HB4 := Hid.mk' b4
  have HW2 := Hid.mk' (write_any w4 m2 t2 mi2 ln2 l2 fo2 bo fc2 l2.length bc nb B (HV2.out.stay hT4.below) rfl (by have := HSb.out.1; omega) HSb.out.each (by omega) HNb.out (HB.out.stay hT4.below) (by omega) (HP.out.stay hT4.below))
  clear x0 x1 x2 x3 x4 y0 y1 y2 y3 y4 HW1 HT3 b4
  obtain ⟨x0, x1, x2, x3, x4, y0, y1, y2, y3, y4⟩ := HX.out w4 hT4
  clear hT4
  cases hWr1 with
  | bad c hc he ht hBb =>
    subst he
    have c1 : ((c : Int) != 0) = true := by rw [bne_iff_ne]; omega
    have c2 : ((c : Int) == 0) = false := by rw [beq_eq_false_iff_ne]; omega
    clear hc ht hBb
    go_wp2_with fail
    refine HW2.out.mono ?_
    intro e w5 hWr2
    cases hWr2 with
    | bad d hd he ht hB5 =>
      subst he
      have HB5 := Hid.mk' (then_ HT4.out.below hB5)
      have d2 : ((d : Int) == 0) = false := by rw [beq_eq_false_iff_ne]; omega
      clear hd ht hB5 HW2
      go_wp2
      go_ret
      exact ⟨rfl, HB5.out⟩
    | ok g cap n he hn ht hO hB5 =>
      subst he
      have HB5 := Hid.mk' (then_ HT4.out.below hB5)
      clear hn ht hO hB5 HW2
      go_wp2
      go_ret
      exact ⟨rfl, HB5.out⟩
  | ok g1 cap1 k1 he hk1 ht1 hO1 hBb =>
  subst he
  have HK1 := Hid.mk' hk1; have Ht1 := Hid.mk' ht1; have HO1 := Hid.mk' hO1
  clear hk1 ht1 hO1 hBb
  go_wp2_with fail
  refine HW2.out.mono ?_
  intro e w5 hWr2
  cases hWr2 with
  | bad d hd he ht hB5 =>
    subst he
    have HB5 := Hid.mk' (then_ HT4.out.below hB5)
    have d1 : ((d : Int) != 0) = true := by rw [bne_iff_ne]; omega
    have d2 : ((d : Int) == 0) = false := by rw [beq_eq_false_iff_ne]; omega
    clear hd ht hB5 HW2
    go_wp2
    go_ret
    exact ⟨rfl, HB5.out⟩
  | ok g2 cap2 k2 he hk2 ht2 hO2 hB5 =>
  subst he
  have hT5 := HT4.out.stay hB5
  have HT5 := Hid.mk' hT5; have HB5 := Hid.mk' hB5
  have HK2 := Hid.mk' hk2; have Ht2 := Hid.mk' ht2; have HO2 := Hid.mk' hO2
  clear hk2 ht2 hO2 hB5 HW2 x0 x1 x2 x3 x4 y0 y1 y2 y3 y4
  obtain ⟨x0, x1, x2, x3, x4, y0, y1, y2, y3, y4⟩ := HX.out w5 hT5
  clear hT5 HT4
  have hsz1 := Rq.text_size (Rq.hdT m1 t1 l1) A Ht1.out
  have hsz2 := Rq.text_size (Rq.hdT m2 t2 l2) B Ht2.out
  have HTl := Hid.mk' (Rq.back_two (Rq.hdT m1 t1 l1) (Rq.hdT m2 t2 l2) A B Ht1.out Ht2.out)
  have HF1 := Hid.mk' (Rq.text_fields (Rq.hdT m1 t1 l1) A Ht1.out)
  have HF2 := Hid.mk' (Rq.text_fields (Rq.hdT m2 t2 l2) B Ht2.out)
  generalize (Rq.text (Rq.hdT m1 t1 l1) A).1 = X at *
  generalize (Rq.text (Rq.hdT m2 t2 l2) B).1 = Y at *
  obtain rfl := HK1.out
  obtain rfl := HK2.out
  have k1le : X.length ≤ 8000 := hsz1.2
  have k2le : Y.length ≤ 8000 := hsz2.2
  clear hsz1 hsz2 HK1 HK2 Ht1 Ht2
  go_wp2_with fail
  refine (newReq_any w5).mono ?_
  rintro e w6 ⟨g, rfl, hR, hb6⟩
  have hMem5 : BkMem w ⟨m1, t1, mi1, ln1, l1, fo1, fc1, A, ao, ac⟩ ⟨m2, t2, mi2, ln2, l2, fo2, fc2, B, bo, bc⟩ w5 := ⟨HT5.out, HdIn.turns (W := w) ⟨HV1.out.old, HA.out.old⟩ (Turns.of_below (S := fun _ => False) (HT5.out.below)) (fun _ e => e.elim), HdIn.turns (W := w) ⟨HV2.out.old, HB.out.old⟩ (Turns.of_below (S := fun _ => False) (HT5.out.below)) (fun _ e => e.elim)⟩
  have HM6 := Hid.mk' (hMem5.stay hb6)
  have HC6 : Hid (IsVS w6 (fun k => k < w.heap.size) co cc nc (cs.map fun c => Value.int .i64 c)) := HC.out.old.turns (Turns.of_below (S := fun _ => False) (then_ HT5.out.below hb6)) (fun _ _ e => e)
  have HR := Hid.mk' hR; have HB6 := Hid.mk' hb6
  have HU := Hid.mk' (HO1.out.keep (then_ HB5.out hb6))
  have HS6 := Hid.mk' (src_bytes Tryz.underlying22 (HO2.out.isB.stay hb6) rfl)
  have HG1 : Hid (w3.heap.size ≤ g1 ∧ g1 < w4.heap.size ∧ w4.heap.size ≤ w5.heap.size ∧ w5.heap.size ≤ w6.heap.size ∧ w.heap.size + 2 ≤ w3.heap.size) := ⟨HO1.out.base_, HO1.out.lt, HB5.out.size, hb6.size, HZ3.out⟩
  clear hMem5 hR hb6 HO1 HO2 HT5 HX HV1 HV2 HA HB HC HZ1 HZ2 HB4 HB5 HB6 HZ3 x0 x1 x2 x3 x4 y0 y1 y2 y3 y4
  obtain ⟨j0, hj0, hy0, hy1, hy2⟩ := info_parts info_u8
  have Hj := Hid.mk' hj0; have Hy0 := Hid.mk' hy0; have Hy1 := Hid.mk' hy1; have Hy2 := Hid.mk' hy2
  clear hj0 hy0 hy1 hy2
  go_wp2_with (at_builtin; refine wpList_append_buf_at rfl (.tmp 101) (.tmp 102) 22 22 rfl 5 j0 Tryz.underlying22 Hj.out Hy0.out Hy1.out Hy2.out rfl HU.out rfl _ _ rfl HS6.out (by omega) ?_; intro g3 cap3 w7 hU7 hT7 hat7; have HU7 := Hid.mk' hU7; have HT7 := Hid.mk' hT7; have HA7 := Hid.mk' hat7; clear hU7 hT7 hat7)
  have HM7 := Hid.mk' (HM6.out.turns HT7.out (fun k e => by have := HG1.out; omega))
  have HC7 := Hid.mk' (HC6.out.turns HT7.out (fun k a b => by have := HG1.out; omega))
  have HR7 : Hid (ReqAt w7 (fun k => w5.heap.size ≤ k ∧ k < w6.heap.size) g Rq.start) := (HR.out.mono (S' := fun k => w5.heap.size ≤ k ∧ k < w6.heap.size) (fun k hk e => ⟨e, hk⟩)).turns HT7.out (fun k a b => by have := HG1.out; omega)
  have HB7 : Hid (Below w.heap.size w w7) := HM7.out.two.below
  have HPc0 := Hid.mk' (pieces_any w7 (X ++ Y) (some ⟨g3, 0, none⟩) co cap3 (X.length + Y.length) cc nc cs HU7.out.isB (by rw [List.length_append]) (by omega) HC7.out.is HNc.out (by omega))
  have HG3 : Hid (¬ (w5.heap.size ≤ g3 ∧ g3 < w6.heap.size)) := fun e => by
    have := HG1.out
    rcases HA7.out with k | k <;> omega
  have HXY : Hid ((X ++ Y).length ≤ 16000) := by show _ ≤ _; rw [List.length_append]; omega
  have HT7s : Hid (w6.heap.size ≤ w7.heap.size) := HT7.out.size
  clear HM6 HC6 HC7 HR HU HS6 HA7 HT7
  generalize X ++ Y = Z at *
  go_wp2_with fail
  refine HPc0.out.mono ?_
  rintro e w8 ⟨ps, po, pcap, rfl, hPc, hpl⟩
  have HPc := Hid.mk' hPc
  have hp1 : ps.length ≤ 101 := by omega
  have hp0 : 0 < ps.length := by omega
  have HM8 := Hid.mk' (HM7.out.stay hPc.below)
  have HGa := Hid.mk' (GaAt.start (HR7.out.stay hPc.below))
  have HFl : Hid ((ps.map Pc.l).flatten = Z) := by unfold Hid; rw [hPc.flat, List.take_length]
  have HSz : Hid (w5.heap.size ≤ w6.heap.size ∧ w6.heap.size ≤ w7.heap.size ∧ w7.heap.size ≤ w8.heap.size ∧ w.heap.size + 2 ≤ w5.heap.size ∧ g3 < w7.heap.size) := ⟨HG1.out.2.2.2.1, HT7s.out, hPc.below.size, by have := HG1.out; omega, HU7.out.lt⟩
  clear hPc hpl HPc0 HM7 HR7
  obtain ⟨rb, ro, rfl, _⟩ := HPc.out.own.isV.lit (by rw [pcV_length]; exact hp0)
  have hcap := HPc.out.own.isV.1
  have HBig : Hid (∀ k, (Rq.fed Rq.start ((ps.map Pc.l).take k)).length ≤ 40000) := fun k => by
    have h1 := Rq.fed_len ((ps.map Pc.l).take k) Rq.start
    have h2 : ((ps.map Pc.l).take k).flatten.length ≤ Z.length := by
      have := congrArg List.length (HFl.out)
      rw [← this]
      conv => rhs; rw [← List.take_append_drop k (ps.map Pc.l), List.flatten_append, List.length_append]
      omega
    have := HXY.out
    omega
  obtain ⟨i0, hi0, hz0, hz1, hz2⟩ := info_parts info_ev
  have Hi := Hid.mk' hi0; have Hz0 := Hid.mk' hz0; have Hz1 := Hid.mk' hz1; have Hz2 := Hid.mk' hz2
  clear hi0 hz0 hz1 hz2
  go_wp2
  go_loopw [16, 18] (fun va vi wr => ∃ (i m : Nat) (ao' : Option Addr) (cap' : Nat), i ≤ ps.length ∧ vi = .int .i64 i ∧ va = .slice ao' m cap' ∧ m = (Rq.fed Rq.start ((ps.map Pc.l).take i)).length ∧ GaAt w8 (fun k => w5.heap.size ≤ k ∧ k < w6.heap.size) g (Rq.fold Rq.start ((ps.map Pc.l).take i).flatten) (Rq.fed Rq.start ((ps.map Pc.l).take i)) ao' cap' wr) (fun _ vi _ => ps.length - (intOf vi).toNat)
  case atStart => exact ⟨0, 0, none, 0, Nat.zero_le _, rfl, rfl, rfl, HGa.out⟩
  case round =>
    clear HGa
    obtain ⟨i, m, ao', cap', hi, rfl, rfl, hm, hG⟩ := hrel
    have HG := Hid.mk' hG; have HM := Hid.mk' hm
    have hm4 : m ≤ 40000 := by have := HBig.out i; omega
    clear hG hm
    by_cases hlt : i < ps.length
    · have hlt' : (i : Int) < ps.length := by omega
      have ci : wr.cell? ⟨rb, ro + i, none⟩ = some (.slice ps[i].ao ps[i].l.length ps[i].cap) := by
        have hv := HPc.out.own.isV.turns HG.out.turns (fun a e => by
          have hb := (HPc.out.own.block a e).1
          intro k
          have := HSz.out
          omega)
        have hc := hv.cell (j := i) (u := ps[i].v) (by unfold pcV; rw [List.getElem?_map, List.getElem?_eq_getElem hlt]; rfl)
        rw [Addr.add_lit] at hc
        exact hc
      have HPi := Hid.mk' (HPc.out.all ps[i] (List.getElem_mem hlt))
      have HT : Hid ((ps.map Pc.l).take (i + 1) = (ps.map Pc.l).take i ++ [ps[i].l]) := by
        unfold Hid
        rw [List.take_succ_eq_append_getElem (by rw [List.length_map]; exact hlt), List.getElem_map]
      have hpl : ps[i].l.length ≤ 16000 := by
        have h2 := congrArg List.length HFl.out
        have h3 : ps[i].l.length ≤ (ps.map Pc.l).flatten.length := by
          conv => rhs; rw [← List.take_append_drop (i + 1) (ps.map Pc.l), HT.out, List.flatten_append, List.flatten_append, List.length_append, List.length_append]
          simp; omega
        have := HXY.out
        omega
      have HF := Hid.mk' (HG.out.feed (Rq.Good.fold _ Rq.Good.start) ps[i].l ps[i].ao ps[i].cap ps[i].l.length (HPi.out.is.stay HPc.out.below) (fun hne a e k => by
        obtain ⟨a0, e0, hb⟩ := HPi.out.blk hne a e
        injection e0 with e0
        subst e0
        have h3 : a.block = g3 := hb
        rw [h3] at k
        exact HG3.out k) rfl (by omega))
      have HBg := Hid.mk' (HBig.out (i + 1))
      rw [HT.out, Rq.fed_snoc, List.length_append] at HBg
      have hbg := HBg.out
      have HT2 : Hid (((ps.map Pc.l).take (i + 1)).flatten = ((ps.map Pc.l).take i).flatten ++ ps[i].l) := by unfold Hid; rw [HT.out, List.flatten_append]; simp
      have HT3 : Hid (Rq.fed Rq.start ((ps.map Pc.l).take (i + 1)) = Rq.fed Rq.start ((ps.map Pc.l).take i) ++ Rq.join (Rq.outs (Rq.fold Rq.start ((ps.map Pc.l).take i).flatten) ps[i].l)) := by unfold Hid; rw [HT.out, Rq.fed_snoc]
      clear HPi
      generalize ps[i] = p at *
      generalize hfs : Rq.join (Rq.outs (Rq.fold Rq.start ((ps.map Pc.l).take i).flatten) p.l) = fs at *
      generalize hfn : fs.length = fn at *
      have HFn := Hid.mk' hfn; have HFs := Hid.mk' hfs
      clear hfn hfs HG
      have hmf : m + fn ≤ 40000 := by have := HM.out; omega
      clear hbg HBg
      go_wp2_with fail
      refine HF.out.mono ?_
      rintro e w9 ⟨fo, fc, rfl, hFd⟩
      clear HF
      have HFd := Hid.mk' hFd
      clear hFd ci
      obtain ⟨xs, ys, hO1, hV2, hy, hy1, hMo⟩ := HFd.out.more
      rw [← HM.out] at hO1 hMo
      rw [HFn.out] at hV2 hy hMo
      have HO1 := Hid.mk' hO1; have HV2 := Hid.mk' hV2; have HY := Hid.mk' hy; have HY1 := Hid.mk' hy1; have HMo := Hid.mk' hMo
      clear hO1 hV2 hy hy1 hMo HFd
      go_wp2_with (at_builtin; go_loud (refine wpList_append_v rfl (.tmp 112) (.tmp 118) 26 rfl 0 32 i0 (.agg #[.int .i64 0, .string ⟨#[]⟩, .string ⟨#[]⟩, .int .i64 0, .slice none 0 0, .int .i64 0, .slice none 0 0, .string ⟨#[]⟩, .string ⟨#[]⟩, .string ⟨#[]⟩, .slice none 0 0, .int .i64 0]) 12 184 Tryz.underlying26 Hi.out Hz0.out Hz1.out Hz2.out rfl (by decide) rfl HO1.out rfl HV2.out HY.out HY1.out (by omega) (by omega) (Nat.zero_le _) ?_; intro ao3 cap3 w10 hO3 hG3 hat3; have HGn := Hid.mk' (HMo.out ao3 cap3 w10 hO3 hG3 hat3); clear hO3 hG3 hat3))
      go_roundw
      case rel => exact ⟨i + 1, m + fn, ao3, cap3, by omega, by go_num, by go_num, by rw [HT3.out, List.length_append, HFn.out, ← HM.out], by rw [HT2.out, HT3.out, Rq.fold_append]; exact HGn.out⟩
      case measure => simp [intOf]; omega
    · obtain rfl : i = ps.length := by omega
      have htk : (ps.map Pc.l).take ps.length = ps.map Pc.l := by rw [List.take_of_length_le]; rw [List.length_map]; omega
      rw [htk, HFl.out] at HG
      rw [htk] at HM
      have HM9 := Hid.mk' (HM8.out.turns HG.out.turns (fun k e => by have := HSz.out; omega))
      have x0 : wr.cell? ⟨w.heap.size, 0, none⟩ = some (.string m1) := HM9.out.two.cell 0
      have x1 : wr.cell? ⟨w.heap.size, 1, none⟩ = some (.string t1) := HM9.out.two.cell 1
      have x2 : wr.cell? ⟨w.heap.size, 2, none⟩ = some (.int .i64 mi1) := HM9.out.two.cell 2
      have x3 : wr.cell? ⟨w.heap.size, 3, none⟩ = some (.slice fo1 l1.length fc1) := HM9.out.two.cell 3
      have x4 : wr.cell? ⟨w.heap.size, 4, none⟩ = some (.int .i64 ln1) := HM9.out.two.cell 4
      have y0 : wr.cell? ⟨w.heap.size + 1, 0, none⟩ = some (.string m2) := HM9.out.two.cell2 0
      have y1 : wr.cell? ⟨w.heap.size + 1, 1, none⟩ = some (.string t2) := HM9.out.two.cell2 1
      have y2 : wr.cell? ⟨w.heap.size + 1, 2, none⟩ = some (.int .i64 mi2) := HM9.out.two.cell2 2
      have y3 : wr.cell? ⟨w.heap.size + 1, 3, none⟩ = some (.slice fo2 l2.length fc2) := HM9.out.two.cell2 3
      have y4 : wr.cell? ⟨w.heap.size + 1, 4, none⟩ = some (.int .i64 ln2) := HM9.out.two.cell2 4
      have HJf := Hid.mk' (Rq.fed_all (ps.map Pc.l) Rq.start Rq.Good.start)
      have HJe := Hid.mk' (Rq.join_fed (ps.map Pc.l) Rq.start)
      rw [HFl.out] at HJf HJe
      generalize Rq.fed Rq.start (ps.map Pc.l) = fd at *
      clear htk HM8 HPc HBig hlt hi
      generalize wr = wo at *
      have HW0 : Hid (WnRel wo ⟨m1, t1, mi1, ln1, l1, fo1, fc1, A, ao, ac⟩ ⟨m2, t2, mi2, ln2, l2, fo2, fc2, B, bo, bc⟩ 0 none 0 ((wo.alloc (.cells #[.string m1, .string t1, .int .i64 mi1, .slice fo1 l1.length fc1, .int .i64 ln1, .string m2, .string t2, .int .i64 mi2, .slice fo2 l2.length fc2, .int .i64 ln2] 25)).alloc (.cells #[.slice ao na ac, .slice bo nb bc] 22))) := by
        have e1 := HNa.out; have e2 := HNb.out
        subst e1; subst e2
        exact ⟨TwoAt.made wo _ _ 25 22, WantAt.nil _ _ _⟩
      have HDs : Hid (∀ d : HdD, (d = ⟨m1, t1, mi1, ln1, l1, fo1, fc1, A, ao, ac⟩ ∨ d = ⟨m2, t2, mi2, ln2, l2, fo2, fc2, B, bo, bc⟩) → HdIn w d wo ∧ 0 < d.l.length ∧ d.l.length < 16 ∧ d.body.length ≤ 4000) := by
        have e1 : (Rq.flB l1).length = l1.length := by simp [Rq.flB]
        have e2 : (Rq.flB l2).length = l2.length := by simp [Rq.flB]
        intro d hd
        rcases hd with rfl | rfl
        · have := HF1.out
          exact ⟨HM9.out.one, by show 0 < l1.length; rw [← e1]; exact this.1, by show l1.length < 16; rw [← e1]; exact this.2.1, this.2.2⟩
        · have := HF2.out
          exact ⟨HM9.out.snd, by show 0 < l2.length; rw [← e2]; exact this.1, by show l2.length < 16; rw [← e2]; exact this.2.1, this.2.2⟩
      have HSo : Hid (w.heap.size + 2 ≤ wo.heap.size) := (Array.getElem?_eq_some_iff.1 HM9.out.two.two).1
      have HBo : Hid (Below w.heap.size w wo) := HM9.out.two.below
      clear HF1 HF2 HM9 HSa HSb HB7 HU7 HFl HNc
      go_wp2
      generalize hd1 : (⟨m1, t1, mi1, ln1, l1, fo1, fc1, A, ao, ac⟩ : HdD) = d1 at *
      generalize hd2 : (⟨m2, t2, mi2, ln2, l2, fo2, fc2, B, bo, bc⟩ : HdD) = d2 at *
      go_loopw [19, 22] (fun vw vi wr => ∃ (i n : Nat) (a2 : Option Addr) (c2 : Nat), i ≤ 2 ∧ vi = .int .i64 i ∧ vw = .slice a2 n c2 ∧ n = (([d1, d2].take i).flatMap HdD.evs).length ∧ WnRel wo d1 d2 i a2 c2 wr) (fun _ vi _ => 2 - (intOf vi).toNat)
      case atStart => exact ⟨0, 0, none, 0, Nat.zero_le _, rfl, rfl, rfl, HW0.out⟩
      case round =>
        clear HW0 x0 x1 x2 x3 x4 y0 y1 y2 y3 y4
        obtain ⟨i, n, a2, c2, hi, rfl, rfl, hn, hW⟩ := hrel
        have HW := Hid.mk' hW; have HN := Hid.mk' hn
        clear hW hn
        by_cases hlt : i < 2
        · obtain ⟨d, hd, hevs, hWn⟩ := WnAt.of (w := w) HW.out.two i hlt
          obtain ⟨hDin, hl0, hl16, hb4⟩ := HDs.out d hd
          have hlt' : (i : Int) < 2 := by omega
          have c0 := hWn.m; have c1 := hWn.t; have c2' := hWn.mi; have c3 := hWn.f; have c4 := hWn.ln; have c5 := hWn.b
          have HWn := Hid.mk' hWn; have HEv := Hid.mk' hevs; have HDi := Hid.mk' (hDin.stay HW.out.two.below)
          have hn3 : n ≤ 6 := by
            have := HN.out
            match i, hlt, this with
            | 0, _, e => simp at e; omega
            | 1, _, e => have := evs_length d1; simp at e; omega
          clear hWn hevs hDin hd
          go_upto_region 22 with fail
          have hne : wo.heap.size + 2 ≤ wr.heap.size := (Array.getElem?_eq_some_iff.1 HW.out.two.two).1
          have hne1 : ¬ wo.heap.size + 1 = wr.heap.size := by omega
          have b5 : (wr.alloc (.cells #[.string d.m, .string d.t, .int .i64 d.mi, .slice d.fo d.l.length d.fc, .int .i64 d.ln] 25)).cell? ⟨wo.heap.size + 1, i, none⟩ = some (.slice d.bo d.body.length d.bc) := (HWn.out.stay ((Below.refl _ _).alloc (Nat.le_refl _) _)).b
          have b6 : (wr.alloc (.cells #[.string d.m, .string d.t, .int .i64 1, .slice d.fo d.l.length d.fc, .int .i64 d.ln] 25)).cell? ⟨wo.heap.size + 1, i, none⟩ = some (.slice d.bo d.body.length d.bc) := (HWn.out.stay ((Below.refl _ _).alloc (Nat.le_refl _) _)).b
          have HK0 := Hid.mk' (OneAt.made wr #[.string d.m, .string d.t, .int .i64 d.mi, .slice d.fo d.l.length d.fc, .int .i64 d.ln] 25)
          clear c0 c1 c2' c3 c4 c5
          go_cut [139] from 126 to 177 (fun _ wd => OneAt wr #[.string d.m, .string d.t, .int .i64 1, .slice d.fo d.l.length d.fc, .int .i64 (d.body.length : Int)] 25 wd)
          case first =>
            go_region
            all_goals (go_wp2; go_meet; exact (OneAt.made wr #[.string d.m, .string d.t, .int .i64 1, .slice d.fo d.l.length d.fc, .int .i64 (d.body.length : Int)] 25).stay (below_drew _ _))
          case rest =>
            have HK1 := Hid.mk' hcut
            clear hcut b5 HK0
            go_upto_region 24 with fail
            have HSrc : Hid (∀ W, Below wr.heap.size wr W → IsV W d.fo d.fc d.l.length (pairV d.l)) := fun W hW => HDi.out.fields.is.stay hW
            have HNum : Hid (∀ W, Calls Tryz.prog 21 #[.int .i64 (d.body.length : Int)] W fun e w' => e = .returned (.string ⟨(Ch.decF 8 d.body.length).toArray⟩) ∧ Below W.heap.size W w') := fun W => (num_f 8 d.body.length W (by simp; omega) (by omega) (by omega)).mono (fun e w' h => ⟨h.1, drewN_below h.2⟩)
            have HSt : Hid (∀ W cs, OneAt wr cs 25 W → W.cell? ⟨wo.heap.size + 1, i, none⟩ = some (.slice d.bo d.body.length d.bc) ∧ W.frozen? ⟨wr.heap.size, 3, none⟩ = false) := fun W cs h => ⟨(h.below.cell (World.block_lt_of_cell? wr _ HWn.out.b)).trans HWn.out.b, h.fz 3⟩
            have HPl : Hid ((pairV d.l).length = d.l.length * 2 ∧ 0 < d.l.length ∧ d.l.length ≤ maxLen ∧ d.l.length * 32 ≤ 140737488355328) := ⟨pairV_length _, hl0, by unfold maxLen; omega, by omega⟩
            have HN1 : Hid (d.l.length + 1 ≤ maxLen ∧ (d.l.length + 1) * 32 ≤ 140737488355328) := ⟨by unfold maxLen; omega, by omega⟩
            obtain ⟨i1, hi1, hw0, hw1, hw2⟩ := info_parts info_fld
            have Hi1 := Hid.mk' hi1; have Hw0 := Hid.mk' hw0; have Hw1 := Hid.mk' hw1; have Hw2 := Hid.mk' hw2
            clear hi1 hw0 hw1 hw2
            have HX0 := Hid.mk' (HK1.out.stay (below_drew _ _))
            have l0 : wc.cell? ⟨wr.heap.size, 3, none⟩ = some (.slice d.fo d.l.length d.fc) := HK1.out.cell 3
            obtain ⟨s1, s2⟩ := HSt.out wc _ HK1.out
            go_cut [142] from 126 to 177 (fun _ wd => ∃ fo2 fcap2, OneAt wr #[.string d.m, .string d.t, .int .i64 1, .slice fo2 (d.l.length + 1) fcap2, .int .i64 (d.body.length : Int)] 25 wd ∧ IsVS wd (fun k => wr.heap.size < k) fo2 fcap2 (d.l.length + 1) (pairV (d.l ++ [(clB, ⟨(Ch.decF 8 d.body.length).toArray⟩)])))
            case first =>
              go_region_law (first
                | (refine step_append_lies _ (by rfl) _ _ _ (by rfl) (wr.heap.size + 1) 51 i1 (.agg #[.string ⟨#[]⟩, .string ⟨#[]⟩]) 2 32 Tryz.underlying23 Hi1.out Hw0.out Hw1.out Hw2.out (by rfl) (by decide) (.slice (some ⟨g4, 0, none⟩) d.l.length cap4) d.l.length (pairV d.l) (by rfl) ((HO13.out.stay HB12.out).alloc _) ⟨w12.heap.size, 0, none⟩ 1 1 [.string ⟨#[67, 111, 110, 116, 101, 110, 116, 45, 76, 101, 110, 103, 116, 104]⟩, .string ⟨(Ch.decF 8 d.body.length).toArray⟩] (by rfl) (by rfl) (new_pair _ _ _ _ rfl) (one_pair _ _) (by decide) HN1.out.1 HN1.out.2 (OneAt.lt (HX12.out.stay ((Below.refl _ _).alloc (Nat.le_refl _) _))) (w12.heap.size + 1) (by simp) ?_; intro g6 cap6 w15 hown6 hgrow hat6 hlt6; have HO6 := Hid.mk' hown6; have hx15 := OneAt.grow (HX12.out.stay ((Below.refl _ _).alloc (Nat.le_refl _) _)) hgrow HG4.out; have l15 : w15.cell? ⟨wr.heap.size, 3, none⟩ = some (.slice d.fo d.l.length d.fc) := hx15.cell 3; have f15 := hx15.fz 3; have HX15 := Hid.mk' hx15; clear hown6 hgrow hat6 hlt6 hx15; skip)
                | (refine step_append_lies _ (by rfl) _ _ _ (by rfl) (wr.heap.size + 1) 51 i1 (.agg #[.string ⟨#[]⟩, .string ⟨#[]⟩]) 2 32 Tryz.underlying23 Hi1.out Hw0.out Hw1.out Hw2.out (by rfl) (by decide) (.slice (some ⟨g4, 0, none⟩) d.l.length cap4) d.l.length (pairV d.l) (by rfl) (HO13.out.alloc _) ⟨w13.heap.size, 0, none⟩ 1 1 [.string ⟨#[67, 111, 110, 116, 101, 110, 116, 45, 76, 101, 110, 103, 116, 104]⟩, .string ⟨(Ch.decF 8 d.body.length).toArray⟩] (by rfl) (by rfl) (new_pair _ _ _ _ rfl) (one_pair _ _) (by decide) HN1.out.1 HN1.out.2 (OneAt.lt (HX13.out.stay ((Below.refl _ _).alloc (Nat.le_refl _) _))) (w13.heap.size + 1) (by simp) ?_; intro g6 cap6 w15 hown6 hgrow hat6 hlt6; have HO6 := Hid.mk' hown6; have hx15 := OneAt.grow (HX13.out.stay ((Below.refl _ _).alloc (Nat.le_refl _) _)) hgrow HG4.out; have l15 : w15.cell? ⟨wr.heap.size, 3, none⟩ = some (.slice d.fo d.l.length d.fc) := hx15.cell 3; have f15 := hx15.fz 3; have HX15 := Hid.mk' hx15; clear hown6 hgrow hat6 hlt6 hx15; skip)
                | (refine step_append_lies _ (by rfl) _ _ _ (by rfl) (wr.heap.size + 1) 51 i1 (.agg #[.string ⟨#[]⟩, .string ⟨#[]⟩]) 2 32 Tryz.underlying23 Hi1.out Hw0.out Hw1.out Hw2.out (by rfl) (by decide) (.slice (some ⟨g4, 0, none⟩) d.l.length cap4) d.l.length (pairV d.l) (by rfl) HO13.out ⟨w12.heap.size, 0, none⟩ 1 1 [.string ⟨#[67, 111, 110, 116, 101, 110, 116, 45, 76, 101, 110, 103, 116, 104]⟩, .string ⟨(Ch.decF 8 d.body.length).toArray⟩] (by rfl) (by rfl) (old_pair2 HB13.out) (one_pair _ _) (by decide) HN1.out.1 HN1.out.2 (OneAt.lt HX13.out) w13.heap.size (by rfl) ?_; intro g6 cap6 w15 hown6 hgrow hat6 hlt6; have HO6 := Hid.mk' hown6; have hx15 := OneAt.grow HX13.out hgrow HG4.out; have l15 : w15.cell? ⟨wr.heap.size, 3, none⟩ = some (.slice d.fo d.l.length d.fc) := hx15.cell 3; have f15 := hx15.fz 3; have HX15 := Hid.mk' hx15; clear hown6 hgrow hat6 hlt6 hx15; skip)
                | (refine step_append_nilV (by rfl) _ _ _ (by rfl) (wr.heap.size + 1) 51 i1 (.agg #[.string ⟨#[]⟩, .string ⟨#[]⟩]) 2 32 Tryz.underlying23 Hi1.out Hw0.out Hw1.out Hw2.out (by rfl) (by decide) (by rfl) d.fo d.l.length d.fc (pairV d.l) (by rfl) HPl.out.1 (HSrc.out _ (OneAt.below HX0.out)) (pairV_one _) HPl.out.2.1 HPl.out.2.2.1 HPl.out.2.2.2 (OneAt.lt HX0.out) ?_; intro g4 cap4 w13 hO13 hb13; have hx13 := OneAt.stay (w := wr) HX0.out hb13; have HG4 : Hid (wr.heap.size < g4) := (hO13.block _ rfl).1; have HO13 := Hid.mk' hO13; have HB13 := Hid.mk' hb13; have s13 := (HSt.out _ _ hx13).1; have HX13 := Hid.mk' hx13; clear hO13 hb13 hx13; skip)
                | (refine step_append_nilV (by rfl) _ _ _ (by rfl) (wr.heap.size + 1) 51 i1 (.agg #[.string ⟨#[]⟩, .string ⟨#[]⟩]) 2 32 Tryz.underlying23 Hi1.out Hw0.out Hw1.out Hw2.out (by rfl) (by decide) (by rfl) d.fo d.l.length d.fc (pairV d.l) (by rfl) HPl.out.1 (HSrc.out _ (OneAt.below HX12.out)) (pairV_one _) HPl.out.2.1 HPl.out.2.2.1 HPl.out.2.2.2 (OneAt.lt HX12.out) ?_; intro g4 cap4 w13 hO13 hb13; have hx13 := OneAt.stay (w := wr) HX12.out hb13; have HG4 : Hid (wr.heap.size < g4) := (hO13.block _ rfl).1; have HO13 := Hid.mk' hO13; have HB13 := Hid.mk' hb13; have s13 := (HSt.out _ _ hx13).1; have HX13 := Hid.mk' hx13; clear hO13 hb13 hx13; skip)
                | (refine step_append_nilV (by rfl) _ _ _ (by rfl) (wr.heap.size + 1) 51 i1 (.agg #[.string ⟨#[]⟩, .string ⟨#[]⟩]) 2 32 Tryz.underlying23 Hi1.out Hw0.out Hw1.out Hw2.out (by rfl) (by decide) (by rfl) d.fo d.l.length d.fc (pairV d.l) (by rfl) HPl.out.1 (HSrc.out _ (OneAt.below (HX12.out.stay ((Below.refl _ _).alloc (Nat.le_refl _) _)))) (pairV_one _) HPl.out.2.1 HPl.out.2.2.1 HPl.out.2.2.2 (OneAt.lt (HX12.out.stay ((Below.refl _ _).alloc (Nat.le_refl _) _))) ?_; intro g4 cap4 w13 hO13 hb13; have hx13 := OneAt.stay (w := wr) (HX12.out.stay ((Below.refl _ _).alloc (Nat.le_refl _) _)) hb13; have HG4 : Hid (wr.heap.size < g4) := (hO13.block _ rfl).1; have HO13 := Hid.mk' hO13; have HB13 := Hid.mk' hb13; have s13 := (HSt.out _ _ hx13).1; have HX13 := Hid.mk' hx13; clear hO13 hb13 hx13; skip)
                | (go_simp; go_at_call 21; refine (HNum.out _).mono ?_; rintro e w12 ⟨rfl, hb12⟩; have hx12 := OneAt.stay (w := wr) HX13.out hb12; have l12 : w12.cell? ⟨wr.heap.size, 3, none⟩ = some (.slice d.fo d.l.length d.fc) := hx12.cell 3; have l12a : (w12.alloc (.cells #[.string ⟨#[67, 111, 110, 116, 101, 110, 116, 45, 76, 101, 110, 103, 116, 104]⟩, .string ⟨(Ch.decF 8 d.body.length).toArray⟩] 51)).cell? ⟨wr.heap.size, 3, none⟩ = some (.slice d.fo d.l.length d.fc) := (hx12.stay ((Below.refl _ _).alloc (Nat.le_refl _) _)).cell 3; have HB12 := Hid.mk' hb12; have HX12 := Hid.mk' hx12; clear hb12 hx12)
                | (go_simp; go_at_call 21; refine (HNum.out _).mono ?_; rintro e w12 ⟨rfl, hb12⟩; have hx12 := OneAt.stay (w := wr) HX0.out hb12; have l12 : w12.cell? ⟨wr.heap.size, 3, none⟩ = some (.slice d.fo d.l.length d.fc) := hx12.cell 3; have l12a : (w12.alloc (.cells #[.string ⟨#[67, 111, 110, 116, 101, 110, 116, 45, 76, 101, 110, 103, 116, 104]⟩, .string ⟨(Ch.decF 8 d.body.length).toArray⟩] 51)).cell? ⟨wr.heap.size, 3, none⟩ = some (.slice d.fo d.l.length d.fc) := (hx12.stay ((Below.refl _ _).alloc (Nat.le_refl _) _)).cell 3; have HB12 := Hid.mk' hb12; have HX12 := Hid.mk' hx12; clear hb12 hx12))
              all_goals (go_wp2; go_meet; exact ⟨some ⟨g6, 0, none⟩, cap6, (fields_out HX15.out HO6.out (.slice (some ⟨g6, 0, none⟩) (d.l.length + 1) cap6)).1, by rw [pairV_append]; exact (fields_out HX15.out HO6.out (.slice (some ⟨g6, 0, none⟩) (d.l.length + 1) cap6)).2⟩)
            case rest =>
              obtain ⟨fo2, fcap2, hK, hF⟩ := hcut
              have hWc : WrAt w wo d1 d2 d a2 c2 (([d1, d2].take i).flatMap HdD.evs) wc := WrAt.stay (W := wr) ⟨HW.out.two, HW.out.want, HDi.out⟩ hK.below
              have HIn : Hid (InE wc (fun k => blockOf a2 ≠ some k) d.head ⟨fo2, fcap2, none, 0, none, 0⟩) := ⟨(by
                have hl2 : (d.l ++ [(clB, (⟨(Ch.decF 8 d.body.length).toArray⟩ : ByteArray))]).length = d.l.length + 1 := by simp
                show IsVS wc _ fo2 fcap2 (d.l ++ [(clB, (⟨(Ch.decF 8 d.body.length).toArray⟩ : ByteArray))]).length _
                rw [hl2]
                exact hF.mono (fun k _ h e => by have := (HW.out.want.row k e).2; omega)), IsBS.nil _ _, IsBS.nil _ _⟩
              have k0 : wc.cell? ⟨wr.heap.size, 0, none⟩ = some (.string d.m) := hK.cell 0
              have k1 : wc.cell? ⟨wr.heap.size, 1, none⟩ = some (.string d.t) := hK.cell 1
              have k2 : wc.cell? ⟨wr.heap.size, 2, none⟩ = some (.int .i64 1) := hK.cell 2
              have k3 : wc.cell? ⟨wr.heap.size, 3, none⟩ = some (.slice fo2 (d.l.length + 1) fcap2) := hK.cell 3
              have k4 : wc.cell? ⟨wr.heap.size, 4, none⟩ = some (.int .i64 (d.body.length : Int)) := hK.cell 4
              have HBs : Hid (∀ W ao cap es, WrAt w wo d1 d2 d ao cap es W → W.cell? ⟨wo.heap.size + 1, i, none⟩ = some (.slice d.bo d.body.length d.bc)) := fun W ao cap es h => by
                have h1 := HWn.out.b
                have e1 : (#[Value.slice d1.bo d1.body.length d1.bc, .slice d2.bo d2.body.length d2.bc] : Array Value)[i]? = some (.slice d.bo d.body.length d.bc) := (HW.out.two.cell2 i).symm.trans h1
                exact (h.two.cell2 i).trans e1
              obtain ⟨xs1, hO1, hp1⟩ := hWc.push HN.out HSo.out (.cells #[.int .i64 1, .string d.m, .string d.t, .int .i64 1, .slice fo2 (d.l.length + 1) fcap2, .int .i64 (d.body.length : Int), .slice none 0 0, .string ⟨#[]⟩, .string ⟨#[]⟩, .string ⟨#[]⟩, .slice none 0 0, .int .i64 0] 32)
              have HO1 := Hid.mk' hO1; have HP1 := Hid.mk' hp1
              have HHc := Hid.mk' (want_cells d fo2 fcap2)
              have HWs : Hid (wo.heap.size + 2 ≤ wc.heap.size) := (Array.getElem?_eq_some_iff.1 hWc.two.two).1
              have HEs : Hid (n = (([d1, d2].take i).flatMap HdD.evs).length) := HN.out
              generalize ([d1, d2].take i).flatMap HdD.evs = ES at *
              clear hK hF hWc hO1 hp1 HW HK1 HSrc HNum HSt HPl HN1 HX0 l0 s1 s2 Hi1 Hw0 Hw1 Hw2
              by_cases hbe : d.body = []
              · have hcz : ¬ 0 < d.body.length := by rw [hbe]; simp
                have HBe := Hid.mk' hbe
                clear hbe
                generalize d.body.length = bl at *
                have tb : decide ((bl : Int) > 0) = false := decide_eq_false (by omega)
                go_wp2_with (first
                  | (at_builtin; refine wpList_append_v rfl (.tmp 155) (.tmp 158) 26 rfl (wo.heap.size + 2) 32 i0 (.agg #[.int .i64 0, .string ⟨#[]⟩, .string ⟨#[]⟩, .int .i64 0, .slice none 0 0, .int .i64 0, .slice none 0 0, .string ⟨#[]⟩, .string ⟨#[]⟩, .string ⟨#[]⟩, .slice none 0 0, .int .i64 0]) 12 184 Tryz.underlying26 Hi.out Hz0.out Hz1.out Hz2.out rfl (by decide) rfl HO1.out rfl (IsV.made _ _ 1 _ _) rfl (one_cells d.head ⟨fo2, fcap2, none, 0, none, 0⟩ _ HHc.out) (by omega) (by omega) (by rw [World.size_alloc]; have := HWs.out; omega) ?_; intro a16 c16 w16 hO hG hat; have HQ1 := Hid.mk' (HP1.out a16 c16 w16 _ _ _ HHc.out HIn.out hO hG hat); clear hO hG hat; obtain ⟨xs3, hO3, hp3⟩ := HQ1.out.push (n := n + 1) (by rw [List.length_append, HEs.out]; rfl) HSo.out (.cells #[.int .i64 3, .string ⟨#[]⟩, .string ⟨#[]⟩, .int .i64 0, .slice none 0 0, .int .i64 0, .slice none 0 0, .string ⟨#[]⟩, .string ⟨#[]⟩, .string ⟨#[]⟩, .slice none 0 0, .int .i64 0] 32); have HO3 := Hid.mk' hO3; have HP3 := Hid.mk' hp3; have HWs3 : Hid (wo.heap.size + 2 ≤ w16.heap.size) := (Array.getElem?_eq_some_iff.1 HQ1.out.two.two).1; clear hO3 hp3; have b16 := HBs.out w16 _ _ _ HQ1.out)
                  | (at_builtin; refine wpList_append_v rfl (.tmp 174) (.tmp 176) 26 rfl (wo.heap.size + 2) 32 i0 (.agg #[.int .i64 0, .string ⟨#[]⟩, .string ⟨#[]⟩, .int .i64 0, .slice none 0 0, .int .i64 0, .slice none 0 0, .string ⟨#[]⟩, .string ⟨#[]⟩, .string ⟨#[]⟩, .slice none 0 0, .int .i64 0]) 12 184 Tryz.underlying26 Hi.out Hz0.out Hz1.out Hz2.out rfl (by decide) rfl HO3.out rfl (IsV.made _ _ 1 _ _) rfl (one_cells finD ⟨none, 0, none, 0, none, 0⟩ _ rfl) (by omega) (by omega) (by rw [World.size_alloc]; have := HWs3.out; omega) ?_; intro a18 c18 w18 hO hG hat; have HQ3 := Hid.mk' (HP3.out a18 c18 w18 _ _ _ rfl WrAt.fin hO hG hat); clear hO hG hat))
                go_roundw
                case rel => exact ⟨i + 1, n + 1 + 1, a18, c18, by omega, by go_num, by go_num, by rw [HEv.out]; unfold HdD.evs HdD.mid; rw [if_pos HBe.out]; simp [HEs.out], ⟨HQ3.out.two, by rw [HEv.out]; unfold HdD.evs HdD.mid; rw [if_pos HBe.out]; have := HQ3.out.want; simpa using this⟩⟩
                case measure => simp [intOf]; omega
              · have hcp : 0 < d.body.length := List.length_pos_iff.2 hbe
                have tb : decide ((d.body.length : Int) > 0) = true := decide_eq_true (by omega)
                have HBe := Hid.mk' hbe
                clear hbe
                go_wp2_with (first
                  | (at_builtin; refine wpList_append_v rfl (.tmp 155) (.tmp 158) 26 rfl (wo.heap.size + 2) 32 i0 (.agg #[.int .i64 0, .string ⟨#[]⟩, .string ⟨#[]⟩, .int .i64 0, .slice none 0 0, .int .i64 0, .slice none 0 0, .string ⟨#[]⟩, .string ⟨#[]⟩, .string ⟨#[]⟩, .slice none 0 0, .int .i64 0]) 12 184 Tryz.underlying26 Hi.out Hz0.out Hz1.out Hz2.out rfl (by decide) rfl HO1.out rfl (IsV.made _ _ 1 _ _) rfl (one_cells d.head ⟨fo2, fcap2, none, 0, none, 0⟩ _ HHc.out) (by omega) (by omega) (by rw [World.size_alloc]; have := HWs.out; omega) ?_; intro a16 c16 w16 hO hG hat; have HQ1 := Hid.mk' (HP1.out a16 c16 w16 _ _ _ HHc.out HIn.out hO hG hat); clear hO hG hat; obtain ⟨xs2, hO2, hp2⟩ := HQ1.out.push (n := n + 1) (by rw [List.length_append, HEs.out]; rfl) HSo.out (.cells #[.int .i64 2, .string ⟨#[]⟩, .string ⟨#[]⟩, .int .i64 0, .slice none 0 0, .int .i64 0, .slice d.bo d.body.length d.bc, .string ⟨#[]⟩, .string ⟨#[]⟩, .string ⟨#[]⟩, .slice none 0 0, .int .i64 0] 32); have HO2 := Hid.mk' hO2; have HP2 := Hid.mk' hp2; have HWs2 : Hid (wo.heap.size + 2 ≤ w16.heap.size) := (Array.getElem?_eq_some_iff.1 HQ1.out.two.two).1; clear hO2 hp2; have b16 := HBs.out w16 _ _ _ HQ1.out; have HInB := Hid.mk' (HQ1.out.body HSo.out))
                  | (at_builtin; refine wpList_append_v rfl (.tmp 166) (.tmp 172) 26 rfl (wo.heap.size + 2) 32 i0 (.agg #[.int .i64 0, .string ⟨#[]⟩, .string ⟨#[]⟩, .int .i64 0, .slice none 0 0, .int .i64 0, .slice none 0 0, .string ⟨#[]⟩, .string ⟨#[]⟩, .string ⟨#[]⟩, .slice none 0 0, .int .i64 0]) 12 184 Tryz.underlying26 Hi.out Hz0.out Hz1.out Hz2.out rfl (by decide) rfl HO2.out rfl (IsV.made _ _ 1 _ _) rfl (one_cells (bodyD d.body) ⟨none, 0, d.bo, d.bc, none, 0⟩ _ rfl) (by omega) (by omega) (by rw [World.size_alloc]; have := HWs2.out; omega) ?_; intro a17 c17 w17 hO hG hat; have HQ2 := Hid.mk' (HP2.out a17 c17 w17 _ _ _ rfl HInB.out hO hG hat); clear hO hG hat; obtain ⟨xs3, hO3, hp3⟩ := HQ2.out.push (n := n + 1 + 1) (by rw [List.length_append, List.length_append, HEs.out]; rfl) HSo.out (.cells #[.int .i64 3, .string ⟨#[]⟩, .string ⟨#[]⟩, .int .i64 0, .slice none 0 0, .int .i64 0, .slice none 0 0, .string ⟨#[]⟩, .string ⟨#[]⟩, .string ⟨#[]⟩, .slice none 0 0, .int .i64 0] 32); have HO3 := Hid.mk' hO3; have HP3 := Hid.mk' hp3; have HWs3 : Hid (wo.heap.size + 2 ≤ w17.heap.size) := (Array.getElem?_eq_some_iff.1 HQ2.out.two.two).1; clear hO3 hp3; have b17 := HBs.out w17 _ _ _ HQ2.out)
                  | (at_builtin; refine wpList_append_v rfl (.tmp 174) (.tmp 176) 26 rfl (wo.heap.size + 2) 32 i0 (.agg #[.int .i64 0, .string ⟨#[]⟩, .string ⟨#[]⟩, .int .i64 0, .slice none 0 0, .int .i64 0, .slice none 0 0, .string ⟨#[]⟩, .string ⟨#[]⟩, .string ⟨#[]⟩, .slice none 0 0, .int .i64 0]) 12 184 Tryz.underlying26 Hi.out Hz0.out Hz1.out Hz2.out rfl (by decide) rfl HO3.out rfl (IsV.made _ _ 1 _ _) rfl (one_cells finD ⟨none, 0, none, 0, none, 0⟩ _ rfl) (by omega) (by omega) (by rw [World.size_alloc]; have := HWs3.out; omega) ?_; intro a18 c18 w18 hO hG hat; have HQ3 := Hid.mk' (HP3.out a18 c18 w18 _ _ _ rfl WrAt.fin hO hG hat); clear hO hG hat))
                go_roundw
                case rel => exact ⟨i + 1, n + 1 + 1 + 1, a18, c18, by omega, by go_num, by go_num, by rw [HEv.out]; unfold HdD.evs HdD.mid; rw [if_neg HBe.out]; simp [HEs.out], ⟨HQ3.out.two, by rw [HEv.out]; unfold HdD.evs HdD.mid; rw [if_neg HBe.out]; have := HQ3.out.want; simpa using this⟩⟩
                case measure => simp [intOf]; omega
        · obtain rfl : i = 2 := by omega
          obtain ⟨S, So, hRp, hAl, hdj, hS, _⟩ := HG.out.two
          have hbw := HW.out.two.below
          have HJn := Hid.mk' (joinTells wr ao' cap' m fd (hAl.isEs.stay hbw) HM.out.symm (by omega) HJf.out.1 (by have h1 := HJf.out.2.1; have h2 := HXY.out; omega) HJf.out.2.2)
          have HRp := Hid.mk' (hRp.stay hbw)
          have heq : (Rq.join fd).map Rq.Ev.d = ([d1, d2].take 2).flatMap HdD.evs := by
            have e1 := evs_d d1
            have e2 := evs_d d2
            rw [← hd1] at e1
            rw [← hd2] at e2
            show _ = d1.evs ++ (d2.evs ++ [])
            rw [← hd1, ← hd2, e1, e2, HJe.out, HTl.out.ev, List.append_nil, ← List.map_append]
            simp
          have HEn : Hid ((Rq.join fd).length = n) := by
            have := congrArg List.length heq
            rw [List.length_map] at this
            show _ = _
            rw [this, HN.out]
          have HSm : Hid (∀ W ja jc, Below wr.heap.size wr W → IsEs W ja jc ((Rq.join fd).map Rq.Ev.d) → Calls Tryz.prog 12 #[.slice ja n jc, .slice a2 n c2] W fun e w' => e = .returned (.bool true) ∧ Below W.heap.size W w') := fun W ja jc hW hJ => by
            have hw := (HW.out.want.stay hW).isEs
            rw [← heq] at hw
            have h3 := sameEvents_yes ((Rq.join fd).map Rq.Ev.d) ja a2 jc c2 W hJ hw (by rw [List.length_map]; have h1 := Rq.join_length fd; have h2 := HM.out; omega) (fun e he => by
              obtain ⟨x, hx, rfl⟩ := List.mem_map.1 he
              have hf := Rq.fine_join _ HJf.out.2.2 x hx
              cases x with
              | head h => have := Rq.HGood.many hf; show (Rq.flT h.fields).length ≤ _; rw [Rq.flT_length]; omega
              | body _ => show (0 : Nat) ≤ _; omega
              | fin => show (0 : Nat) ≤ _; omega
              | fail _ => show (0 : Nat) ≤ _; omega)
            rw [List.length_map, HEn.out] at h3
            exact h3
          have HBz : Hid (Rq.busy (Rq.fold Rq.start Z) = false) := HTl.out.busy
          have HDz : Hid (decide ((Rq.fold Rq.start Z).ph = 4) = false) := by
            show _ = _
            rw [HTl.out.dead, Rq.failed_fin, show (Rq.Ev.head (Rq.back (Rq.hdT m2 t2 l2) B) :: Rq.some_ B ++ [Rq.Ev.fin]) = (Rq.Ev.head (Rq.back (Rq.hdT m2 t2 l2) B) :: Rq.some_ B) ++ Rq.Ev.fin :: [] from rfl, Rq.failed_fin]
            rfl
          have HBr : Hid (Below w.heap.size w wr) := then_ HBo.out hbw
          rw [HEn.out] at HJn
          clear hRp hAl hdj hS hbw heq HG HW HJf HTl HJe HDs HM
          go_wp2_with fail
          refine HJn.out.mono ?_
          rintro e w20 ⟨ja, jc, rfl, hJa, hb20⟩
          have HS20 := Hid.mk' (HSm.out w20 ja jc hb20 hJa.isEs)
          have HB20 := Hid.mk' hb20
          clear hJa hb20 HJn HSm
          go_wp2_with fail
          refine HS20.out.mono ?_
          rintro e w21 ⟨rfl, hb21⟩
          have HR21 := Hid.mk' (HRp.out.stay (then_ HB20.out hb21))
          have HB21 := Hid.mk' (then_ HBr.out (then_ HB20.out hb21))
          have HU1 := Hid.mk' (busy_any w21 _ g _ HR21.out)
          have HD1 := Hid.mk' (dead_any w21 _ g _ HR21.out)
          rw [HBz.out] at HU1
          rw [HDz.out] at HD1
          clear hb21 HS20 HRp HR21
          go_wp2_with fail
          refine HU1.out.mono ?_
          rintro e w22 ⟨rfl, hw⟩
          subst hw
          go_wp2_with fail
          refine HD1.out.mono ?_
          rintro e w23 ⟨rfl, hw⟩
          subst hw
          go_wp2
          go_ret
          exact ⟨rfl, HB21.out⟩
end Go.Proofs.YtkbeaehjagdnnacGreatDoor
