/- The document's own answer, walked: MediaOf. -/
import Derived.Test.YtdclmpdjjkjfjaaGreatDoorRfMedL1
namespace Go.Proofs.YtdclmpdjjkjfjaaGreatDoor
open Go.RowKit

set_option maxRecDepth 100000 in
theorem media_not (s : ByteArray) (w : World) (hs : s.size ≤ 2000) (hv : Ch.isVisible s.data.toList = false) :
    Calls Tryz.prog 61 #[.string s] w fun e w' => MedOut w (Pm.media s.data.toList) e w' := by
  have HM : Hid (Pm.media s.data.toList = .inl 3) := by unfold Hid Pm.media; rw [if_pos hv]
  have HS := Hid.mk' (seenText_any s (w.alloc (.cells #[.string ⟨#[]⟩, .slice none 0 0] 113)) (by unfold maxLen; omega))
  rw [hv] at HS
  have HB : Hid (Below w.heap.size w (w.alloc (.cells #[.string ⟨#[]⟩, .slice none 0 0] 113))) := (Below.refl _ _).alloc (Nat.le_refl _) _
  have c0 : (w.alloc (.cells #[.string ⟨#[]⟩, .slice none 0 0] 113)).cell? ⟨w.heap.size, 0, none⟩ = some (.string ⟨#[]⟩) := World.cell?_alloc_mark w _ _ _ 0
  have c1 : (w.alloc (.cells #[.string ⟨#[]⟩, .slice none 0 0] 113)).cell? ⟨w.heap.size, 1, none⟩ = some (.slice none 0 0) := World.cell?_alloc_mark w _ _ _ 1
  clear hv
  go_enter Tryz.func61, Tryz.ntmps61
  go_wp2_with fail
  refine HS.out.mono ?_
  rintro e w1 ⟨rfl, hw⟩
  subst hw
  go_wp2
  refine bodyPost_ret (v := .tuple #[.agg #[.string ⟨#[]⟩, .slice none 0 0], .int .i64 3]) (by simp [results, Tryz.results61, go_sem, c0, c1]) rfl (MedOut.bad (c := 3) HM.out ?_)
  first | exact HB.out | exact (HB.out.setCell (Nat.le_refl _) _).setCell (Nat.le_refl _) _

set_option maxRecDepth 100000 in
set_option maxHeartbeats 4000000 in
theorem media_main (s : ByteArray) (w : World) (hs : s.size ≤ 2000) (hv : Ch.isVisible s.data.toList = true) :
    Calls Tryz.prog 61 #[.string s] w fun e w' => MedOut w (Pm.media s.data.toList) e w' := by
  have hl : s.data.toList.length = s.size := by rw [Array.length_toList]; rfl
  have HS := Hid.mk' (seenText_any s (w.alloc (.cells #[.string ⟨#[]⟩, .slice none 0 0] 113)) (by unfold maxLen; omega))
  rw [hv] at HS
  have HB : Hid (Below w.heap.size w (w.alloc (.cells #[.string ⟨#[]⟩, .slice none 0 0] 113))) := (Below.refl _ _).alloc (Nat.le_refl _) _
  have c0 : (w.alloc (.cells #[.string ⟨#[]⟩, .slice none 0 0] 113)).cell? ⟨w.heap.size, 0, none⟩ = some (.string ⟨#[]⟩) := World.cell?_alloc_mark w _ _ _ 0
  have c1 : (w.alloc (.cells #[.string ⟨#[]⟩, .slice none 0 0] 113)).cell? ⟨w.heap.size, 1, none⟩ = some (.slice none 0 0) := World.cell?_alloc_mark w _ _ _ 1
  have HBl := Hid.mk' (fun W (i : Nat) (hi : i ≤ s.size) => blanks_any s i W (by omega) hi)
  have HWd := Hid.mk' (fun W (i : Nat) (hi : i ≤ s.size) => word_any s i W (by omega) hi)
  have hb0 := Pm.blanks_le s.data.toList 0 (Nat.zero_le _)
  have hw0 := Pm.word_le s.data.toList _ hb0
  rw [hl] at hb0 hw0
  have hbl0 := HBl.out (w.alloc (.cells #[.string ⟨#[]⟩, .slice none 0 0] 113)) 0 (Nat.zero_le _)
  have hwd0 := HWd.out (w.alloc (.cells #[.string ⟨#[]⟩, .slice none 0 0] 113)) _ hb0
  have HB0 := Hid.mk' hbl0
  have HW0 := Hid.mk' hwd0
  have HM := Hid.mk' (Pm.media_at s.data.toList hv _ _ rfl rfl)
  clear hv hbl0 hwd0
  generalize Pm.blanks s.data.toList 0 = i0 at *
  generalize hn0 : Pm.word s.data.toList i0 = n0 at *
  have HL := Hid.mk' hl
  clear hl hn0
  go_enter Tryz.func61, Tryz.ntmps61
  go_wp2_with fail
  refine HS.out.mono ?_
  rintro e w1 ⟨rfl, hw⟩
  subst hw
  go_wp2_with fail
  refine HB0.out.mono ?_
  rintro e w1 ⟨rfl, hw⟩
  subst hw
  go_wp2_with fail
  refine HW0.out.mono ?_
  rintro e w1 ⟨rfl, hw⟩
  subst hw
  clear HS HB0 HW0
  by_cases hz : n0 = 0
  · subst hz
    have HR : Hid (Pm.media s.data.toList = .inl 5) := by have := HM.out; rw [if_pos rfl] at this; exact this
    clear HM
    go_wp2
    refine bodyPost_ret (v := .tuple #[.agg #[.string ⟨#[]⟩, .slice none 0 0], .int .i64 5]) (by simp [results, Tryz.results61, go_sem, c0, c1]) rfl (MedOut.bad (c := 5) HR.out ?_)
    first | exact HB.out | exact (HB.out.setCell (Nat.le_refl _) _).setCell (Nat.le_refl _) _
  · have hM := HM.out
    rw [if_neg hz] at hM
    have HM1 := Hid.mk' hM
    clear HM hM
    have tz : ((n0 : Int) == 0) = false := by rw [beq_eq_false_iff_ne]; omega
    have e1 : (i0 : Int) + n0 ≤ s.size := by omega
    have e2 : (i0 : Int) ≤ (i0 : Int) + n0 := by omega
    have e3 : ((i0 : Int) + n0).toNat = i0 + n0 := by omega
    have e4 : IntKind.i64.wrap ((i0 : Int) + n0) = (i0 : Int) + n0 := wrap_id (by omega) (by omega)
    have HSm := Hid.mk' (fun W => small_any (s.extract i0 (i0 + n0)) W (by simp; omega))
    have HX : Hid ((s.extract i0 (i0 + n0)).data.toList = (s.data.toList.drop i0).take n0) := by
      unfold Hid; rw [Lib.extract_data]; simp
    rw [HX.out] at HSm
    generalize hx : (⟨(Ch.lower ((s.data.toList.drop i0).take n0)).toArray⟩ : ByteArray) = x at HSm
    have HXl : Hid (x.data.toList = Ch.lower ((s.data.toList.drop i0).take n0)) := by rw [← hx]; rfl
    clear hx
    go_wp2_with fail
    refine (HSm.out _).mono ?_
    rintro e w1 ⟨rfl, q1, hw⟩
    subst hw
    have HA : Hid (MedAt w x [] none 0 (((w.alloc (.cells #[.string ⟨#[]⟩, .slice none 0 0] 113)).drewN q1).alloc (.cells #[.string x, .slice none 0 0] 113))) := MedAt.start w x q1
    clear c0 c1 HB HSm HX
    go_upto_region 9 with fail
    go_cut [42] (fun t wc => t = .bool (decide (s.data.toList[i0 + n0]? = some 47)) ∧ MedAt w x [] none 0 wc)
    case first =>
      by_cases hlt : i0 + n0 < s.size
      · have hat := list_at s (i0 + n0) hlt
        have HE : Hid (s.data.toList[i0 + n0]? = some s[i0 + n0]) := by unfold Hid; rw [List.getElem?_eq_getElem (by rw [HL.out]; exact hlt), hat]
        clear hat
        have tl : decide ((i0 : Int) + n0 < s.size) = true := by rw [decide_eq_true_eq]; omega
        have hlt' : (i0 : Int) + n0 < s.size := by omega
        by_cases h47 : s[i0 + n0] = 47
        · have t47 : ((s[i0 + n0].toNat : Int) == 47) = true := by rw [h47]; rfl
          have HD : Hid (decide (s.data.toList[i0 + n0]? = some 47) = true) := by unfold Hid; rw [HE.out, h47]; simp
          clear h47 HE
          go_wp2
          go_meet
          exact ⟨by rw [HD.out], HA.out⟩
        · have t47 : ((s[i0 + n0].toNat : Int) == 47) = false := byte_ne' h47
          have HD : Hid (decide (s.data.toList[i0 + n0]? = some 47) = false) := by unfold Hid; rw [HE.out]; simpa using h47
          clear h47 HE
          go_wp2
          go_meet
          exact ⟨by rw [HD.out], HA.out⟩
      · have tl : decide ((i0 : Int) + n0 < s.size) = false := by rw [decide_eq_false_iff_not]; omega
        have HD : Hid (decide (s.data.toList[i0 + n0]? = some 47) = false) := by
          unfold Hid; rw [decide_eq_false_iff_not, List.getElem?_eq_none (by rw [HL.out]; omega)]; simp
        go_wp2
        go_meet
        exact ⟨by rw [HD.out], HA.out⟩
    case rest =>
      obtain ⟨rfl, hA⟩ := hcut
      clear HA
      have HA := Hid.mk' hA
      clear hA
      obtain ⟨c0, c1, f0, f1, d0, d1, g0, g1⟩ := HA.out.cells
      generalize hb47 : decide (s.data.toList[i0 + n0]? = some 47) = b47
      have HB47 := Hid.mk' hb47
      clear hb47
      go_upto_if 42 with fail
      go_cut [4, 5] (fun vi _ wd => ∃ (i : Nat) (wo : ByteArray), i ≤ s.size ∧ vi = .int .i64 i ∧ MedAt w wo [] none 0 wd ∧ Pm.media s.data.toList = Pm.fin (s.data.toList.length + 1) wo.data.toList (s.data.toList.drop i) [])
      case first =>
        cases b47
        · have HM2 : Hid (Pm.media s.data.toList = Pm.fin (s.data.toList.length + 1) x.data.toList (s.data.toList.drop (i0 + n0)) []) := by
            have := HM1.out
            rw [if_neg (of_decide_eq_false HB47.out), ← HXl.out] at this
            exact this
          go_wp2
          go_meet
          exact ⟨i0 + n0, x, by omega, by go_num, HA.out, HM2.out⟩
        · have h47 := of_decide_eq_true HB47.out
          have hlt : i0 + n0 < s.size := by
            have := (List.getElem?_eq_some_iff.1 h47).1
            rwa [HL.out] at this
          have hM := HM1.out
          rw [if_pos h47] at hM
          have hw1 := Pm.word_le s.data.toList (i0 + n0 + 1) (by rw [HL.out]; omega)
          rw [HL.out] at hw1
          have hwd1 := HWd.out wc (i0 + n0 + 1) (by omega)
          generalize Pm.word s.data.toList (i0 + n0 + 1) = n1 at *
          simp only [Int.natCast_add, Int.cast_ofNat_Int] at hwd1
          have HW1 := Hid.mk' hwd1
          have HM2 := Hid.mk' hM
          clear hM hwd1 h47 HM1 HB47
          go_wp2_with fail
          refine HW1.out.mono ?_
          rintro e w2 ⟨rfl, hw⟩
          subst hw
          by_cases hz1 : n1 = 0
          · subst hz1
            have HR : Hid (Pm.media s.data.toList = .inl 5) := by have := HM2.out; rw [if_pos rfl] at this; exact this
            clear HM2
            go_wp2
            refine bodyPost_ret (v := .tuple #[.agg #[.string ⟨#[]⟩, .slice none 0 0], .int .i64 5]) (by simp [results, Tryz.results61, go_sem, c0, c1]) rfl (MedOut.bad (c := 5) HR.out ?_)
            first | exact HA.out.below | exact (HA.out.below.setCell (Nat.le_refl _) _).setCell (Nat.le_refl _) _
          · have tz1 : ((n1 : Int) == 0) = false := by rw [beq_eq_false_iff_ne]; omega
            have hM := HM2.out
            rw [if_neg hz1] at hM
            have HSm := Hid.mk' (fun W => small_any (s.extract (i0 + n0 + 1) (i0 + n0 + 1 + n1)) W (by simp; omega))
            have HX : Hid ((s.extract (i0 + n0 + 1) (i0 + n0 + 1 + n1)).data.toList = (s.data.toList.drop (i0 + n0 + 1)).take n1) := by
              unfold Hid; rw [Lib.extract_data]; simp
            rw [HX.out] at HSm
            generalize hy : (⟨(Ch.lower ((s.data.toList.drop (i0 + n0 + 1)).take n1)).toArray⟩ : ByteArray) = y at HSm
            have HY : Hid (y.data.toList = Ch.lower ((s.data.toList.drop (i0 + n0 + 1)).take n1)) := by rw [← hy]; rfl
            have hyz : y.size ≤ 2000 := by
              have := Ch.size_of_list HY.out
              rw [Ch.lower_length, List.length_take] at this
              omega
            have hxz : x.size ≤ 2000 := by
              have := Ch.size_of_list HXl.out
              rw [Ch.lower_length, List.length_take] at this
              omega
            rw [← HY.out, ← HXl.out] at hM
            have HM3 := Hid.mk' hM
            have HN : Hid (∀ q, MedAt w (x ++ (⟨#[47]⟩ ++ y)) [] none 0 ((w2.drewN q).setCell ⟨w.heap.size + 1, 0, none⟩ (.string (x ++ (⟨#[47]⟩ ++ y))))) := fun q => (HA.out.drewN q).word_ _
            clear hM HM2 hy HX
            have k1 : (i0 : Int) + n0 + 1 + n1 ≤ s.size := by omega
            have k2 : (i0 : Int) + n0 + 1 ≤ (i0 : Int) + n0 + 1 + n1 := by omega
            have k3 : ((i0 : Int) + n0 + 1 + n1).toNat = i0 + n0 + 1 + n1 := by omega
            have k4 : ((i0 : Int) + n0 + 1).toNat = i0 + n0 + 1 := by omega
            have k5 : IntKind.i64.wrap ((i0 : Int) + n0 + 1 + n1) = (i0 : Int) + n0 + 1 + n1 := wrap_id (by omega) (by omega)
            have k6 : IntKind.i64.wrap ((i0 : Int) + n0 + 1) = (i0 : Int) + n0 + 1 := wrap_id (by omega) (by omega)
            have k7 : (0 : Int) ≤ (i0 : Int) + n0 + 1 := by omega
            go_wp2
            go_region_with (go_at_call 67; refine (HSm.out _).mono ?_; rintro e w4 ⟨rfl, q4, rfl⟩)
            all_goals
              go_wp2
              go_meet
              exact ⟨i0 + n0 + 1 + n1, x ++ (⟨#[47]⟩ ++ y), by omega, by go_num, HN.out _, by rw [HM3.out, Ch.data_append, Ch.data_append, List.append_assoc]⟩
      case rest =>
        obtain ⟨i, wo, hi, rfl, hA, hM⟩ := hcut
        clear HA HM1 HB47 c0 c1 f0 f1 d0 d1 g0 g1 tz e1 e2 e3 e4 hz hw0 hb0 HXl
        have HA := Hid.mk' hA
        have HM := Hid.mk' hM
        clear hA hM
        go_wp2
        refine medLoop1_any s w _ hs i wo hi HA.out HM.out _ _ _ _ _ _ _ _ _ _ _ _ _ _ _ _ _ _ _ _ _ _ _ _ _ _ _ _ _ _ _ _ _ _ _ _ _ _ _ _ _ _ _ _ _ _ _ _ _ _ _ _ _ _ _ _ _ _ _ _ _ _ _ _ _ _ _ _ _ _ _ _ _ _ _ _ _ _ _ _ _ _ _ _ _ _ _ _ _ _ _ _ _ _ _ _ _ _ _ _ _ _ _ _ _ _ _ _ _ _ _ _ _ _ _ _ _ _ _ _ _ _ _ _ _ _ _ _ _ _ _ _ _ _ _ _ _ _ _ _ _ _ _ _ _ _ _ _ _ _ _ _ _ _ _ _ _ _ _ _ _ _ _ _ _ _ _ _ _ _ _ _ _ _ _ _ _ _ _ _ _ _ _ _ _ _ _ _ _ _ _ _ _ _ _ _ _ _ _ _ _ _ _ _ _ _ _ _ _ _ _ _ _ _ _ _ _ _ _ _ ?_
        intro tm c v0 v1 w' h2 h3 hc0 hc1 hout
        (try simp only [Exit.inBlock])
        refine bodyPost_ret (v := .tuple #[.agg #[v0, v1], .int .i64 c]) ?_ rfl hout
        simp [results, Tryz.results61, go_sem, h2, h3, hc0, hc1]
theorem mediaOf_any (s : ByteArray) (w : World) (hs : s.size ≤ 2000) :
    Calls Tryz.prog 61 #[.string s] w fun e w' => MedOut w (Pm.media s.data.toList) e w' := by
  cases hv : Ch.isVisible s.data.toList
  · exact media_not s w hs hv
  · exact media_main s w hs hv
end Go.Proofs.YtdclmpdjjkjfjaaGreatDoor
