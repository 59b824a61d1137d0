/- The document's own answer, walked: MediaOf's loop over parameters. -/
import Derived.Test.YtdclmpdjjkjfjaaGreatDoorRfMedL2
import Derived.Test.YtdclmpdjjkjfjaaGreatDoorRfMedL3
namespace Go.Proofs.YtdclmpdjjkjfjaaGreatDoor
open Go.RowKit

set_option maxRecDepth 100000 in
set_option maxHeartbeats 8000000 in
theorem medLoop1_any (s : ByteArray) (w wr0 : World) (hs : s.size ≤ 2000) (i : Nat) (wo : ByteArray) (hi : i ≤ s.size) (hA0 : MedAt w wo [] none 0 wr0) (hM0 : Pm.media s.data.toList = Pm.fin (s.data.toList.length + 1) wo.data.toList (s.data.toList.drop i) []) (Q0 : Exit → Act → World → Prop)
    (x1 x3 x5 x7 x8 x9 x10 x11 x12 x13 x14 x15 x16 x17 x18 x19 x20 x21 x22 x23 x24 x25 x26 x27 x28 x29 x30 x31 x32 x33 x34 x35 x36 x37 x38 x39 x40 x41 x42 x43 x44 x45 x46 x47 x48 x49 x50 x51 x52 x53 x54 x55 x56 x57 x58 x59 x60 x61 x62 x63 x64 x65 x66 x67 x68 x69 x70 x71 x72 x73 x74 x75 x76 x77 x78 x79 x80 x81 x82 x83 x84 x85 x86 x87 x88 x89 x90 x91 x92 x93 x94 x95 x96 x97 x98 x99 x100 x101 x102 x103 x104 x105 x106 x107 x108 x109 x110 x111 x112 x113 x114 x115 x116 x117 x118 x119 x120 x121 x122 x123 x124 x125 x126 x127 x128 x129 x130 x131 x132 x133 x134 x135 x136 x137 x138 x139 x140 x141 x142 x143 x144 x145 x146 x147 x148 x149 x150 x151 x152 x153 x154 x155 x156 x157 x158 x159 x160 x161 x162 x163 x164 x165 x166 x167 x168 x169 x170 x171 x172 x173 x174 x175 x176 x177 x178 x179 x180 x181 x182 x183 x184 x185 x186 x187 x188 x189 x190 x191 x192 x193 x194 x195 x196 x197 x198 x199 x200 x201 x202 x203 x204 x205 x206 x207 x208 x209 x210 x211 x212 x213 x214 x215 x216 x217 x218 x219 x220 x221 x222 : Value)
    (hret : MedRet w (Pm.media s.data.toList) Q0) :
    Code.wp Tryz.prog medLoop1 Q0 ⟨(List.toArray ((.string s) :: x1 :: (.pointer (some ⟨w.heap.size, 0, none⟩)) :: x3 :: (.int .i64 (i : Int)) :: x5 :: (.pointer (some ⟨w.heap.size + 1, 0, none⟩)) :: x7 :: x8 :: x9 :: x10 :: x11 :: x12 :: x13 :: x14 :: x15 :: x16 :: x17 :: x18 :: x19 :: x20 :: x21 :: x22 :: x23 :: x24 :: x25 :: x26 :: x27 :: x28 :: x29 :: x30 :: x31 :: x32 :: x33 :: x34 :: x35 :: x36 :: x37 :: x38 :: x39 :: x40 :: x41 :: x42 :: x43 :: x44 :: x45 :: x46 :: x47 :: x48 :: x49 :: x50 :: x51 :: x52 :: x53 :: x54 :: x55 :: x56 :: x57 :: x58 :: x59 :: x60 :: x61 :: x62 :: x63 :: x64 :: x65 :: x66 :: x67 :: x68 :: x69 :: x70 :: x71 :: x72 :: x73 :: x74 :: x75 :: x76 :: x77 :: x78 :: x79 :: x80 :: x81 :: x82 :: x83 :: x84 :: x85 :: x86 :: x87 :: x88 :: x89 :: x90 :: x91 :: x92 :: x93 :: x94 :: x95 :: x96 :: x97 :: x98 :: x99 :: x100 :: x101 :: x102 :: x103 :: x104 :: x105 :: x106 :: x107 :: x108 :: x109 :: x110 :: x111 :: x112 :: x113 :: x114 :: x115 :: x116 :: x117 :: x118 :: x119 :: x120 :: x121 :: x122 :: x123 :: x124 :: x125 :: x126 :: x127 :: x128 :: x129 :: x130 :: x131 :: x132 :: x133 :: x134 :: x135 :: x136 :: x137 :: x138 :: x139 :: x140 :: x141 :: x142 :: x143 :: x144 :: x145 :: x146 :: x147 :: x148 :: x149 :: x150 :: x151 :: x152 :: x153 :: x154 :: x155 :: x156 :: x157 :: x158 :: x159 :: x160 :: x161 :: x162 :: x163 :: x164 :: x165 :: x166 :: x167 :: x168 :: x169 :: x170 :: x171 :: x172 :: x173 :: x174 :: x175 :: x176 :: x177 :: x178 :: x179 :: x180 :: x181 :: x182 :: x183 :: x184 :: x185 :: x186 :: x187 :: x188 :: x189 :: x190 :: x191 :: x192 :: x193 :: x194 :: x195 :: x196 :: x197 :: x198 :: x199 :: x200 :: x201 :: x202 :: x203 :: x204 :: x205 :: x206 :: x207 :: x208 :: x209 :: x210 :: x211 :: x212 :: x213 :: x214 :: x215 :: x216 :: x217 :: x218 :: x219 :: x220 :: x221 :: x222 :: [])), []⟩ wr0 := by
  have hl : s.data.toList.length = s.size := by rw [Array.length_toList]; rfl
  have HL := Hid.mk' hl
  have HBl := Hid.mk' (fun W (i : Nat) (hi : i ≤ s.size) => blanks_any s i W (by omega) hi)
  have HWd := Hid.mk' (fun W (i : Nat) (hi : i ≤ s.size) => word_any s i W (by omega) hi)
  have HRt := Hid.mk' hret
  have HA := Hid.mk' hA0
  have HM := Hid.mk' hM0
  clear hl hret hA0 hM0
  conv => arg 2; whnf
  go_loopw [4] (fun t wr => ∃ (i f : Nat) (ps : List (ByteArray × ByteArray)) (ao : Option Addr) (cap : Nat), i ≤ s.size ∧ t = .int .i64 i ∧ MedAt w wo ps ao cap wr ∧ s.size < f + i ∧ ps.length ≤ 8 ∧ Pm.media s.data.toList = Pm.fin f wo.data.toList (s.data.toList.drop i) (parL ps)) (fun t _ => s.size - (intOf t).toNat)
  case atStart => exact ⟨i, s.size + 1, [], none, 0, hi, rfl, HA.out, by omega, by simp, by have := HM.out; rw [HL.out] at this; exact this⟩
  case round =>
    clear HA HM hi i
    obtain ⟨i, f, ps, ao, cap, hi, rfl, hA, hf, h8, hM⟩ := hrel
    obtain ⟨f', rfl⟩ : ∃ f', f = f' + 1 := ⟨f - 1, by omega⟩
    rw [Pm.fin_at s.data.toList f' i _ _ (by rw [HL.out]; exact hi), HL.out] at hM
    have hb1 := Pm.blanks_le s.data.toList i (by rw [HL.out]; exact hi)
    have hb2 := Pm.blanks_ge s.data.toList i
    rw [HL.out] at hb1
    have HB1 := Hid.mk' (HBl.out wr i hi)
    generalize Pm.blanks s.data.toList i = i1 at *
    have HA := Hid.mk' hA
    have HM := Hid.mk' hM
    clear hM hA
    obtain ⟨c0, c1, f0, f1, d0, d1, g0, g1⟩ := HA.out.cells
    go_wp2_with fail
    refine HB1.out.mono ?_
    rintro e w2 ⟨rfl, hw⟩
    subst hw
    clear HB1
    by_cases hend : i1 = s.size
    · subst hend
      have HR : Hid (Pm.media s.data.toList = .inr (wo.data.toList, parL ps)) := by have := HM.out; rw [if_pos rfl] at this; exact this
      clear HM
      go_wp2
      have HZ2 : Hid (((w2.setCell ⟨w.heap.size, 0, none⟩ (.string wo)).setCell ⟨w.heap.size, 1, none⟩ (.slice ao ps.length cap)).cell? ⟨w.heap.size, 0, none⟩ = some (.string wo) ∧ ((w2.setCell ⟨w.heap.size, 0, none⟩ (.string wo)).setCell ⟨w.heap.size, 1, none⟩ (.slice ao ps.length cap)).cell? ⟨w.heap.size, 1, none⟩ = some (.slice ao ps.length cap)) := by
        constructor
        · rw [World.cell?_setCell_other (h := by intro h; injection h with _ h2; cases h2), World.cell?_setCell_same w2 _ _ c0]
        · exact World.cell?_setCell_same _ _ _ (by rw [World.cell?_setCell_other (h := by intro h; injection h with _ h2; cases h2)]; exact c1)
      refine HRt.out _ 0 _ _ _ rfl rfl HZ2.out.1 HZ2.out.2 ⟨wo, ps, ao, cap, 0, rfl, by rw [HR.out]; exact ⟨rfl, rfl, rfl⟩, ?_, ?_⟩
      · refine OwnV.turns (S := fun k => k = w.heap.size) (OwnV.turns (S := fun k => k = w.heap.size) (HA.out.own.mono (by omega)) (Turns.setCell _ _ _ _ rfl) (fun a e e2 => ?_)) (Turns.setCell _ _ _ _ rfl) (fun a e e2 => ?_) <;> (have := (HA.out.own.block a e).1; omega)
      · first | exact HA.out.below | exact (HA.out.below.setCell (Nat.le_refl _) _).setCell (Nat.le_refl _) _
    · have hlt : i1 < s.size := by omega
      have hM := HM.out
      rw [if_neg hend, Pm.par_at] at hM
      have hat : s.data.toList[i1]? = some s[i1] := by rw [List.getElem?_eq_getElem (by rw [HL.out]; exact hlt), list_at s i1 hlt]
      rw [hat] at hM
      have hlt' : (i1 : Int) < s.size := by omega
      have te : ((i1 : Int) == s.size) = false := by rw [beq_eq_false_iff_ne]; omega
      clear HM hat hend
      by_cases h59 : s[i1] = 59
      · have t59 : ((s[i1].toNat : Int) != 59) = false := by rw [h59]; rfl
        rw [if_pos (by rw [h59])] at hM
        clear h59
        have hb3 := Pm.blanks_le s.data.toList (i1 + 1) (by rw [HL.out]; omega)
        have hb4 := Pm.blanks_ge s.data.toList (i1 + 1)
        have hw3 := Pm.word_le s.data.toList _ hb3
        rw [HL.out] at hb3 hw3
        have hbl := HBl.out w2 (i1 + 1) (by omega)
        have hwd := HWd.out w2 _ hb3
        generalize Pm.blanks s.data.toList (i1 + 1) = i2 at *
        generalize Pm.word s.data.toList i2 = n2 at *
        simp only [Int.natCast_add, Int.cast_ofNat_Int] at hbl
        have HB2 := Hid.mk' hbl
        have HW2 := Hid.mk' hwd
        have HM := Hid.mk' hM
        clear hbl hwd hM
        go_wp2_with fail
        refine HB2.out.mono ?_
        rintro e w3 ⟨rfl, hw⟩
        subst hw
        go_wp2_with fail
        refine HW2.out.mono ?_
        rintro e w3 ⟨rfl, hw⟩
        subst hw
        clear HB2 HW2
        by_cases hz : n2 = 0
        · subst hz
          have HR : Hid (Pm.media s.data.toList = .inl 5) := by have := HM.out; rw [if_pos rfl] at this; exact this
          clear HM
          go_wp2
          refine HRt.out.bad (c := 5) HR.out _ _ rfl rfl ?_ ?_ ?_
          · first | exact c0 | exact (zero_cells c0 c1).1
          · first | exact c1 | exact (zero_cells c0 c1).2
          · first | exact HA.out.below | exact (HA.out.below.setCell (Nat.le_refl _) _).setCell (Nat.le_refl _) _
        · have tz : ((n2 : Int) == 0) = false := by rw [beq_eq_false_iff_ne]; omega
          have hM := HM.out
          rw [if_neg hz] at hM
          clear HM
          by_cases hfull : i2 + n2 = s.size
          · have tf : ((i2 : Int) + n2 == s.size) = true := by rw [beq_iff_eq]; omega
            have HR : Hid (Pm.media s.data.toList = .inl 5) := by
              rw [if_neg (by rw [List.getElem?_eq_none (by rw [HL.out]; omega)]; simp)] at hM; exact hM
            clear hM
            go_wp2
            refine HRt.out.bad (c := 5) HR.out _ _ rfl rfl ?_ ?_ ?_
            · first | exact c0 | exact (zero_cells c0 c1).1
            · first | exact c1 | exact (zero_cells c0 c1).2
            · first | exact HA.out.below | exact (HA.out.below.setCell (Nat.le_refl _) _).setCell (Nat.le_refl _) _
          · have tf : ((i2 : Int) + n2 == s.size) = false := by rw [beq_eq_false_iff_ne]; omega
            have hlt2 : i2 + n2 < s.size := by omega
            have hlt2' : (i2 : Int) + n2 < s.size := by omega
            rw [List.getElem?_eq_getElem (show i2 + n2 < s.data.toList.length by rw [HL.out]; exact hlt2), list_at s (i2 + n2) hlt2] at hM
            by_cases h61 : s[i2 + n2] = 61
            · have t61 : ((s[i2 + n2].toNat : Int) != 61) = false := by rw [h61]; rfl
              rw [if_pos (by rw [h61])] at hM
              clear h61
              have e1 : (i2 : Int) + n2 ≤ s.size := by omega
              have e2 : (i2 : Int) ≤ (i2 : Int) + n2 := by omega
              have e3 : ((i2 : Int) + n2).toNat = i2 + n2 := by omega
              have e4 : IntKind.i64.wrap ((i2 : Int) + n2) = (i2 : Int) + n2 := wrap_id (by omega) (by omega)
              have HSm := Hid.mk' (fun W => small_any (s.extract i2 (i2 + n2)) W (by simp; omega))
              have HX : Hid ((s.extract i2 (i2 + n2)).data.toList = (s.data.toList.drop i2).take n2) := by
                unfold Hid; rw [Lib.extract_data]; simp
              rw [HX.out] at HSm
              generalize hx : (⟨(Ch.lower ((s.data.toList.drop i2).take n2)).toArray⟩ : ByteArray) = nm at HSm
              have HNm : Hid (nm.data.toList = Ch.lower ((s.data.toList.drop i2).take n2)) := by rw [← hx]; rfl
              rw [← HNm.out] at hM
              have HM := Hid.mk' hM
              clear hx hM HX
              go_wp2_with fail
              refine (HSm.out _).mono ?_
              rintro e w4 ⟨rfl, q4, hw⟩
              subst hw
              have HP := Hid.mk' (((MedPar.start HA.out q4 ⟨#[]⟩).name nm).value ⟨#[]⟩)
              have a0c : ((w3.drewN q4).alloc (.cells #[.string ⟨#[]⟩, .string ⟨#[]⟩] 133)).cell? ⟨w3.heap.size, 0, none⟩ = some (.string ⟨#[]⟩) := World.cell?_alloc_mark (w3.drewN q4) _ _ _ 0
              have a0f : ((w3.drewN q4).alloc (.cells #[.string ⟨#[]⟩, .string ⟨#[]⟩] 133)).frozen? ⟨w3.heap.size, 0, none⟩ = false := World.frozen?_alloc_mark (w3.drewN q4) _ _ _ _ 0
              have a1c : ((w3.drewN q4).alloc (.cells #[.string ⟨#[]⟩, .string ⟨#[]⟩] 133)).cell? ⟨w3.heap.size, 1, none⟩ = some (.string ⟨#[]⟩) := World.cell?_alloc_mark (w3.drewN q4) _ _ _ 1
              have a1f : ((w3.drewN q4).alloc (.cells #[.string ⟨#[]⟩, .string ⟨#[]⟩] 133)).frozen? ⟨w3.heap.size, 1, none⟩ = false := World.frozen?_alloc_mark (w3.drewN q4) _ _ _ _ 1
              have hi3 : i2 + n2 + 1 ≤ s.size := by omega
              go_upto_region 26 with fail
              go_cut [4, 128] from 68 to 222 (fun vi t wd => vi = .int .i64 ((i2 + n2 + 1 : Nat) : Int) ∧ t = .bool (decide (s.data.toList[i2 + n2 + 1]? = some 34)) ∧ MedPar w wo ps ao cap w3.heap.size nm ⟨#[]⟩ wd)
              case first =>
                by_cases hlt3 : i2 + n2 + 1 < s.size
                · have HE : Hid (s.data.toList[i2 + n2 + 1]? = some s[i2 + n2 + 1]) := by unfold Hid; rw [List.getElem?_eq_getElem (by rw [HL.out]; exact hlt3), list_at s (i2 + n2 + 1) hlt3]
                  have hlt3' : (i2 : Int) + (n2 + 1) < s.size := by omega
                  have hlt3'' : (i2 : Int) + n2 + 1 < s.size := by omega
                  by_cases h34 : s[i2 + n2 + 1] = 34
                  · have t34 : ((s[i2 + n2 + 1].toNat : Int) == 34) = true := by rw [h34]; rfl
                    have HD : Hid (decide (s.data.toList[i2 + n2 + 1]? = some 34) = true) := by unfold Hid; rw [HE.out, h34]; simp
                    clear h34 HE
                    go_wp2
                    go_meet
                    exact ⟨by go_num, by rw [HD.out] <;> exact congrArg Value.bool t34, HP.out⟩
                  · have t34 : ((s[i2 + n2 + 1].toNat : Int) == 34) = false := byte_ne' h34
                    have HD : Hid (decide (s.data.toList[i2 + n2 + 1]? = some 34) = false) := by unfold Hid; rw [HE.out]; simpa using h34
                    clear h34 HE
                    go_wp2
                    go_meet
                    exact ⟨by go_num, by rw [HD.out] <;> exact congrArg Value.bool t34, HP.out⟩
                · have hlt3' : ¬ (i2 : Int) + (n2 + 1) < s.size := by omega
                  have HD : Hid (decide (s.data.toList[i2 + n2 + 1]? = some 34) = false) := by
                    unfold Hid; rw [decide_eq_false_iff_not, List.getElem?_eq_none (by rw [HL.out]; omega)]; simp
                  go_wp2
                  go_meet
                  exact ⟨by go_num, by rw [HD.out] <;> exact congrArg Value.bool t34, HP.out⟩
              case rest =>
                obtain ⟨rfl, rfl, hP⟩ := hcut
                clear HP HSm e1 e2 e3 e4 c0 c1 f0 f1 d0 d1 g0 g1 HNm HA a0c a0f a1c a1f
                have HP := Hid.mk' hP
                clear hP
                generalize w3.heap.size = q at *
                have hi3g : i1 < i2 + n2 + 1 := by omega
                clear t61 hlt2' tf hfull hlt2 tz hz hw3 hb3 hb4
                generalize i2 + n2 + 1 = i3 at *
                generalize hb34 : decide (s.data.toList[i3]? = some 34) = b34
                have HB34 := Hid.mk' hb34
                clear hb34
                go_upto_if 128 with fail
                go_cut [4, 5, 8] from 68 to 222 (fun vi _ _ wd => ∃ (i4 : Nat) (v : ByteArray), i3 ≤ i4 ∧ i4 ≤ s.size ∧ vi = .int .i64 i4 ∧ MedPar w wo ps ao cap q nm v wd ∧ Pm.val (s.data.toList.drop i3) = .inr (v.data.toList, s.data.toList.drop i4))
                case first =>
                  cases b34
                  · skip
                    obtain ⟨c0, c1, f0, f1, d0, d1, g0, g1⟩ := HP.out.med.cells
                    obtain ⟨p0, p1, pf0, pf1⟩ := HP.out.cells
                    have HA := Hid.mk' HP.out.med
                    have hw3 := Pm.word_le s.data.toList i3 (by rw [HL.out]; exact hi3)
                    rw [HL.out] at hw3
                    have HW3 := Hid.mk' (HWd.out wc i3 hi3)
                    have hval := Pm.val_at s.data.toList i3
                    rw [if_neg (of_decide_eq_false HB34.out)] at hval
                    generalize Pm.word s.data.toList i3 = n3 at *
                    have HVl := Hid.mk' hval
                    clear hval HB34
                    go_wp2_with fail
                    refine HW3.out.mono ?_
                    rintro e w5 ⟨rfl, hw⟩
                    subst hw
                    clear HW3
                    by_cases hz3 : n3 = 0
                    · subst hz3
                      have HR : Hid (Pm.media s.data.toList = .inl 5) := by
                        have h1 := HM.out
                        have h2 := HVl.out
                        rw [if_pos rfl] at h2
                        rw [h2] at h1
                        exact h1
                      clear HM HVl
                      go_wp2
                      refine HRt.out.bad (c := 5) HR.out _ _ rfl rfl ?_ ?_ ?_
                      · first | exact c0 | exact (zero_cells c0 c1).1
                      · first | exact c1 | exact (zero_cells c0 c1).2
                      · first | exact HA.out.below | exact (HA.out.below.setCell (Nat.le_refl _) _).setCell (Nat.le_refl _) _
                    · have tz3 : ((n3 : Int) == 0) = false := by rw [beq_eq_false_iff_ne]; omega
                      have e1 : (i3 : Int) + n3 ≤ s.size := by omega
                      have e2 : (i3 : Int) ≤ (i3 : Int) + n3 := by omega
                      have e3 : ((i3 : Int) + n3).toNat = i3 + n3 := by omega
                      have e4 : IntKind.i64.wrap ((i3 : Int) + n3) = (i3 : Int) + n3 := wrap_id (by omega) (by omega)
                      have HX : Hid ((s.extract i3 (i3 + n3)).data.toList = (s.data.toList.drop i3).take n3) := by
                        unfold Hid; rw [Lib.extract_data]; simp
                      have HV2 : Hid (Pm.val (s.data.toList.drop i3) = .inr ((s.extract i3 (i3 + n3)).data.toList, s.data.toList.drop (i3 + n3))) := by
                        have h2 := HVl.out
                        rw [if_neg hz3, ← HX.out] at h2
                        exact h2
                      have HN := Hid.mk' (HP.out.value (s.extract i3 (i3 + n3)))
                      clear HVl HX
                      go_wp2
                      go_meet
                      exact ⟨i3 + n3, s.extract i3 (i3 + n3), by omega, by omega, by go_num, HN.out, HV2.out⟩
                  · have h34 := of_decide_eq_true HB34.out
                    have hlt3 : i3 < s.size := by
                      have := (List.getElem?_eq_some_iff.1 h34).1
                      rwa [HL.out] at this
                    have hval := Pm.val_at s.data.toList i3
                    rw [if_pos h34] at hval
                    have HVl := Hid.mk' hval
                    clear hval h34 HB34
                    go_wp2
                    refine medLoop2_any s w _ hs i3 hlt3 wo nm ps ao cap q HP.out _ _ _ _ _ _ _ _ _ _ _ _ _ _ _ _ _ _ _ _ _ _ _ _ _ _ _ _ _ _ _ _ _ _ _ _ _ _ _ _ _ _ _ _ _ _ _ _ _ _ _ _ _ _ _ _ _ _ _ _ _ _ _ _ _ _ _ _ _ _ _ _ _ _ _ _ _ _ _ _ _ _ _ _ _ _ _ _ _ _ _ _ _ _ _ _ _ _ _ _ _ _ _ _ _ _ _ _ _ _ _ _ _ _ _ _ _ _ _ _ _ _ _ _ _ _ _ _ _ _ _ _ _ _ _ _ _ _ _ _ _ _ _ _ _ _ _ _ _ _ _ _ _ _ _ _ _ _ _ _ _ _ _ _ _ _ _ _ _ _ _ _ _ _ _ _ _ _ _ _ _ _ _ _ _ _ _ _ _ _ _ _ _ _ _ _ _ _ _ _ _ _ _ _ _ _ _ _ _ _ _ _ _ _ _ _ _ _ _ ?_ ?_
                    · intro tm w' h2 h3 hc0 hc1 hb hn
                      have HR : Pm.media s.data.toList = .inl 14 := by
                        have h1 := HM.out
                        have h2 := HVl.out
                        rw [hn] at h2
                        rw [h2] at h1
                        exact h1
                      exact HRt.out.bad (c := 14) HR _ _ h2 h3 hc0 hc1 hb
                    · intro k v cl w6 y3 y131 y132 y133 y134 y135 y136 y137 y138 y139 y140 y141 y142 y143 y144 y145 y146 y147 y148 y149 y150 y151 y152 y153 y154 y155 y156 y157 y158 y159 y160 y161 y162 y163 y164 y165 y166 y167 y168 y169 y170 y171 y172 y173 y174 y175 hk1 hk2 hP6 hyes hno6
                      clear HP
                      have HP := Hid.mk' hP6
                      have HY := Hid.mk' hyes
                      have HNo := Hid.mk' hno6
                      clear hP6 hyes hno6
                      obtain ⟨c0, c1, f0, f1, d0, d1, g0, g1⟩ := HP.out.med.cells
                      have HA := Hid.mk' HP.out.med
                      (try simp only [Exit.inBlock, Exit.then])
                      cases cl
                      · have HR : Hid (Pm.media s.data.toList = .inl 14) := by
                          have h1 := HM.out
                          have h2 := HVl.out
                          rw [HNo.out rfl] at h2
                          rw [h2] at h1
                          exact h1
                        clear HM HVl HY HNo
                        go_wp2
                        refine HRt.out.bad (c := 14) HR.out _ _ rfl rfl ?_ ?_ ?_
                        · first | exact c0 | exact (zero_cells c0 c1).1
                        · first | exact c1 | exact (zero_cells c0 c1).2
                        · first | exact HA.out.below | exact (HA.out.below.setCell (Nat.le_refl _) _).setCell (Nat.le_refl _) _
                      · have HV2 : Hid (Pm.val (s.data.toList.drop i3) = .inr (v.data.toList, s.data.toList.drop k)) := by
                          have h2 := HVl.out
                          rw [HY.out rfl] at h2
                          exact h2
                        clear HVl HY HNo
                        go_wp2
                        go_meet
                        exact ⟨k, v, hk1, hk2, rfl, HP.out, HV2.out⟩
                case rest =>
                  obtain ⟨i4, v, h4a, h4b, rfl, hP, hval⟩ := hcut
                  clear HP
                  have HP := Hid.mk' hP
                  have hM := HM.out
                  rw [hval] at hM
                  simp only [] at hM
                  have HM2 := Hid.mk' hM
                  clear hP hM hval HM HB34
                  go_wp2
                  refine medLoop3_any s w _ wo nm v ps h8 ao cap q HP.out _ _ _ _ _ _ _ _ _ _ _ _ _ _ _ _ _ _ _ _ _ _ _ _ _ _ _ _ _ _ _ _ _ _ _ _ _ _ _ _ _ _ _ _ _ _ _ _ _ _ _ _ _ _ _ _ _ _ _ _ _ _ _ _ _ _ _ _ _ _ _ _ _ _ _ _ _ _ _ _ _ _ _ _ _ _ _ _ _ _ _ _ _ _ _ _ _ _ _ _ _ _ _ _ _ _ _ _ _ _ _ _ _ _ _ _ _ _ _ _ _ _ _ _ _ _ _ _ _ _ _ _ _ _ _ _ _ _ _ _ _ _ _ _ _ _ _ _ _ _ _ _ _ _ _ _ _ _ _ _ _ _ _ _ _ _ _ _ _ _ _ _ _ _ _ _ _ _ _ _ _ _ _ _ _ _ _ _ _ _ _ _ _ _ _ _ _ _ _ _ _ _ _ _ _ _ _ _ _ _ _ _ _ _ _ _ _ _ _ ?_ ?_
                  · intro tm w' h2 h3 hc0 hc1 hb hn
                    have HR : Pm.media s.data.toList = .inl 9 := by
                      have := HM2.out
                      rw [if_pos hn] at this
                      exact this
                    exact HRt.out.bad (c := 9) HR _ _ h2 h3 hc0 hc1 hb
                  · intro w7 y3 y195 y196 y197 y198 y199 y200 y201 y202 y203 y204 y205 y206 y207 y208 y209 y210 y211 hP7 hno7
                    clear HP
                    have HP := Hid.mk' hP7
                    obtain ⟨c0, c1, f0, f1, d0, d1, g0, g1⟩ := HP.out.med.cells
                    obtain ⟨p0, p1, pf0, pf1⟩ := HP.out.cells
                    have HA := Hid.mk' HP.out.med
                    have hM := HM2.out
                    rw [if_neg (by rw [hno7]; simp), parL_length] at hM
                    clear HM2 hno7 hP7
                    (try simp only [Exit.inBlock, Exit.then])
                    by_cases h8e : ps.length = 8
                    · have t8 : ((ps.length : Int) == 8) = true := by rw [beq_iff_eq]; omega
                      have HR : Hid (Pm.media s.data.toList = .inl 8) := by rw [if_pos h8e] at hM; exact hM
                      clear hM
                      go_wp2
                      refine HRt.out.bad (c := 8) HR.out _ _ rfl rfl ?_ ?_ ?_
                      · first | exact c0 | exact (zero_cells c0 c1).1
                      · first | exact c1 | exact (zero_cells c0 c1).2
                      · first | exact HA.out.below | exact (HA.out.below.setCell (Nat.le_refl _) _).setCell (Nat.le_refl _) _
                    · have t8 : ((ps.length : Int) == 8) = false := by rw [beq_eq_false_iff_ne]; omega
                      rw [if_neg h8e] at hM
                      have HM3 := Hid.mk' hM
                      clear hM
                      obtain ⟨t0, hi0, hz0, hz1, hz2⟩ := info_parts info_param
                      have Hi := Hid.mk' hi0; have Hz0 := Hid.mk' hz0; have Hz1 := Hid.mk' hz1; have Hz2 := Hid.mk' hz2
                      clear hi0 hz0 hz1 hz2
                      go_wp2_with (at_builtin; refine wpList_append_v rfl (.tmp 218) (.tmp 220) 111 rfl (w.heap.size + 2) 133 t0 (.agg #[.string ⟨#[]⟩, .string ⟨#[]⟩]) 2 32 Tryz.underlying111 Hi.out Hz0.out Hz1.out Hz2.out rfl (by decide) rfl (HA.out.own.alloc _) rfl (IsV.made _ _ 1 _ _) rfl (fun u hu => by simp at hu; rcases hu with rfl | rfl <;> rfl) (by omega) (by omega) (by have := HA.out.size; simp; omega) ?_; intro ao5 cap5 w5 hO5 hG5 _; have hB5 := HP.out.row _ hG5; have hm5 := (hB5.block (w.heap.size + 1) (by omega)).trans HA.out.med; have m1 : w5.cell? ⟨w.heap.size + 1, 1, none⟩ = some (.slice ao ps.length cap) := cell_of_row w5 _ 1 _ _ _ hm5; have mf : w5.frozen? ⟨w.heap.size + 1, 1, none⟩ = false := frozen_of_row w5 _ 1 _ _ hm5; have HO5 := Hid.mk' hO5; have HB5 := Hid.mk' hB5; clear hO5 hG5 hB5 hm5)
                      go_roundw
                      case rel =>
                        have hO := HO5.out
                        rw [show pairV ps ++ (#[Value.string nm, Value.string v]).toList = pairV (ps ++ [(nm, v)]) by rw [pairV_append]; rfl] at hO
                        refine ⟨i4, f', ps ++ [(nm, v)], ao5, cap5, h4b, rfl, HA.out.pars (ps' := ps ++ [(nm, v)]) (by rw [List.length_append]; exact hO) HB5.out _ (by rw [List.length_append]; rfl), by omega, by rw [List.length_append]; simp; omega, ?_⟩
                        rw [HM3.out, parL_append]; rfl
                      case measure => simp [intOf]; omega
            · have t61 : ((s[i2 + n2].toNat : Int) != 61) = true := byte_ne h61
              have HR : Hid (Pm.media s.data.toList = .inl 5) := by rw [if_neg (by intro e; injection e with e; exact h61 e)] at hM; exact hM
              clear hM h61
              go_wp2
              refine HRt.out.bad (c := 5) HR.out _ _ rfl rfl ?_ ?_ ?_
              · first | exact c0 | exact (zero_cells c0 c1).1
              · first | exact c1 | exact (zero_cells c0 c1).2
              · first | exact HA.out.below | exact (HA.out.below.setCell (Nat.le_refl _) _).setCell (Nat.le_refl _) _
      · have t59 : ((s[i1].toNat : Int) != 59) = true := byte_ne h59
        have HR : Hid (Pm.media s.data.toList = .inl 5) := by rw [if_neg (by intro e; injection e with e; exact h59 e)] at hM; exact hM
        clear hM h59
        go_wp2
        refine HRt.out.bad (c := 5) HR.out _ _ rfl rfl ?_ ?_ ?_
        · first | exact c0 | exact (zero_cells c0 c1).1
        · first | exact c1 | exact (zero_cells c0 c1).2
        · first | exact HA.out.below | exact (HA.out.below.setCell (Nat.le_refl _) _).setCell (Nat.le_refl _) _
end Go.Proofs.YtdclmpdjjkjfjaaGreatDoor
