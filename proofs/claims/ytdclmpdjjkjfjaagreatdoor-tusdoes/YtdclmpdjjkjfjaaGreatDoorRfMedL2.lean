/- The document's own answer, walked: MediaOf's loop over a quoted text. -/
import Derived.Test.YtdclmpdjjkjfjaaGreatDoorPk22
namespace Go.Proofs.YtdclmpdjjkjfjaaGreatDoor
open Go.RowKit

set_option maxRecDepth 100000 in
set_option maxHeartbeats 4000000 in
theorem medLoop2_any (s : ByteArray) (w wr0 : World) (hs : s.size ≤ 2000) (i3 : Nat) (hlt3 : i3 < s.size) (wo nm : ByteArray) (ps : List (ByteArray × ByteArray)) (ao : Option Addr) (cap q : Nat) (hP0 : MedPar w wo ps ao cap q nm ⟨#[]⟩ wr0) (Q0 : Exit → Act → World → Prop)
    (x1 x3 x5 x6 x9 x10 x11 x12 x13 x14 x15 x16 x17 x18 x19 x20 x21 x22 x23 x24 x25 x26 x27 x28 x29 x30 x31 x32 x33 x34 x35 x36 x37 x38 x39 x40 x41 x42 x43 x44 x45 x46 x47 x48 x49 x50 x51 x52 x53 x54 x55 x56 x57 x58 x59 x60 x61 x62 x63 x64 x65 x66 x67 x68 x69 x70 x71 x72 x73 x74 x75 x76 x77 x78 x79 x80 x81 x82 x83 x84 x85 x86 x87 x88 x89 x90 x91 x92 x93 x94 x95 x96 x97 x98 x99 x100 x101 x102 x103 x104 x105 x106 x107 x108 x109 x110 x111 x112 x113 x114 x115 x116 x117 x118 x119 x120 x121 x122 x123 x124 x125 x126 x127 x128 x129 x130 x131 x132 x133 x134 x135 x136 x137 x138 x139 x140 x141 x142 x143 x144 x145 x146 x147 x148 x149 x150 x151 x152 x153 x154 x155 x156 x157 x158 x159 x160 x161 x162 x163 x164 x165 x166 x167 x168 x169 x170 x171 x172 x173 x174 x175 x176 x177 x178 x179 x180 x181 x182 x183 x184 x185 x186 x187 x188 x189 x190 x191 x192 x193 x194 x195 x196 x197 x198 x199 x200 x201 x202 x203 x204 x205 x206 x207 x208 x209 x210 x211 x212 x213 x214 x215 x216 x217 x218 x219 x220 x221 x222 : Value)
    (hret : CodeRet w 14 (Pm.quo [] (s.data.toList.drop (i3 + 1)) = none) Q0)
    (hexit : ∀ (k : Nat) (v : ByteArray) (cl : Bool) (w' : World) (y3 y131 y132 y133 y134 y135 y136 y137 y138 y139 y140 y141 y142 y143 y144 y145 y146 y147 y148 y149 y150 y151 y152 y153 y154 y155 y156 y157 y158 y159 y160 y161 y162 y163 y164 y165 y166 y167 y168 y169 y170 y171 y172 y173 y174 y175 : Value), i3 ≤ k → k ≤ s.size → MedPar w wo ps ao cap q nm v w' → (cl = true → Pm.quo [] (s.data.toList.drop (i3 + 1)) = some (v.data.toList, s.data.toList.drop k)) → (cl = false → Pm.quo [] (s.data.toList.drop (i3 + 1)) = none) →
      Q0 (.exit 2) ⟨(List.toArray ((.string s) :: x1 :: (.pointer (some ⟨w.heap.size, 0, none⟩)) :: (y3) :: (.int .i64 (k : Int)) :: x5 :: x6 :: (.pointer (some ⟨q, 0, none⟩)) :: (.bool cl) :: x9 :: x10 :: x11 :: x12 :: x13 :: x14 :: x15 :: x16 :: x17 :: x18 :: x19 :: x20 :: x21 :: x22 :: x23 :: x24 :: x25 :: x26 :: x27 :: x28 :: x29 :: x30 :: x31 :: x32 :: x33 :: x34 :: x35 :: x36 :: x37 :: x38 :: x39 :: x40 :: x41 :: x42 :: x43 :: x44 :: x45 :: x46 :: x47 :: x48 :: x49 :: x50 :: x51 :: x52 :: x53 :: x54 :: x55 :: x56 :: x57 :: x58 :: x59 :: x60 :: x61 :: x62 :: x63 :: x64 :: x65 :: x66 :: x67 :: x68 :: x69 :: x70 :: x71 :: x72 :: x73 :: x74 :: x75 :: x76 :: x77 :: x78 :: x79 :: x80 :: x81 :: x82 :: x83 :: x84 :: x85 :: x86 :: x87 :: x88 :: x89 :: x90 :: x91 :: x92 :: x93 :: x94 :: x95 :: x96 :: x97 :: x98 :: x99 :: x100 :: x101 :: x102 :: x103 :: x104 :: x105 :: x106 :: x107 :: x108 :: x109 :: x110 :: x111 :: x112 :: x113 :: x114 :: x115 :: x116 :: x117 :: x118 :: x119 :: x120 :: x121 :: x122 :: x123 :: x124 :: x125 :: x126 :: x127 :: x128 :: x129 :: x130 :: (y131) :: (y132) :: (y133) :: (y134) :: (y135) :: (y136) :: (y137) :: (y138) :: (y139) :: (y140) :: (y141) :: (y142) :: (y143) :: (y144) :: (y145) :: (y146) :: (y147) :: (y148) :: (y149) :: (y150) :: (y151) :: (y152) :: (y153) :: (y154) :: (y155) :: (y156) :: (y157) :: (y158) :: (y159) :: (y160) :: (y161) :: (y162) :: (y163) :: (y164) :: (y165) :: (y166) :: (y167) :: (y168) :: (y169) :: (y170) :: (y171) :: (y172) :: (y173) :: (y174) :: (y175) :: x176 :: x177 :: x178 :: x179 :: x180 :: x181 :: x182 :: x183 :: x184 :: x185 :: x186 :: x187 :: x188 :: x189 :: x190 :: x191 :: x192 :: x193 :: x194 :: x195 :: x196 :: x197 :: x198 :: x199 :: x200 :: x201 :: x202 :: x203 :: x204 :: x205 :: x206 :: x207 :: x208 :: x209 :: x210 :: x211 :: x212 :: x213 :: x214 :: x215 :: x216 :: x217 :: x218 :: x219 :: x220 :: x221 :: x222 :: [])), []⟩ w') :
    Code.wp Tryz.prog medLoop2 Q0 ⟨(List.toArray ((.string s) :: x1 :: (.pointer (some ⟨w.heap.size, 0, none⟩)) :: x3 :: (.int .i64 ((i3 : Int) + 1)) :: x5 :: x6 :: (.pointer (some ⟨q, 0, none⟩)) :: (.bool false) :: x9 :: x10 :: x11 :: x12 :: x13 :: x14 :: x15 :: x16 :: x17 :: x18 :: x19 :: x20 :: x21 :: x22 :: x23 :: x24 :: x25 :: x26 :: x27 :: x28 :: x29 :: x30 :: x31 :: x32 :: x33 :: x34 :: x35 :: x36 :: x37 :: x38 :: x39 :: x40 :: x41 :: x42 :: x43 :: x44 :: x45 :: x46 :: x47 :: x48 :: x49 :: x50 :: x51 :: x52 :: x53 :: x54 :: x55 :: x56 :: x57 :: x58 :: x59 :: x60 :: x61 :: x62 :: x63 :: x64 :: x65 :: x66 :: x67 :: x68 :: x69 :: x70 :: x71 :: x72 :: x73 :: x74 :: x75 :: x76 :: x77 :: x78 :: x79 :: x80 :: x81 :: x82 :: x83 :: x84 :: x85 :: x86 :: x87 :: x88 :: x89 :: x90 :: x91 :: x92 :: x93 :: x94 :: x95 :: x96 :: x97 :: x98 :: x99 :: x100 :: x101 :: x102 :: x103 :: x104 :: x105 :: x106 :: x107 :: x108 :: x109 :: x110 :: x111 :: x112 :: x113 :: x114 :: x115 :: x116 :: x117 :: x118 :: x119 :: x120 :: x121 :: x122 :: x123 :: x124 :: x125 :: x126 :: x127 :: x128 :: x129 :: x130 :: x131 :: x132 :: x133 :: x134 :: x135 :: x136 :: x137 :: x138 :: x139 :: x140 :: x141 :: x142 :: x143 :: x144 :: x145 :: x146 :: x147 :: x148 :: x149 :: x150 :: x151 :: x152 :: x153 :: x154 :: x155 :: x156 :: x157 :: x158 :: x159 :: x160 :: x161 :: x162 :: x163 :: x164 :: x165 :: x166 :: x167 :: x168 :: x169 :: x170 :: x171 :: x172 :: x173 :: x174 :: x175 :: x176 :: x177 :: x178 :: x179 :: x180 :: x181 :: x182 :: x183 :: x184 :: x185 :: x186 :: x187 :: x188 :: x189 :: x190 :: x191 :: x192 :: x193 :: x194 :: x195 :: x196 :: x197 :: x198 :: x199 :: x200 :: x201 :: x202 :: x203 :: x204 :: x205 :: x206 :: x207 :: x208 :: x209 :: x210 :: x211 :: x212 :: x213 :: x214 :: x215 :: x216 :: x217 :: x218 :: x219 :: x220 :: x221 :: x222 :: [])), []⟩ wr0 := by
  have hl : s.data.toList.length = s.size := by rw [Array.length_toList]; rfl
  have HL := Hid.mk' hl
  have HP := Hid.mk' hP0
  have HRt := Hid.mk' hret
  have HX := Hid.mk' hexit
  clear hl hP0 hret hexit
  conv => arg 2; whnf
  go_loopw [4, 8] (fun vi vc wr => ∃ (k : Nat) (v : ByteArray) (cl : Bool), i3 ≤ k ∧ k ≤ s.size ∧ vi = .int .i64 k ∧ vc = .bool cl ∧ MedPar w wo ps ao cap q nm v wr ∧ v.size ≤ k ∧ Pm.quo [] (s.data.toList.drop (i3 + 1)) = if cl then some (v.data.toList, s.data.toList.drop k) else Pm.quo v.data.toList (s.data.toList.drop k)) (fun vi _ _ => s.size - (intOf vi).toNat)
  case atStart => exact ⟨i3 + 1, ⟨#[]⟩, false, by omega, by omega, by go_num, rfl, HP.out, Nat.zero_le _, rfl⟩
  case round =>
    clear HP
    obtain ⟨k, v, cl, hk1, hk2, rfl, rfl, hP, hvz, hqu⟩ := hrel
    have HP := Hid.mk' hP
    have HQ := Hid.mk' hqu
    clear hP hqu
    obtain ⟨c0, c1, f0, f1, d0, d1, g0, g1⟩ := HP.out.med.cells
    obtain ⟨p0, p1, pf0, pf1⟩ := HP.out.cells
    have HA := Hid.mk' HP.out.med
    have HZ := Hid.mk' (zero_cells c0 c1)
    cases cl
    · by_cases hkl : k < s.size
      · have hd : s.data.toList.drop k = s[k] :: s.data.toList.drop (k + 1) := by
          rw [List.drop_eq_getElem_cons (show k < s.data.toList.length by rw [HL.out]; exact hkl), list_at s k hkl]
        have hq := HQ.out
        rw [if_neg (by simp), hd] at hq
        have hkl' : (k : Int) < s.size := by omega
        by_cases h34 : s[k] = 34
        · have t34 : ((s[k].toNat : Int) == 34) = true := by rw [h34]; rfl
          rw [h34, Pm.quo_end] at hq
          have HQ2 := Hid.mk' hq
          clear hq hd h34 HQ
          go_wp2
          go_roundw
          case rel => exact ⟨k + 1, v, true, by omega, by omega, by go_num, rfl, HP.out, by omega, by rw [HQ2.out]; rfl⟩
          case measure => simp [intOf]; omega
        · have t34 : ((s[k].toNat : Int) == 34) = false := byte_ne' h34
          by_cases h92 : s[k] = 92
          · have t92 : ((s[k].toNat : Int) == 92) = true := by rw [h92]; rfl
            rw [h92] at hq
            by_cases hk2l : k + 1 < s.size
            · have te2 : ((k : Int) + 1 == s.size) = false := by rw [beq_eq_false_iff_ne]; omega
              have hd2 : s.data.toList.drop (k + 1) = s[k + 1] :: s.data.toList.drop (k + 2) := by
                rw [List.drop_eq_getElem_cons (show k + 1 < s.data.toList.length by rw [HL.out]; exact hk2l), list_at s (k + 1) hk2l]
              rw [hd2, Pm.quo_back] at hq
              have HX1 := Hid.mk' (Ch.one_at s (k + 1) hk2l)
              have HQ2 : Hid (Pm.quo [] (s.data.toList.drop (i3 + 1)) = Pm.quo (v ++ s.extract (k + 1) (k + 2)).data.toList (s.data.toList.drop (k + 2))) := by
                unfold Hid
                rw [hq, Ch.data_append, HX1.out]
              have hxz : (s.extract (k + 1) (k + 2)).size ≤ 1 := by simp; omega
              have HN := Hid.mk' (fun z => (HP.out.drewN z).value (v ++ s.extract (k + 1) (k + 2)))
              have e1 : (k : Int) + 2 ≤ s.size := by omega
              have e2 : (k : Int) + 1 ≤ (k : Int) + 2 := by omega
              have e3 : ((k : Int) + 2).toNat = k + 2 := by omega
              have e4 : IntKind.i64.wrap ((k : Int) + 2) = (k : Int) + 2 := wrap_id (by omega) (by omega)
              have e5 : ((k : Int) + 1).toNat = k + 1 := by omega
              have e6 : IntKind.i64.wrap ((k : Int) + 1) = (k : Int) + 1 := wrap_id (by omega) (by omega)
              have e7 : (0 : Int) ≤ (k : Int) + 1 := by omega
              clear hq hd hd2 h34 h92 HQ HX1 HZ
              go_wp2
              go_region
              all_goals
                go_wp2
                go_roundw
                case rel => exact ⟨k + 2, v ++ s.extract (k + 1) (k + 2), false, by omega, by omega, by go_num, rfl, HN.out _, by rw [ByteArray.size_append]; omega, HQ2.out⟩
                case measure => simp [intOf]; omega
            · obtain hke : k + 1 = s.size := by omega
              have te2 : ((k : Int) + 1 == s.size) = true := by rw [beq_iff_eq]; omega
              have HR : Hid (Pm.quo [] (s.data.toList.drop (i3 + 1)) = none) := by
                rw [List.drop_eq_nil_of_le (show s.data.toList.length ≤ k + 1 by rw [HL.out]; omega), Pm.quo_back_nil] at hq
                exact hq
              clear HQ hq hd h34 h92
              go_wp2
              refine HRt.out _ _ rfl rfl ?_ ?_ ?_ HR.out
              · first | exact c0 | exact HZ.out.1
              · first | exact c1 | exact HZ.out.2
              · first | exact HA.out.below | exact (HA.out.below.setCell (Nat.le_refl _) _).setCell (Nat.le_refl _) _
          · have t92 : ((s[k].toNat : Int) == 92) = false := byte_ne' h92
            rw [Pm.quo_byte _ _ _ h34 h92] at hq
            have HX1 := Hid.mk' (Ch.one_at s k hkl)
            have HQ2 : Hid (Pm.quo [] (s.data.toList.drop (i3 + 1)) = Pm.quo (v ++ s.extract k (k + 1)).data.toList (s.data.toList.drop (k + 1))) := by
              unfold Hid
              rw [hq, Ch.data_append, HX1.out]
            have hxz : (s.extract k (k + 1)).size ≤ 1 := by simp; omega
            have HN := Hid.mk' (fun z => (HP.out.drewN z).value (v ++ s.extract k (k + 1)))
            have e1 : (k : Int) + 1 ≤ s.size := by omega
            have e2 : (k : Int) ≤ (k : Int) + 1 := by omega
            have e5 : ((k : Int) + 1).toNat = k + 1 := by omega
            have e6 : IntKind.i64.wrap ((k : Int) + 1) = (k : Int) + 1 := wrap_id (by omega) (by omega)
            clear hq hd h34 h92 HQ HX1 HZ
            go_wp2
            go_region
            all_goals
              go_wp2
              go_roundw
              case rel => exact ⟨k + 1, v ++ s.extract k (k + 1), false, by omega, by omega, by go_num, rfl, HN.out _, by rw [ByteArray.size_append]; omega, HQ2.out⟩
              case measure => simp [intOf]; omega
      · obtain rfl : k = s.size := by omega
        have HR : Hid (Pm.quo [] (s.data.toList.drop (i3 + 1)) = none) := by
          have h3 := HQ.out
          rw [if_neg (by simp), show s.data.toList.drop s.size = [] from List.drop_eq_nil_of_le (by rw [HL.out]; exact Nat.le_refl _), Pm.quo_nil] at h3
          exact h3
        clear HQ HZ
        go_wp2
        exact HX.out s.size v false _ _ _ _ _ _ _ _ _ _ _ _ _ _ _ _ _ _ _ _ _ _ _ _ _ _ _ _ _ _ _ _ _ _ _ _ _ _ _ _ _ _ _ _ _ _ _ hk1 hk2 HP.out (fun e => by cases e) (fun _ => HR.out)
    · have HQ2 : Hid (Pm.quo [] (s.data.toList.drop (i3 + 1)) = some (v.data.toList, s.data.toList.drop k)) := by
        have h3 := HQ.out
        rw [if_pos rfl] at h3
        exact h3
      clear HQ HZ
      by_cases hkl : k < s.size
      · have hkl' : (k : Int) < s.size := by omega
        go_wp2
        exact HX.out k v true _ _ _ _ _ _ _ _ _ _ _ _ _ _ _ _ _ _ _ _ _ _ _ _ _ _ _ _ _ _ _ _ _ _ _ _ _ _ _ _ _ _ _ _ _ _ _ hk1 hk2 HP.out (fun _ => HQ2.out) (fun e => by cases e)
      · obtain rfl : k = s.size := by omega
        go_wp2
        exact HX.out s.size v true _ _ _ _ _ _ _ _ _ _ _ _ _ _ _ _ _ _ _ _ _ _ _ _ _ _ _ _ _ _ _ _ _ _ _ _ _ _ _ _ _ _ _ _ _ _ _ hk1 hk2 HP.out (fun _ => HQ2.out) (fun e => by cases e)
end Go.Proofs.YtdclmpdjjkjfjaaGreatDoor
