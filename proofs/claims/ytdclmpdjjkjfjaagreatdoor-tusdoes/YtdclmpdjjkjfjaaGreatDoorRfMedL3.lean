/- The document's own answer, walked: MediaOf's loop over the names that were there. -/
import Derived.Test.YtdclmpdjjkjfjaaGreatDoorPk22
namespace Go.Proofs.YtdclmpdjjkjfjaaGreatDoor
open Go.RowKit

set_option maxRecDepth 100000 in
set_option maxHeartbeats 4000000 in
theorem medLoop3_any (s : ByteArray) (w wr0 : World) (wo nm v : ByteArray) (ps : List (ByteArray × ByteArray)) (h8 : ps.length ≤ 8) (ao : Option Addr) (cap q : Nat) (hP0 : MedPar w wo ps ao cap q nm v wr0) (Q0 : Exit → Act → World → Prop)
    (x1 x3 x4 x5 x8 x10 x11 x12 x13 x14 x15 x16 x17 x18 x19 x20 x21 x22 x23 x24 x25 x26 x27 x28 x29 x30 x31 x32 x33 x34 x35 x36 x37 x38 x39 x40 x41 x42 x43 x44 x45 x46 x47 x48 x49 x50 x51 x52 x53 x54 x55 x56 x57 x58 x59 x60 x61 x62 x63 x64 x65 x66 x67 x68 x69 x70 x71 x72 x73 x74 x75 x76 x77 x78 x79 x80 x81 x82 x83 x84 x85 x86 x87 x88 x89 x90 x91 x92 x93 x94 x95 x96 x97 x98 x99 x100 x101 x102 x103 x104 x105 x106 x107 x108 x109 x110 x111 x112 x113 x114 x115 x116 x117 x118 x119 x120 x121 x122 x123 x124 x125 x126 x127 x128 x129 x130 x131 x132 x133 x134 x135 x136 x137 x138 x139 x140 x141 x142 x143 x144 x145 x146 x147 x148 x149 x150 x151 x152 x153 x154 x155 x156 x157 x158 x159 x160 x161 x162 x163 x164 x165 x166 x167 x168 x169 x170 x171 x172 x173 x174 x175 x176 x177 x178 x179 x180 x181 x182 x183 x184 x185 x186 x187 x188 x189 x190 x191 x192 x193 x194 x195 x196 x197 x198 x199 x200 x201 x202 x203 x204 x205 x206 x207 x208 x209 x210 x211 x212 x213 x214 x215 x216 x217 x218 x219 x220 x221 x222 : Value)
    (hret : CodeRet w 9 (((parL ps).any fun q => q.1 == nm.data.toList) = true) Q0)
    (hexit : ∀ (w' : World) (y3 y195 y196 y197 y198 y199 y200 y201 y202 y203 y204 y205 y206 y207 y208 y209 y210 y211 : Value), MedPar w wo ps ao cap q nm v w' → (((parL ps).any fun q => q.1 == nm.data.toList) = false) →
      Q0 (.exit 4) ⟨(List.toArray ((.string s) :: x1 :: (.pointer (some ⟨w.heap.size, 0, none⟩)) :: (y3) :: x4 :: x5 :: (.pointer (some ⟨w.heap.size + 1, 0, none⟩)) :: (.pointer (some ⟨q, 0, none⟩)) :: x8 :: (.int .i64 (ps.length : Int)) :: x10 :: x11 :: x12 :: x13 :: x14 :: x15 :: x16 :: x17 :: x18 :: x19 :: x20 :: x21 :: x22 :: x23 :: x24 :: x25 :: x26 :: x27 :: x28 :: x29 :: x30 :: x31 :: x32 :: x33 :: x34 :: x35 :: x36 :: x37 :: x38 :: x39 :: x40 :: x41 :: x42 :: x43 :: x44 :: x45 :: x46 :: x47 :: x48 :: x49 :: x50 :: x51 :: x52 :: x53 :: x54 :: x55 :: x56 :: x57 :: x58 :: x59 :: x60 :: x61 :: x62 :: x63 :: x64 :: x65 :: x66 :: x67 :: x68 :: x69 :: x70 :: x71 :: x72 :: x73 :: x74 :: x75 :: x76 :: x77 :: x78 :: x79 :: x80 :: x81 :: x82 :: x83 :: x84 :: x85 :: x86 :: x87 :: x88 :: x89 :: x90 :: x91 :: x92 :: x93 :: x94 :: x95 :: x96 :: x97 :: x98 :: x99 :: x100 :: x101 :: x102 :: x103 :: x104 :: x105 :: x106 :: x107 :: x108 :: x109 :: x110 :: x111 :: x112 :: x113 :: x114 :: x115 :: x116 :: x117 :: x118 :: x119 :: x120 :: x121 :: x122 :: x123 :: x124 :: x125 :: x126 :: x127 :: x128 :: x129 :: x130 :: x131 :: x132 :: x133 :: x134 :: x135 :: x136 :: x137 :: x138 :: x139 :: x140 :: x141 :: x142 :: x143 :: x144 :: x145 :: x146 :: x147 :: x148 :: x149 :: x150 :: x151 :: x152 :: x153 :: x154 :: x155 :: x156 :: x157 :: x158 :: x159 :: x160 :: x161 :: x162 :: x163 :: x164 :: x165 :: x166 :: x167 :: x168 :: x169 :: x170 :: x171 :: x172 :: x173 :: x174 :: x175 :: x176 :: x177 :: x178 :: x179 :: x180 :: x181 :: x182 :: x183 :: x184 :: x185 :: x186 :: x187 :: x188 :: x189 :: x190 :: x191 :: x192 :: x193 :: x194 :: (y195) :: (y196) :: (y197) :: (y198) :: (y199) :: (y200) :: (y201) :: (y202) :: (y203) :: (y204) :: (y205) :: (y206) :: (y207) :: (y208) :: (y209) :: (y210) :: (y211) :: x212 :: x213 :: x214 :: x215 :: x216 :: x217 :: x218 :: x219 :: x220 :: x221 :: x222 :: [])), []⟩ w') :
    Code.wp Tryz.prog medLoop3 Q0 ⟨(List.toArray ((.string s) :: x1 :: (.pointer (some ⟨w.heap.size, 0, none⟩)) :: x3 :: x4 :: x5 :: (.pointer (some ⟨w.heap.size + 1, 0, none⟩)) :: (.pointer (some ⟨q, 0, none⟩)) :: x8 :: (.int .i64 0) :: x10 :: x11 :: x12 :: x13 :: x14 :: x15 :: x16 :: x17 :: x18 :: x19 :: x20 :: x21 :: x22 :: x23 :: x24 :: x25 :: x26 :: x27 :: x28 :: x29 :: x30 :: x31 :: x32 :: x33 :: x34 :: x35 :: x36 :: x37 :: x38 :: x39 :: x40 :: x41 :: x42 :: x43 :: x44 :: x45 :: x46 :: x47 :: x48 :: x49 :: x50 :: x51 :: x52 :: x53 :: x54 :: x55 :: x56 :: x57 :: x58 :: x59 :: x60 :: x61 :: x62 :: x63 :: x64 :: x65 :: x66 :: x67 :: x68 :: x69 :: x70 :: x71 :: x72 :: x73 :: x74 :: x75 :: x76 :: x77 :: x78 :: x79 :: x80 :: x81 :: x82 :: x83 :: x84 :: x85 :: x86 :: x87 :: x88 :: x89 :: x90 :: x91 :: x92 :: x93 :: x94 :: x95 :: x96 :: x97 :: x98 :: x99 :: x100 :: x101 :: x102 :: x103 :: x104 :: x105 :: x106 :: x107 :: x108 :: x109 :: x110 :: x111 :: x112 :: x113 :: x114 :: x115 :: x116 :: x117 :: x118 :: x119 :: x120 :: x121 :: x122 :: x123 :: x124 :: x125 :: x126 :: x127 :: x128 :: x129 :: x130 :: x131 :: x132 :: x133 :: x134 :: x135 :: x136 :: x137 :: x138 :: x139 :: x140 :: x141 :: x142 :: x143 :: x144 :: x145 :: x146 :: x147 :: x148 :: x149 :: x150 :: x151 :: x152 :: x153 :: x154 :: x155 :: x156 :: x157 :: x158 :: x159 :: x160 :: x161 :: x162 :: x163 :: x164 :: x165 :: x166 :: x167 :: x168 :: x169 :: x170 :: x171 :: x172 :: x173 :: x174 :: x175 :: x176 :: x177 :: x178 :: x179 :: x180 :: x181 :: x182 :: x183 :: x184 :: x185 :: x186 :: x187 :: x188 :: x189 :: x190 :: x191 :: x192 :: x193 :: x194 :: x195 :: x196 :: x197 :: x198 :: x199 :: x200 :: x201 :: x202 :: x203 :: x204 :: x205 :: x206 :: x207 :: x208 :: x209 :: x210 :: x211 :: x212 :: x213 :: x214 :: x215 :: x216 :: x217 :: x218 :: x219 :: x220 :: x221 :: x222 :: [])), []⟩ wr0 := by
  have HP := Hid.mk' hP0
  have HRt := Hid.mk' hret
  have HX := Hid.mk' hexit
  clear hP0 hret hexit
  conv => arg 2; whnf
  go_loopw [9] (fun t wr => ∃ k : Nat, k ≤ ps.length ∧ t = .int .i64 k ∧ MedPar w wo ps ao cap q nm v wr ∧ ∀ p ∈ ps.take k, p.1.data.toList ≠ nm.data.toList) (fun t _ => ps.length - (intOf t).toNat)
  case atStart => exact ⟨0, Nat.zero_le _, rfl, HP.out, fun p hp => by simp at hp⟩
  case round =>
    clear HP
    obtain ⟨k, hk, rfl, hP, hno⟩ := hrel
    have HP := Hid.mk' hP
    have HN := Hid.mk' hno
    clear hP hno
    obtain ⟨c0, c1, f0, f1, d0, d1, g0, g1⟩ := HP.out.med.cells
    obtain ⟨p0, p1, pf0, pf1⟩ := HP.out.cells
    have HA := Hid.mk' HP.out.med
    by_cases hkl : k < ps.length
    · obtain ⟨bb, oo, rfl, hcs⟩ := HP.out.med.own.isV.lit (by rw [pairV_length]; omega)
      have hc0 := hcs _ _ (pairV_at ps k hkl).1
      clear hcs
      have hkl' : (k : Int) < ps.length := by omega
      have hx := same_text ps[k].1 nm
      have HT : Hid (ps.take (k + 1) = ps.take k ++ [ps[k]]) := List.take_succ_eq_append_getElem hkl
      by_cases he : ps[k].1.data.toList = nm.data.toList
      · rw [decide_eq_true he] at hx
        have HR := Hid.mk' (parL_any hkl he)
        clear he HT HN
        generalize ps[k] = p at *
        go_wp2
        go_quiet (fail)
        go_wp2
        have HA2 := Hid.mk' (HA.out.drewN nq)
        have HZ := Hid.mk' (zero_cells HA2.out.cells.1 HA2.out.cells.2.1)
        refine HRt.out _ _ rfl rfl ?_ ?_ ?_ HR.out
        · first | exact HA2.out.cells.1 | exact HZ.out.1
        · first | exact HA2.out.cells.2.1 | exact HZ.out.2
        · first | exact HA2.out.below | exact (HA2.out.below.setCell (Nat.le_refl _) _).setCell (Nat.le_refl _) _
      · rw [decide_eq_false he] at hx
        have HE := Hid.mk' he
        clear he
        generalize ps[k] = p at *
        go_wp2
        go_quiet (fail)
        go_wp2
        go_roundw
        case rel =>
          refine ⟨k + 1, by omega, by go_num, HP.out.drewN _, fun r hr => ?_⟩
          rw [HT.out, List.mem_append] at hr
          rcases hr with hr | hr
          · exact HN.out r hr
          · rw [List.mem_singleton] at hr; subst hr; exact HE.out
        case measure => simp [intOf]; omega
    · obtain rfl : k = ps.length := by omega
      have HNo := Hid.mk' (parL_none (fun p hp => HN.out p (by rw [List.take_length]; exact hp)))
      clear HN
      go_wp2
      exact HX.out _ _ _ _ _ _ _ _ _ _ _ _ _ _ _ _ _ _ _ HP.out HNo.out
end Go.Proofs.YtdclmpdjjkjfjaaGreatDoor
