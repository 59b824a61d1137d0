/- SpoolDoes: the switch over what a step asks, walked. -/
import Derived.Test.YtankilclhknbkaaDoorSqLawE
namespace Go.Proofs.YtankilclhknbkaaDoor
open Go.RowKit

set_option maxRecDepth 100000 in
set_option maxHeartbeats 20000000 in
theorem spSwitch_any (w wc : World) (gs gh go gw xb i : Nat) (s : Sp.St) (p : Stp) (hRd : RoundAt w.heap.size w wc gs gh go gw xb s s s p) (hok : Sp.Ok s) (htx : p.text.size ≤ 20000) (hla : s.last ≤ i) (hi2 : i ≤ 200) (Q0 : Exit → Act → World → Prop)
    (x0 x1 x2 x5 x7 x8 x11 x12 x13 x14 x15 x16 x17 x18 x19 x20 x21 x22 x23 x24 x25 x26 x27 x28 x29 x30 x31 x32 x33 x34 x35 x36 x37 x39 x40 x41 x42 x43 x44 x45 x46 x47 x48 x49 x50 x51 x52 x53 x54 x55 x56 x57 x58 x59 x60 x61 x62 x63 x64 x65 x66 x67 x68 x69 x70 x71 x72 x73 x74 x75 x76 x77 x78 x79 x80 x81 x82 x83 x84 x85 x86 x87 x88 x89 x90 x91 x92 x93 x94 x95 x96 x97 x98 x99 x100 x101 x102 x103 x104 x105 x106 x107 x108 x109 x110 x111 x112 x113 x114 x115 x116 x117 x118 x119 x120 x121 x122 x123 x124 x125 x126 x127 x128 x129 x130 x131 x132 x133 x134 x135 x136 x137 x138 x139 x140 x141 x142 x143 x144 x145 x146 x147 x148 x149 x150 x151 x152 x153 x154 x155 x156 x157 x158 x159 x160 x161 x162 x163 x164 x165 x166 x167 x168 x169 x170 x171 x172 x173 x174 x175 x176 x177 x178 x179 x180 x181 x182 x183 x184 x185 x186 x187 x188 x189 x190 x191 x192 x193 x194 x195 x196 x197 x198 x199 x200 x201 x202 x203 x204 x205 x206 x207 x208 x209 x210 x211 x212 x213 x214 x215 x216 x217 x218 : Value)
    (hexit : ∀ (w' : World) (s' : Sp.St) (c : Nat) (y11 y12 y38 y39 y40 y41 y42 y43 y44 y45 y46 y47 y48 y49 y50 y51 y52 y53 y54 y55 y56 y57 y58 y59 y60 y61 y62 y63 y64 y65 y66 y67 y68 y69 y70 y71 y72 y73 y74 y75 y76 y77 y78 y79 y80 y81 y82 y83 y84 y85 y86 y87 y88 y89 y90 y91 y92 y93 y94 y95 y96 y97 y98 y99 y100 y101 y102 y103 y104 y105 y106 y107 y108 y109 y110 y111 y112 y113 y114 y115 y116 y117 y118 y119 y120 y121 y122 y123 y124 y125 : Value), RoundAt w.heap.size w w' gs gh go gw xb s' s' s p → s'.last ≤ i + 1 → Q0 .normal ⟨(List.toArray (x0 :: x1 :: x2 :: (.pointer (some ⟨gs, 0, none⟩)) :: (.pointer (some ⟨gh, 0, none⟩)) :: x5 :: (.pointer (some ⟨xb, 0, none⟩)) :: x7 :: x8 :: (.int .i64 (c : Int)) :: (.int .i64 (c : Int)) :: (y11) :: (y12) :: x13 :: x14 :: x15 :: x16 :: x17 :: x18 :: x19 :: x20 :: x21 :: x22 :: x23 :: x24 :: x25 :: x26 :: x27 :: x28 :: x29 :: x30 :: x31 :: x32 :: x33 :: x34 :: x35 :: x36 :: x37 :: (y38) :: (y39) :: (y40) :: (y41) :: (y42) :: (y43) :: (y44) :: (y45) :: (y46) :: (y47) :: (y48) :: (y49) :: (y50) :: (y51) :: (y52) :: (y53) :: (y54) :: (y55) :: (y56) :: (y57) :: (y58) :: (y59) :: (y60) :: (y61) :: (y62) :: (y63) :: (y64) :: (y65) :: (y66) :: (y67) :: (y68) :: (y69) :: (y70) :: (y71) :: (y72) :: (y73) :: (y74) :: (y75) :: (y76) :: (y77) :: (y78) :: (y79) :: (y80) :: (y81) :: (y82) :: (y83) :: (y84) :: (y85) :: (y86) :: (y87) :: (y88) :: (y89) :: (y90) :: (y91) :: (y92) :: (y93) :: (y94) :: (y95) :: (y96) :: (y97) :: (y98) :: (y99) :: (y100) :: (y101) :: (y102) :: (y103) :: (y104) :: (y105) :: (y106) :: (y107) :: (y108) :: (y109) :: (y110) :: (y111) :: (y112) :: (y113) :: (y114) :: (y115) :: (y116) :: (y117) :: (y118) :: (y119) :: (y120) :: (y121) :: (y122) :: (y123) :: (y124) :: (y125) :: x126 :: x127 :: x128 :: x129 :: x130 :: x131 :: x132 :: x133 :: x134 :: x135 :: x136 :: x137 :: x138 :: x139 :: x140 :: x141 :: x142 :: x143 :: x144 :: x145 :: x146 :: x147 :: x148 :: x149 :: x150 :: x151 :: x152 :: x153 :: x154 :: x155 :: x156 :: x157 :: x158 :: x159 :: x160 :: x161 :: x162 :: x163 :: x164 :: x165 :: x166 :: x167 :: x168 :: x169 :: x170 :: x171 :: x172 :: x173 :: x174 :: x175 :: x176 :: x177 :: x178 :: x179 :: x180 :: x181 :: x182 :: x183 :: x184 :: x185 :: x186 :: x187 :: x188 :: x189 :: x190 :: x191 :: x192 :: x193 :: x194 :: x195 :: x196 :: x197 :: x198 :: x199 :: x200 :: x201 :: x202 :: x203 :: x204 :: x205 :: x206 :: x207 :: x208 :: x209 :: x210 :: x211 :: x212 :: x213 :: x214 :: x215 :: x216 :: x217 :: x218 :: [])), []⟩ w') :
    Code.wp Tryd.prog spSwitch Q0 ⟨(List.toArray (x0 :: x1 :: x2 :: (.pointer (some ⟨gs, 0, none⟩)) :: (.pointer (some ⟨gh, 0, none⟩)) :: x5 :: (.pointer (some ⟨xb, 0, none⟩)) :: x7 :: x8 :: (.int .i64 0) :: (.int .i64 0) :: x11 :: x12 :: x13 :: x14 :: x15 :: x16 :: x17 :: x18 :: x19 :: x20 :: x21 :: x22 :: x23 :: x24 :: x25 :: x26 :: x27 :: x28 :: x29 :: x30 :: x31 :: x32 :: x33 :: x34 :: x35 :: x36 :: x37 :: (.int .i64 p.op) :: x39 :: x40 :: x41 :: x42 :: x43 :: x44 :: x45 :: x46 :: x47 :: x48 :: x49 :: x50 :: x51 :: x52 :: x53 :: x54 :: x55 :: x56 :: x57 :: x58 :: x59 :: x60 :: x61 :: x62 :: x63 :: x64 :: x65 :: x66 :: x67 :: x68 :: x69 :: x70 :: x71 :: x72 :: x73 :: x74 :: x75 :: x76 :: x77 :: x78 :: x79 :: x80 :: x81 :: x82 :: x83 :: x84 :: x85 :: x86 :: x87 :: x88 :: x89 :: x90 :: x91 :: x92 :: x93 :: x94 :: x95 :: x96 :: x97 :: x98 :: x99 :: x100 :: x101 :: x102 :: x103 :: x104 :: x105 :: x106 :: x107 :: x108 :: x109 :: x110 :: x111 :: x112 :: x113 :: x114 :: x115 :: x116 :: x117 :: x118 :: x119 :: x120 :: x121 :: x122 :: x123 :: x124 :: x125 :: x126 :: x127 :: x128 :: x129 :: x130 :: x131 :: x132 :: x133 :: x134 :: x135 :: x136 :: x137 :: x138 :: x139 :: x140 :: x141 :: x142 :: x143 :: x144 :: x145 :: x146 :: x147 :: x148 :: x149 :: x150 :: x151 :: x152 :: x153 :: x154 :: x155 :: x156 :: x157 :: x158 :: x159 :: x160 :: x161 :: x162 :: x163 :: x164 :: x165 :: x166 :: x167 :: x168 :: x169 :: x170 :: x171 :: x172 :: x173 :: x174 :: x175 :: x176 :: x177 :: x178 :: x179 :: x180 :: x181 :: x182 :: x183 :: x184 :: x185 :: x186 :: x187 :: x188 :: x189 :: x190 :: x191 :: x192 :: x193 :: x194 :: x195 :: x196 :: x197 :: x198 :: x199 :: x200 :: x201 :: x202 :: x203 :: x204 :: x205 :: x206 :: x207 :: x208 :: x209 :: x210 :: x211 :: x212 :: x213 :: x214 :: x215 :: x216 :: x217 :: x218 :: [])), []⟩ wc := by
  have HRd := Hid.mk' hRd; have HK := Hid.mk' hok
  have hl0 := hok.last0
  have HXc : Hid (∀ W {s1 t1 : Sp.St}, RoundAt w.heap.size w W gs gh go gw xb s1 t1 s p → W.cell? ⟨xb, 0, none⟩ = some (.int .i64 p.op) ∧ W.cell? ⟨xb, 1, none⟩ = some (.int .i64 p.id) ∧ W.cell? ⟨xb, 2, none⟩ = some (.int .i64 p.n) ∧ W.cell? ⟨xb, 3, none⟩ = some (.string p.text)) := fun W _ _ hW => by
    obtain ⟨N, hS, _⟩ := hW.side
    exact hS.cells
  obtain ⟨c0, c1, c2, c3⟩ := HXc.out wc hRd
  have HEx := Hid.mk' hexit
  clear hRd hok hexit
  conv => arg 2; whnf
  by_cases o0 : p.op = 0
  · have HM1 : Hid (∀ W, RoundAt w.heap.size w W gs gh go gw xb s s s p → Calls Tryd.prog 9 #[.pointer (some ⟨gs, 0, none⟩), .int .i64 p.n, .string p.text] W fun e w' => e = .returned (.tuple #[.int .i64 (Sp.create s p.n p.text).2.1, .int .i64 ((Sp.create s p.n p.text).2.2 : Int)]) ∧ RoundAt w.heap.size w w' gs gh go gw xb (Sp.create s p.n p.text).1 s s p) := fun W hW => by
      obtain ⟨S, h1, ok, hK⟩ := hW.fst
      exact (createU_any s S gs p.n p.text W h1 ok (by omega) (by omega)).mono fun e w' hd => ⟨hd.ret, hK w' _ hd.at_ hd.turns (HK.out.create _ _)⟩
    have HM2 : Hid (∀ W, RoundAt w.heap.size w W gs gh go gw xb (Sp.create s p.n p.text).1 s s p → Calls Tryd.prog 10 #[.pointer (some ⟨gh, 0, none⟩), .int .i64 p.n, .string p.text] W fun e w' => e = .returned (.tuple #[.int .i64 (Sp.create s p.n p.text).2.1, .int .i64 ((Sp.create s p.n p.text).2.2 : Int)]) ∧ RoundAt w.heap.size w w' gs gh go gw xb (Sp.create s p.n p.text).1 (Sp.create s p.n p.text).1 s p) := fun W hW => by
      obtain ⟨S, h1, ok, hK⟩ := hW.snd
      exact (createH_any s S gh p.n p.text W h1 ok (by omega) (by omega)).mono fun e w' hd => ⟨hd.ret, hK w' _ hd.at_ hd.turns (HK.out.create _ _)⟩
    have hlb : (Sp.create s p.n p.text).1.last ≤ i + 1 := by have := Sp.last_le_create s p.n p.text; omega
    have HLa := Hid.mk' hlb
    clear hlb
    generalize Sp.create s p.n p.text = r at *
    obtain ⟨rs, rid, rc⟩ := r
    go_wp2_with (first
      | (go_at_call 9; refine (HM1.out _ HRd.out).mono ?_; rintro e w6 ⟨rfl, hr6⟩; obtain ⟨f0, f1, f2, f3⟩ := HXc.out w6 hr6; have HR6 := Hid.mk' hr6; clear hr6)
      | (go_at_call 10; refine (HM2.out _ HR6.out).mono ?_; rintro e w7 ⟨rfl, hr7⟩; have HR7 := Hid.mk' hr7; clear hr7))
    exact HEx.out _ (rs) (rc) _ _ _ _ _ _ _ _ _ _ _ _ _ _ _ _ _ _ _ _ _ _ _ _ _ _ _ _ _ _ _ _ _ _ _ _ _ _ _ _ _ _ _ _ _ _ _ _ _ _ _ _ _ _ _ _ _ _ _ _ _ _ _ _ _ _ _ _ _ _ _ _ _ _ _ _ _ _ _ _ _ _ _ _ _ _ _ _ _ _ HR7.out (HLa.out)
  · by_cases o1 : p.op = 1
    · have hlb : (Sp.append s p.id p.n p.text.data.toList).1.last ≤ i + 1 := by rw [Sp.last_append]; omega
      have HLa := Hid.mk' hlb
      have HAp := Hid.mk' (spApp_any w wc gs gh go gw xb s p HRd.out HK.out htx)
      clear hlb
      go_wp2_with fail
      refine HAp.out _ _ _ _ _ _ _ _ _ _ _ _ _ _ _ _ _ _ _ _ _ _ _ _ _ _ _ _ _ _ _ _ _ _ _ _ _ _ _ _ _ _ _ _ _ _ _ _ _ _ _ _ _ _ _ _ _ _ _ _ _ _ _ _ _ _ _ _ _ _ _ _ _ _ _ _ _ _ _ _ _ _ _ _ _ _ _ _ _ _ _ _ _ _ _ _ _ _ _ _ _ _ _ _ _ _ _ _ _ _ _ _ _ _ _ _ _ _ _ _ _ _ _ _ _ _ _ _ _ _ _ _ _ _ _ _ _ _ _ _ _ _ _ _ _ _ _ _ _ _ _ _ _ _ _ _ _ _ _ _ _ _ _ _ _ _ _ _ _ _ _ _ _ _ _ _ _ _ _ _ _ _ _ _ _ _ _ _ _ _ _ _ _ _ _ _ _ _ _ _ _ _ _ _ _ _ _ _ _ _ _ _ _ _ _ _ _ (fun w6 y64 y65 y66 y67 y68 y69 y70 y71 y72 y73 y74 y75 y76 y77 y78 y79 y80 y81 hr6 => ?_)
      have HR7 := Hid.mk' hr6
      clear hr6 HAp
      generalize Sp.append s p.id p.n p.text.data.toList = r at *
      go_wp2
      exact HEx.out _ (r.1) (r.2) _ _ _ _ _ _ _ _ _ _ _ _ _ _ _ _ _ _ _ _ _ _ _ _ _ _ _ _ _ _ _ _ _ _ _ _ _ _ _ _ _ _ _ _ _ _ _ _ _ _ _ _ _ _ _ _ _ _ _ _ _ _ _ _ _ _ _ _ _ _ _ _ _ _ _ _ _ _ _ _ _ _ _ _ _ _ _ _ _ _ HR7.out (HLa.out)
    · by_cases o2 : p.op = 2
      · have HM1 : Hid (∀ W, RoundAt w.heap.size w W gs gh go gw xb s s s p → Calls Tryd.prog 13 #[.pointer (some ⟨gs, 0, none⟩), .int .i64 p.id, .int .i64 p.n] W fun e w' => e = .returned (.int .i64 ((Sp.declare s p.id p.n).2 : Int)) ∧ RoundAt w.heap.size w w' gs gh go gw xb (Sp.declare s p.id p.n).1 s s p) := fun W hW => hW.did (HK.out.declare _ _) (fun S h1 ok => declareU_any s S gs p.id p.n W h1 ok)
        have HM2 : Hid (∀ W, RoundAt w.heap.size w W gs gh go gw xb (Sp.declare s p.id p.n).1 s s p → Calls Tryd.prog 14 #[.pointer (some ⟨gh, 0, none⟩), .int .i64 p.id, .int .i64 p.n] W fun e w' => e = .returned (.int .i64 ((Sp.declare s p.id p.n).2 : Int)) ∧ RoundAt w.heap.size w w' gs gh go gw xb (Sp.declare s p.id p.n).1 (Sp.declare s p.id p.n).1 s p) := fun W hW => hW.held (HK.out.declare _ _) (fun S h1 ok => declareH_any s S gh p.id p.n W h1 ok)
        have hlb : (Sp.declare s p.id p.n).1.last ≤ i + 1 := by rw [Sp.last_declare]; omega
        have HLa := Hid.mk' hlb
        clear hlb
        generalize Sp.declare s p.id p.n = r at *
        go_wp2_with fail
        go_region_held3 (fun w' => w'.cell? ⟨xb, 1, none⟩ = some (.int .i64 p.id) ∧ w'.cell? ⟨xb, 2, none⟩ = some (.int .i64 p.n)) (go_keep) (first
          | (go_at_call 13; refine (HM1.out _ (HRd.out.stay (below_drew _ _))).mono ?_; rintro e w6 ⟨rfl, hr6⟩; obtain ⟨f0, f1, f2, f3⟩ := HXc.out w6 hr6; have HR6 := Hid.mk' hr6; clear hr6)
          | (go_at_call 14; refine (HM2.out _ HR6.out).mono ?_; rintro e w7 ⟨rfl, hr7⟩; obtain ⟨j0, j1, j2, j3⟩ := HXc.out w7 hr7; have HR7 := Hid.mk' hr7; clear hr7))
        all_goals
          go_wp2
          exact HEx.out _ (r.1) (r.2) _ _ _ _ _ _ _ _ _ _ _ _ _ _ _ _ _ _ _ _ _ _ _ _ _ _ _ _ _ _ _ _ _ _ _ _ _ _ _ _ _ _ _ _ _ _ _ _ _ _ _ _ _ _ _ _ _ _ _ _ _ _ _ _ _ _ _ _ _ _ _ _ _ _ _ _ _ _ _ _ _ _ _ _ _ _ _ _ _ _ HR7.out (HLa.out)
      · by_cases o3 : p.op = 3
        · have HM1 : Hid (∀ W, RoundAt w.heap.size w W gs gh go gw xb s s s p → Calls Tryd.prog 15 #[.pointer (some ⟨gs, 0, none⟩), .int .i64 p.id] W fun e w' => e = .returned (.int .i64 ((Sp.drop s p.id).2 : Int)) ∧ RoundAt w.heap.size w w' gs gh go gw xb (Sp.drop s p.id).1 s s p) := fun W hW => hW.did (HK.out.drop _) (fun S h1 ok => dropU_any s S gs p.id W h1 ok)
          have HM2 : Hid (∀ W, RoundAt w.heap.size w W gs gh go gw xb (Sp.drop s p.id).1 s s p → Calls Tryd.prog 16 #[.pointer (some ⟨gh, 0, none⟩), .int .i64 p.id] W fun e w' => e = .returned (.int .i64 ((Sp.drop s p.id).2 : Int)) ∧ RoundAt w.heap.size w w' gs gh go gw xb (Sp.drop s p.id).1 (Sp.drop s p.id).1 s p) := fun W hW => hW.held (HK.out.drop _) (fun S h1 ok => dropH_any s S gh p.id W h1 ok)
          have hlb : (Sp.drop s p.id).1.last ≤ i + 1 := by rw [Sp.last_drop]; omega
          have HLa := Hid.mk' hlb
          clear hlb
          generalize Sp.drop s p.id = r at *
          go_wp2_with fail
          go_region_held3 (fun w' => w'.cell? ⟨xb, 1, none⟩ = some (.int .i64 p.id)) (go_keep) (first
            | (go_at_call 15; refine (HM1.out _ (HRd.out.stay (below_drew _ _))).mono ?_; rintro e w6 ⟨rfl, hr6⟩; obtain ⟨f0, f1, f2, f3⟩ := HXc.out w6 hr6; have HR6 := Hid.mk' hr6; clear hr6)
            | (go_at_call 16; refine (HM2.out _ HR6.out).mono ?_; rintro e w7 ⟨rfl, hr7⟩; obtain ⟨j0, j1, j2, j3⟩ := HXc.out w7 hr7; have HR7 := Hid.mk' hr7; clear hr7))
          all_goals
            go_wp2
            exact HEx.out _ (r.1) (r.2) _ _ _ _ _ _ _ _ _ _ _ _ _ _ _ _ _ _ _ _ _ _ _ _ _ _ _ _ _ _ _ _ _ _ _ _ _ _ _ _ _ _ _ _ _ _ _ _ _ _ _ _ _ _ _ _ _ _ _ _ _ _ _ _ _ _ _ _ _ _ _ _ _ _ _ _ _ _ _ _ _ _ _ _ _ _ _ _ _ _ HR7.out (HLa.out)
        · by_cases o4 : p.op = 4
          · have HM1 : Hid (∀ W, RoundAt w.heap.size w W gs gh go gw xb s s s p → Calls Tryd.prog 17 #[.pointer (some ⟨gs, 0, none⟩), .int .i64 p.id] W fun e w' => e = .returned (.int .i64 ((Sp.begins s p.id).2 : Int)) ∧ RoundAt w.heap.size w w' gs gh go gw xb (Sp.begins s p.id).1 s s p) := fun W hW => hW.did (HK.out.begins _) (fun S h1 ok => beginU_any s S gs p.id W h1 ok)
            have HM2 : Hid (∀ W, RoundAt w.heap.size w W gs gh go gw xb (Sp.begins s p.id).1 s s p → Calls Tryd.prog 18 #[.pointer (some ⟨gh, 0, none⟩), .int .i64 p.id] W fun e w' => e = .returned (.int .i64 ((Sp.begins s p.id).2 : Int)) ∧ RoundAt w.heap.size w w' gs gh go gw xb (Sp.begins s p.id).1 (Sp.begins s p.id).1 s p) := fun W hW => hW.held (HK.out.begins _) (fun S h1 ok => beginH_any s S gh p.id W h1 ok)
            have hlb : (Sp.begins s p.id).1.last ≤ i + 1 := by rw [Sp.last_begins]; omega
            have HLa := Hid.mk' hlb
            clear hlb
            generalize Sp.begins s p.id = r at *
            go_wp2_with fail
            go_region_held3 (fun w' => w'.cell? ⟨xb, 1, none⟩ = some (.int .i64 p.id)) (go_keep) (first
              | (go_at_call 17; refine (HM1.out _ (HRd.out.stay (below_drew _ _))).mono ?_; rintro e w6 ⟨rfl, hr6⟩; obtain ⟨f0, f1, f2, f3⟩ := HXc.out w6 hr6; have HR6 := Hid.mk' hr6; clear hr6)
              | (go_at_call 18; refine (HM2.out _ HR6.out).mono ?_; rintro e w7 ⟨rfl, hr7⟩; obtain ⟨j0, j1, j2, j3⟩ := HXc.out w7 hr7; have HR7 := Hid.mk' hr7; clear hr7))
            all_goals
              go_wp2
              exact HEx.out _ (r.1) (r.2) _ _ _ _ _ _ _ _ _ _ _ _ _ _ _ _ _ _ _ _ _ _ _ _ _ _ _ _ _ _ _ _ _ _ _ _ _ _ _ _ _ _ _ _ _ _ _ _ _ _ _ _ _ _ _ _ _ _ _ _ _ _ _ _ _ _ _ _ _ _ _ _ _ _ _ _ _ _ _ _ _ _ _ _ _ _ _ _ _ _ HR7.out (HLa.out)
          · by_cases o5 : p.op = 5
            · have HM1 : Hid (∀ W, RoundAt w.heap.size w W gs gh go gw xb s s s p → Calls Tryd.prog 19 #[.pointer (some ⟨gs, 0, none⟩), .int .i64 p.id] W fun e w' => e = .returned (.int .i64 ((Sp.ends s p.id).2 : Int)) ∧ RoundAt w.heap.size w w' gs gh go gw xb (Sp.ends s p.id).1 s s p) := fun W hW => hW.did (HK.out.ends _) (fun S h1 ok => endU_any s S gs p.id W h1 ok)
              have HM2 : Hid (∀ W, RoundAt w.heap.size w W gs gh go gw xb (Sp.ends s p.id).1 s s p → Calls Tryd.prog 20 #[.pointer (some ⟨gh, 0, none⟩), .int .i64 p.id] W fun e w' => e = .returned (.int .i64 ((Sp.ends s p.id).2 : Int)) ∧ RoundAt w.heap.size w w' gs gh go gw xb (Sp.ends s p.id).1 (Sp.ends s p.id).1 s p) := fun W hW => hW.held (HK.out.ends _) (fun S h1 ok => endH_any s S gh p.id W h1 ok)
              have hlb : (Sp.ends s p.id).1.last ≤ i + 1 := by rw [Sp.last_ends]; omega
              have HLa := Hid.mk' hlb
              clear hlb
              generalize Sp.ends s p.id = r at *
              go_wp2_with fail
              go_region_held3 (fun w' => w'.cell? ⟨xb, 1, none⟩ = some (.int .i64 p.id)) (go_keep) (first
                | (go_at_call 19; refine (HM1.out _ (HRd.out.stay (below_drew _ _))).mono ?_; rintro e w6 ⟨rfl, hr6⟩; obtain ⟨f0, f1, f2, f3⟩ := HXc.out w6 hr6; have HR6 := Hid.mk' hr6; clear hr6)
                | (go_at_call 20; refine (HM2.out _ HR6.out).mono ?_; rintro e w7 ⟨rfl, hr7⟩; obtain ⟨j0, j1, j2, j3⟩ := HXc.out w7 hr7; have HR7 := Hid.mk' hr7; clear hr7))
              all_goals
                go_wp2
                exact HEx.out _ (r.1) (r.2) _ _ _ _ _ _ _ _ _ _ _ _ _ _ _ _ _ _ _ _ _ _ _ _ _ _ _ _ _ _ _ _ _ _ _ _ _ _ _ _ _ _ _ _ _ _ _ _ _ _ _ _ _ _ _ _ _ _ _ _ _ _ _ _ _ _ _ _ _ _ _ _ _ _ _ _ _ _ _ _ _ _ _ _ _ _ _ _ _ _ HR7.out (HLa.out)
            · go_wp2
              exact HEx.out _ (s) (0) _ _ _ _ _ _ _ _ _ _ _ _ _ _ _ _ _ _ _ _ _ _ _ _ _ _ _ _ _ _ _ _ _ _ _ _ _ _ _ _ _ _ _ _ _ _ _ _ _ _ _ _ _ _ _ _ _ _ _ _ _ _ _ _ _ _ _ _ _ _ _ _ _ _ _ _ _ _ _ _ _ _ _ _ _ _ _ _ _ _ HRd.out (by omega)
end Go.Proofs.YtankilclhknbkaaDoor
