/- SpoolDoes: Append's region, walked. -/
import Derived.Test.YtankilclhknbkaaDoorPk11
namespace Go.Proofs.YtankilclhknbkaaDoor
open Go.RowKit

set_option maxRecDepth 100000 in
set_option maxHeartbeats 20000000 in
theorem spApp_any (w wc : World) (gs gh go gw xb : Nat) (s : Sp.St) (p : Stp) (hRd : RoundAt w.heap.size w wc gs gh go gw xb s s s p) (hok : Sp.Ok s) (htx : p.text.size ≤ 20000) (Q0 : Exit → Act → World → Prop)
    (x0 x1 x2 x5 x7 x8 x9 x10 x11 x12 x13 x14 x15 x16 x17 x18 x19 x20 x21 x22 x23 x24 x25 x26 x27 x28 x29 x30 x31 x32 x33 x34 x35 x36 x37 x38 x39 x40 x41 x42 x43 x44 x45 x46 x47 x48 x49 x50 x51 x52 x53 x54 x55 x56 x57 x58 x59 x60 x61 x62 x63 x64 x65 x66 x67 x68 x69 x70 x71 x72 x73 x74 x75 x76 x77 x78 x79 x80 x81 x82 x83 x84 x85 x86 x87 x88 x89 x90 x91 x92 x93 x94 x95 x96 x97 x98 x99 x100 x101 x102 x103 x104 x105 x106 x107 x108 x109 x110 x111 x112 x113 x114 x115 x116 x117 x118 x119 x120 x121 x122 x123 x124 x125 x126 x127 x128 x129 x130 x131 x132 x133 x134 x135 x136 x137 x138 x139 x140 x141 x142 x143 x144 x145 x146 x147 x148 x149 x150 x151 x152 x153 x154 x155 x156 x157 x158 x159 x160 x161 x162 x163 x164 x165 x166 x167 x168 x169 x170 x171 x172 x173 x174 x175 x176 x177 x178 x179 x180 x181 x182 x183 x184 x185 x186 x187 x188 x189 x190 x191 x192 x193 x194 x195 x196 x197 x198 x199 x200 x201 x202 x203 x204 x205 x206 x207 x208 x209 x210 x211 x212 x213 x214 x215 x216 x217 x218 : Value)
    (hexit : ∀ (w' : World) (y64 y65 y66 y67 y68 y69 y70 y71 y72 y73 y74 y75 y76 y77 y78 y79 y80 y81 : Value), RoundAt w.heap.size w w' gs gh go gw xb (Sp.append s p.id p.n p.text.data.toList).1 (Sp.append s p.id p.n p.text.data.toList).1 s p → Q0 .normal ⟨(List.toArray (x0 :: x1 :: x2 :: (.pointer (some ⟨gs, 0, none⟩)) :: (.pointer (some ⟨gh, 0, none⟩)) :: x5 :: (.pointer (some ⟨xb, 0, none⟩)) :: x7 :: x8 :: (.int .i64 ((Sp.append s p.id p.n p.text.data.toList).2 : Int)) :: (.int .i64 ((Sp.append s p.id p.n p.text.data.toList).2 : Int)) :: x11 :: x12 :: x13 :: x14 :: x15 :: x16 :: x17 :: x18 :: x19 :: x20 :: x21 :: x22 :: x23 :: x24 :: x25 :: x26 :: x27 :: x28 :: x29 :: x30 :: x31 :: x32 :: x33 :: x34 :: x35 :: x36 :: x37 :: x38 :: x39 :: x40 :: x41 :: x42 :: x43 :: x44 :: x45 :: x46 :: x47 :: x48 :: x49 :: x50 :: x51 :: x52 :: x53 :: x54 :: x55 :: x56 :: x57 :: x58 :: x59 :: x60 :: x61 :: x62 :: x63 :: (y64) :: (y65) :: (y66) :: (y67) :: (y68) :: (y69) :: (y70) :: (y71) :: (y72) :: (y73) :: (y74) :: (y75) :: (y76) :: (y77) :: (y78) :: (y79) :: (y80) :: (y81) :: x82 :: x83 :: x84 :: x85 :: x86 :: x87 :: x88 :: x89 :: x90 :: x91 :: x92 :: x93 :: x94 :: x95 :: x96 :: x97 :: x98 :: x99 :: x100 :: x101 :: x102 :: x103 :: x104 :: x105 :: x106 :: x107 :: x108 :: x109 :: x110 :: x111 :: x112 :: x113 :: x114 :: x115 :: x116 :: x117 :: x118 :: x119 :: x120 :: x121 :: x122 :: x123 :: x124 :: x125 :: x126 :: x127 :: x128 :: x129 :: x130 :: x131 :: x132 :: x133 :: x134 :: x135 :: x136 :: x137 :: x138 :: x139 :: x140 :: x141 :: x142 :: x143 :: x144 :: x145 :: x146 :: x147 :: x148 :: x149 :: x150 :: x151 :: x152 :: x153 :: x154 :: x155 :: x156 :: x157 :: x158 :: x159 :: x160 :: x161 :: x162 :: x163 :: x164 :: x165 :: x166 :: x167 :: x168 :: x169 :: x170 :: x171 :: x172 :: x173 :: x174 :: x175 :: x176 :: x177 :: x178 :: x179 :: x180 :: x181 :: x182 :: x183 :: x184 :: x185 :: x186 :: x187 :: x188 :: x189 :: x190 :: x191 :: x192 :: x193 :: x194 :: x195 :: x196 :: x197 :: x198 :: x199 :: x200 :: x201 :: x202 :: x203 :: x204 :: x205 :: x206 :: x207 :: x208 :: x209 :: x210 :: x211 :: x212 :: x213 :: x214 :: x215 :: x216 :: x217 :: x218 :: [])), []⟩ w') :
    Code.wp Tryd.prog spApp Q0 ⟨(List.toArray (x0 :: x1 :: x2 :: (.pointer (some ⟨gs, 0, none⟩)) :: (.pointer (some ⟨gh, 0, none⟩)) :: x5 :: (.pointer (some ⟨xb, 0, none⟩)) :: x7 :: x8 :: x9 :: x10 :: x11 :: x12 :: x13 :: x14 :: x15 :: x16 :: x17 :: x18 :: x19 :: x20 :: x21 :: x22 :: x23 :: x24 :: x25 :: x26 :: x27 :: x28 :: x29 :: x30 :: x31 :: x32 :: x33 :: x34 :: x35 :: x36 :: x37 :: x38 :: x39 :: x40 :: x41 :: x42 :: x43 :: x44 :: x45 :: x46 :: x47 :: x48 :: x49 :: x50 :: x51 :: x52 :: x53 :: x54 :: x55 :: x56 :: x57 :: x58 :: x59 :: x60 :: x61 :: x62 :: x63 :: x64 :: x65 :: x66 :: x67 :: x68 :: x69 :: x70 :: x71 :: x72 :: x73 :: x74 :: x75 :: x76 :: x77 :: x78 :: x79 :: x80 :: x81 :: x82 :: x83 :: x84 :: x85 :: x86 :: x87 :: x88 :: x89 :: x90 :: x91 :: x92 :: x93 :: x94 :: x95 :: x96 :: x97 :: x98 :: x99 :: x100 :: x101 :: x102 :: x103 :: x104 :: x105 :: x106 :: x107 :: x108 :: x109 :: x110 :: x111 :: x112 :: x113 :: x114 :: x115 :: x116 :: x117 :: x118 :: x119 :: x120 :: x121 :: x122 :: x123 :: x124 :: x125 :: x126 :: x127 :: x128 :: x129 :: x130 :: x131 :: x132 :: x133 :: x134 :: x135 :: x136 :: x137 :: x138 :: x139 :: x140 :: x141 :: x142 :: x143 :: x144 :: x145 :: x146 :: x147 :: x148 :: x149 :: x150 :: x151 :: x152 :: x153 :: x154 :: x155 :: x156 :: x157 :: x158 :: x159 :: x160 :: x161 :: x162 :: x163 :: x164 :: x165 :: x166 :: x167 :: x168 :: x169 :: x170 :: x171 :: x172 :: x173 :: x174 :: x175 :: x176 :: x177 :: x178 :: x179 :: x180 :: x181 :: x182 :: x183 :: x184 :: x185 :: x186 :: x187 :: x188 :: x189 :: x190 :: x191 :: x192 :: x193 :: x194 :: x195 :: x196 :: x197 :: x198 :: x199 :: x200 :: x201 :: x202 :: x203 :: x204 :: x205 :: x206 :: x207 :: x208 :: x209 :: x210 :: x211 :: x212 :: x213 :: x214 :: x215 :: x216 :: x217 :: x218 :: [])), []⟩ wc := by
  have HRd := Hid.mk' hRd; have HK := Hid.mk' hok
  have HXc : Hid (∀ W {s1 t1 : Sp.St}, RoundAt w.heap.size w W gs gh go gw xb s1 t1 s p → W.cell? ⟨xb, 0, none⟩ = some (.int .i64 p.op) ∧ W.cell? ⟨xb, 1, none⟩ = some (.int .i64 p.id) ∧ W.cell? ⟨xb, 2, none⟩ = some (.int .i64 p.n) ∧ W.cell? ⟨xb, 3, none⟩ = some (.string p.text)) := fun W _ _ hW => by
    obtain ⟨N, hS, _⟩ := hW.side
    exact hS.cells
  obtain ⟨c0, c1, c2, c3⟩ := HXc.out wc hRd
  have HEx := Hid.mk' hexit
  clear hRd hok hexit
  have hsk := fun W => bytes_of (P := Tryd.prog) W p.text 9 37 5 Tryd.underlying9 Tryd.underlying37 Tryd.underlying5
  obtain ⟨cp, hsk1⟩ := Classical.skolem.1 hsk
  obtain ⟨nx, hsk2⟩ := Classical.skolem.1 hsk1
  clear hsk hsk1
  have hcv : ∀ W, (convert 9 37 (.string p.text)).run Tryd.prog W = .ok (.slice (some ⟨W.heap.size, 0, none⟩) p.text.size (cp W)) (nx W) := fun W => (hsk2 W).1
  have HBn : Hid (∀ W, Below W.heap.size W (nx W)) := fun W => (hsk2 W).2.1
  have HIn : Hid (∀ W, IsB (nx W) (some ⟨W.heap.size, 0, none⟩) (cp W) p.text.data.toList) := fun W => (hsk2 W).2.2.2
  clear hsk2
  have hsl : p.text.data.toList.length = p.text.size := by rw [Array.length_toList]; rfl
  have HM1 : Hid (∀ W a bcap, Below wc.heap.size wc W → IsB W (some a) bcap p.text.data.toList → Calls Tryd.prog 11 #[.pointer (some ⟨gs, 0, none⟩), .int .i64 p.id, .int .i64 p.n, .slice (some a) p.text.size bcap] W fun e w' => e = .returned (.int .i64 ((Sp.append s p.id p.n p.text.data.toList).2 : Int)) ∧ RoundAt w.heap.size w w' gs gh go gw xb (Sp.append s p.id p.n p.text.data.toList).1 s s p ∧ (∀ a2 c2, wc.heap.size ≤ a2.block → IsB W (some a2) c2 p.text.data.toList → IsB w' (some a2) c2 p.text.data.toList)) := fun W a bcap hb hI => by
    obtain ⟨S, H, N, hD, hS, hN, hB, ok, hs⟩ := HRd.out
    have hR : RoundAt w.heap.size w W gs gh go gw xb s s s p := HRd.out.stay hb
    have hDW := hD.stay hb
    have hSW := hS.stay hb
    refine (appendU_any s S gs p.id p.n (some a) p.text.size bcap p.text.data.toList W hDW.sp ok.1 hI hsl (by omega)).mono fun e w' hd => ⟨hd.ret, ?_, fun a2 c2 h2 hI2 => hI2.turns hd.turns (fun a3 e3 e4 => ?_)⟩
    · have hsz := hb.size
      refine ⟨_, _, N, hDW.fst (by omega) hd.at_ hd.turns, hSW.turns hd.turns (fun k e => (hN k e).1.1), fun k e => ⟨⟨fun e2 => ?_, (hN k e).1.2⟩, by have := (hN k e).2; have := hd.turns.size; omega⟩, (hB.trans (hb.mono hs)).trans (hd.turns.below (fun k e => (hD.lowS k e).1) (by omega)), ⟨ok.1.append _ _ _, ok.2⟩, by have := hd.turns.size; omega⟩
      rcases e2.1 with e3 | e3
      · exact (hN k e).1.1 e3
      · have := (hN k e).2; omega
    · injection e3 with e3; subst e3
      have := (hD.lowS _ e4).2
      omega
  have HM2 : Hid (∀ W a bcap, RoundAt w.heap.size w W gs gh go gw xb (Sp.append s p.id p.n p.text.data.toList).1 s s p → IsB W (some a) bcap p.text.data.toList → Calls Tryd.prog 12 #[.pointer (some ⟨gh, 0, none⟩), .int .i64 p.id, .int .i64 p.n, .slice (some a) p.text.size bcap] W fun e w' => e = .returned (.int .i64 ((Sp.append s p.id p.n p.text.data.toList).2 : Int)) ∧ RoundAt w.heap.size w w' gs gh go gw xb (Sp.append s p.id p.n p.text.data.toList).1 (Sp.append s p.id p.n p.text.data.toList).1 s p) := fun W a bcap hW hI => hW.held (HK.out.append _ _ _) (fun S h1 ok => appendH_any s S gh p.id p.n (some a) p.text.size bcap p.text.data.toList W h1 ok hI hsl (by omega))
  have HKn : Hid (∀ W, W.cell? ⟨xb, 1, none⟩ = some (.int .i64 p.id) ∧ W.cell? ⟨xb, 2, none⟩ = some (.int .i64 p.n) ∧ W.cell? ⟨xb, 3, none⟩ = some (.string p.text) → (nx W).cell? ⟨xb, 1, none⟩ = some (.int .i64 p.id) ∧ (nx W).cell? ⟨xb, 2, none⟩ = some (.int .i64 p.n) ∧ (nx W).cell? ⟨xb, 3, none⟩ = some (.string p.text)) := fun W h => ⟨((HBn.out W).cell (p := ⟨xb, 1, none⟩) (World.block_lt_of_cell? W _ h.1)).trans h.1, ((HBn.out W).cell (p := ⟨xb, 2, none⟩) (World.block_lt_of_cell? W _ h.2.1)).trans h.2.1, ((HBn.out W).cell (p := ⟨xb, 3, none⟩) (World.block_lt_of_cell? W _ h.2.2)).trans h.2.2⟩
  have HBd : Hid (Below wc.heap.size wc wc.drew) := below_drew _ _
  have HB1 : Hid (Below wc.heap.size wc (nx wc.drew)) := then_ HBd.out (HBn.out _)
  have HB2 : Hid (Below wc.heap.size wc (nx (nx wc.drew))) := then_ HB1.out (HBn.out _)
  have HIa : Hid (IsB (nx wc.drew) (some ⟨wc.heap.size, 0, none⟩) (cp wc.drew) p.text.data.toList) := HIn.out wc.drew
  have HIb : Hid (IsB (nx (nx wc.drew)) (some ⟨wc.heap.size, 0, none⟩) (cp wc.drew) p.text.data.toList) := (HIn.out wc.drew).stay (HBn.out (nx wc.drew))
  have HIc : Hid (IsB (nx (nx wc.drew)) (some ⟨(nx wc.drew).heap.size, 0, none⟩) (cp (nx wc.drew)) p.text.data.toList) := HIn.out (nx wc.drew)
  have hz0 : Hid (wc.heap.size ≤ wc.heap.size ∧ wc.heap.size ≤ (nx wc.drew).heap.size) := ⟨Nat.le_refl _, HB1.out.size⟩
  clear hsl
  generalize Sp.append s p.id p.n p.text.data.toList = r at *
  generalize p.text.data.toList = tx at *
  conv => arg 2; whnf
  refine wp_region_noPanic ?_
  go_region_held (fun w' => w'.cell? ⟨xb, 1, none⟩ = some (.int .i64 p.id) ∧ w'.cell? ⟨xb, 2, none⟩ = some (.int .i64 p.n) ∧ w'.cell? ⟨xb, 3, none⟩ = some (.string p.text)) (first | go_keep | exact HKw.out | exact HKn.out _ (by assumption) | exact HKn.out _ HKw.out) (first
    | (go_at_call 11; refine (HM1.out _ _ _ (by first | with_reducible exact HB1.out | with_reducible exact HB2.out) (by first | with_reducible exact HIa.out | with_reducible exact HIb.out | with_reducible exact HIc.out)).mono ?_; rintro e w6 ⟨rfl, hr6, hk6⟩; have HKw := Hid.mk' (HXc.out w6 hr6).2; have HR6 := Hid.mk' hr6; have HK6 := Hid.mk' hk6; have HRn := Hid.mk' (hr6.stay (HBn.out w6)); have HIw := Hid.mk' (HIn.out w6); clear hr6 hk6)
    | (go_at_call 12; refine (HM2.out _ _ _ (by first | with_reducible exact HR6.out | with_reducible exact HRn.out) (by first | with_reducible exact HIw.out | with_reducible exact HK6.out _ _ hz0.out.2 HIc.out | with_reducible exact HK6.out _ _ hz0.out.1 HIb.out)).mono ?_; rintro e w7 ⟨rfl, hr7⟩; have HKw := Hid.mk' (HXc.out w7 hr7).2; have HR7 := Hid.mk' hr7; clear hr7))
  all_goals refine NoPanic.normal ?_
  all_goals exact HEx.out _ _ _ _ _ _ _ _ _ _ _ _ _ _ _ _ _ _ _ HR7.out
end Go.Proofs.YtankilclhknbkaaDoor
