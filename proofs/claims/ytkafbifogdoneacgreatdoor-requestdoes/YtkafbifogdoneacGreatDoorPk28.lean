/- Small texts, one behind the other: RqWrD, RqBkA, RfJoin, RfRTxt, RfReqA, RfReqR, RfReqBd, RfReqN. -/
import Derived.Test.YtkafbifogdoneacGreatDoorPk27
import Derived.Test.YtkafbifogdoneacGreatDoorPk5
import Derived.Deep.DeepCutAuto
import Derived.Test.YtkafbifogdoneacGreatDoorPk23
import Derived.Test.YtkafbifogdoneacGreatDoorPk6
import Derived.Test.YtkafbifogdoneacGreatDoorJnD
import Derived.Deep.AppendLies
import Derived.Test.YtkafbifogdoneacGreatDoorRqAdd
import Derived.Test.YtkafbifogdoneacGreatDoorPk16
import Derived.Test.YtkafbifogdoneacGreatDoorPk11
import Derived.Test.YtkafbifogdoneacGreatDoorPk13
import Derived.Test.YtkafbifogdoneacGreatDoorPk12
import Derived.Test.YtkafbifogdoneacGreatDoorPk8
import Derived.Test.YtkafbifogdoneacGreatDoorPk3
import Derived.Test.YtkafbifogdoneacGreatDoorPk17
import Derived.Test.YtkafbifogdoneacGreatDoorPk15
/- Package request, walked: Write, where nothing but its fields' texts may tell a code. -/
namespace Go.Proofs.YtkafbifogdoneacGreatDoor
open Go.RowKit

theorem buf_ne {w : World} {base g cap : Nat} {l : List UInt8} (h : Buf w base g cap l) (hl : l ≠ []) {b : Nat} {s : ByteArray} (hc : w.cell? ⟨b, 0, none⟩ = some (.string s)) : b ≠ g := by
  rintro rfl
  cases l with
  | nil => exact hl rfl
  | cons c r =>
    have := h.holds 0 _ (byteV_at (c :: r) 0 (by simp))
    rw [hc] at this
    cases this
/-- what is appended: bytes that are read -/
theorem src_bytes {P : Program} {tx e' : TypeId} (hk : P.underlying tx = some (.slice e')) {w : World} {ao : Option Addr} {cap n : Nat} {l : List UInt8} (h : IsB w ao cap l) (hn : l.length = n) : Src P 1 tx (.slice ao n cap) n (byteV l) w := by
  subst hn
  cases ao with
  | none =>
    obtain ⟨rfl, rfl⟩ := h.none_nil
    exact Src.ofNil _ hk 0
  | some a =>
    refine Src.ofSlice _ hk a _ cap _ (by rw [byteV_length]; omega) (fun j u hu => ?_) (byteV_one l)
    have hj : j < l.length := by
      have := (List.getElem?_eq_some_iff.1 hu).1
      rwa [byteV_length] at this
    rw [byteV_at l j hj] at hu
    injection hu with hu; subst hu
    exact h.cell j hj
theorem one_pair (x y : ByteArray) : ∀ u ∈ ([.string x, .string y] : List Value), u.oneCell' = true := fun u hu => by simp at hu; rcases hu with rfl | rfl <;> rfl
theorem new_pair (W : World) (x y : ByteArray) (t : Nat) {k : Nat} (hk : W.heap.size = k) : ∀ j u, ([.string x, .string y] : List Value)[j]? = some u → (W.alloc (.cells #[.string x, .string y] t)).cell? (Addr.add ⟨k, 0, none⟩ j) = some u := fun j u hu => by
  rw [Addr.add_lit, Nat.zero_add, World.cell?_alloc_at _ _ _ _ hk.symm, List.getElem?_toArray]; exact hu
theorem old_pair {wb w5 : World} {x y : ByteArray} {t : Nat} (h : Below (wb.alloc (.cells #[.string x, .string y] t)).drew.heap.size (wb.alloc (.cells #[.string x, .string y] t)).drew w5) : ∀ j u, ([.string x, .string y] : List Value)[j]? = some u → w5.cell? (Addr.add ⟨wb.heap.size, 0, none⟩ j) = some u := fun j u hu => by
  have h1 := new_pair wb x y t rfl j u hu
  have h2 : (wb.alloc (.cells #[.string x, .string y] t)).drew.cell? (Addr.add ⟨wb.heap.size, 0, none⟩ j) = some u := h1
  exact (h.cell (World.block_lt_of_cell? _ _ h2)).trans h2
theorem clone_grown {wb W w6 : World} {base t : Nat} {ao : Option Addr} {cap n : Nat} {xs : List Value} {w5 : World} (hB : Below wb.heap.size wb W) (hO : OwnV w5 base t 2 ao cap n xs) (hG : W.grownBy w6 (Value.slice ao n cap).ownBlock) (hz : wb.heap.size ≤ base) : Below wb.heap.size wb w6 :=
  hB.grown hG hB.size (fun q e => by
    rw [ownBlock_slice] at e
    cases ao with
    | none => cases e
    | some a => injection e with e; subst e; have := (hO.block a rfl).1; omega)
/-- a body that was handed in stays by an append to new memory -/
theorem body_stays {w wr w7 : World} {bo : Option Addr} {bcap g : Nat} {body : List UInt8} (h0 : IsB w bo bcap body) (h : IsB wr bo bcap body) (hT : Turns (fun k => k = g) wr w7) (hg : w.heap.size ≤ g) : IsB w7 bo bcap body := by
  by_cases hbn : body = []
  · subst hbn; exact IsB.empty _ h
  · refine h.turns hT (fun a e e2 => ?_)
    subst e
    have h3 := World.block_lt_of_cell? w _ (h0.cell 0 (List.length_pos_iff.2 hbn))
    rw [add_block] at h3
    omega
/-- what the loop over the fields keeps -/
structure WrRel (w : World) (gf capf : Nat) (FT : List (ByteArray × ByteArray)) (sx : List UInt8) (bo : Option Addr) (bcap : Nat) (body : List UInt8) (i g cap n : Nat) (wr : World) : Prop where
  buf : Buf wr w.heap.size g cap (sx ++ (FT.take i).flatMap Rq.lineT)
  len : (sx ++ (FT.take i).flatMap Rq.lineT).length = n
  zero : ∀ p ∈ FT.take i, (Fd.text p.1.data.toList p.2.data.toList).2 = 0
  row : IsV wr (some ⟨gf, 0, none⟩) capf FT.length (pairV FT)
  body : IsB wr bo bcap body
  below : Below w.heap.size w wr
theorem line_le (p : ByteArray × ByteArray) (h : p.1.size ≤ 2000 ∧ p.2.size ≤ 2000) : (Rq.lineT p).length ≤ 4004 := by
  have h1 := Fd.text_length p.1.data.toList p.2.data.toList
  have e1 : p.1.data.toList.length = p.1.size := by rw [Array.length_toList]; rfl
  have e2 : p.2.data.toList.length = p.2.size := by rw [Array.length_toList]; rfl
  unfold Rq.lineT
  rw [List.length_append]; simp; omega
theorem lines_le : ∀ (l : List (ByteArray × ByteArray)), (∀ p ∈ l, p.1.size ≤ 2000 ∧ p.2.size ≤ 2000) → (l.flatMap Rq.lineT).length ≤ 4004 * l.length
  | [], _ => by simp
  | p :: r, h => by
    have h1 := line_le p (h p (List.mem_cons_self ..))
    have h2 := lines_le r (fun q hq => h q (List.mem_cons_of_mem _ hq))
    rw [List.flatMap_cons, List.length_append, List.length_cons]; omega

set_option maxRecDepth 100000 in
set_option maxHeartbeats 4000000 in
theorem write_fine (w : World) (m t ds : ByteArray) (mi ln : Int) (l : List (ByteArray × ByteArray)) (fo bo : Option Addr) (fcap nf bcap nb : Nat) (body : List UInt8) (hl : IsV w fo fcap nf (pairV l)) (hn : l.length = nf) (hN : nf ≤ 1000000) (hs : ∀ p ∈ l, p.1.size ≤ 2000 ∧ p.2.size ≤ 2000) (hm : m.size + t.size ≤ 10000) (hb : body.length = nb) (hBd : IsB w bo bcap body)
    (hI : ∀ W, Below w.heap.size w W → Calls Tryz.prog 50 #[.int .i64 (nb : Int)] W fun e w' => e = .returned (.string ds) ∧ Below W.heap.size W w') (hds : ds.data.toList = Ch.decF 8 nb)
    (hF : Rq.faultN (Ch.isToken m.data.toList) (Rq.isTarget t.data.toList) (m.data.toList.length + t.data.toList.length + 10) nb nf (Fd.vals bSize l).length (Fd.vals bCode l).length (Fd.vals bHost l).length = 0) :
    Calls Tryz.prog 17 #[.agg #[.string m, .string t, .int .i64 mi, .slice fo nf fcap, .int .i64 ln], .slice bo nb bcap] w fun e w' => WrOut w (Rq.hdT m t l) body e w' := by
  subst hn; subst hb
  have hl2 : ∀ s : ByteArray, s.data.toList.length = s.size := fun s => by rw [Array.length_toList]; rfl
  obtain ⟨hb4, h15, hT⟩ := (Rq.text_by m t l body _ rfl).2 hF
  have hb0 : Below w.heap.size w (w.alloc (.cells #[.string m, .string t, .int .i64 mi, .slice fo l.length fcap, .int .i64 ln] 25)) := (Below.refl _ _).alloc (Nat.le_refl _) _
  have hb1 : Below w.heap.size w ((w.alloc (.cells #[.string m, .string t, .int .i64 mi, .slice fo l.length fcap, .int .i64 ln] 25)).alloc (.cells #[.string m, .string t, .string ⟨#[72, 84, 84, 80, 47, 49, 46, 49]⟩] 9)) := hb0.trans ((Below.refl _ _).alloc hb0.size _)
  have HJ := Hid.mk' (join_three m t ⟨#[72, 84, 84, 80, 47, 49, 46, 49]⟩ (w.heap.size + 1) ((w.alloc (.cells #[.string m, .string t, .int .i64 mi, .slice fo l.length fcap, .int .i64 ln] 25)).alloc (.cells #[.string m, .string t, .string ⟨#[72, 84, 84, 80, 47, 49, 46, 49]⟩] 9)) (by rw [World.cell?_alloc_at _ _ _ _ (by simp)]; rfl) (by rw [World.cell?_alloc_at _ _ _ _ (by simp)]; rfl) (by rw [World.cell?_alloc_at _ _ _ _ (by simp)]; rfl) (by show m.size + t.size + 8 ≤ _; omega))
  have hfs : (⟨(m.data.toList ++ 32 :: (t.data.toList ++ 32 :: (⟨#[72, 84, 84, 80, 47, 49, 46, 49]⟩ : ByteArray).data.toList)).toArray⟩ : ByteArray).size = m.data.toList.length + t.data.toList.length + 10 := by
    show (m.data.toList ++ 32 :: (t.data.toList ++ 32 :: [72, 84, 84, 80, 47, 49, 46, 49])).toArray.size = _
    rw [List.size_toArray]; simp; omega
  have hfd : (⟨(m.data.toList ++ 32 :: (t.data.toList ++ 32 :: (⟨#[72, 84, 84, 80, 47, 49, 46, 49]⟩ : ByteArray).data.toList)).toArray⟩ : ByteArray).data.toList = m.data.toList ++ 32 :: (t.data.toList ++ 32 :: Rq.v11) := rfl
  generalize (⟨(m.data.toList ++ 32 :: (t.data.toList ++ 32 :: (⟨#[72, 84, 84, 80, 47, 49, 46, 49]⟩ : ByteArray).data.toList)).toArray⟩ : ByteArray) = first at HJ hfs hfd
  have HFl := Hid.mk' (fun W (hW : Below w.heap.size w W) => fault_any W m t first mi ln l fo bo fcap l.length body.length bcap (hl.stay hW) rfl hN hs (by omega) (by omega))
  simp only [hfs] at HFl
  have hcx : ∀ j, j < 5 → (w.alloc (.cells #[.string m, .string t, .int .i64 mi, .slice fo l.length fcap, .int .i64 ln] 25)).cell? ⟨w.heap.size, j, none⟩ = (#[Value.string m, .string t, .int .i64 mi, .slice fo l.length fcap, .int .i64 ln] : Array Value)[j]? := fun j _ => World.cell?_alloc_mark w _ _ _ j
  have HX : Hid (∀ W, Below (w.alloc (.cells #[.string m, .string t, .int .i64 mi, .slice fo l.length fcap, .int .i64 ln] 25)).heap.size (w.alloc (.cells #[.string m, .string t, .int .i64 mi, .slice fo l.length fcap, .int .i64 ln] 25)) W → W.cell? ⟨w.heap.size, 0, none⟩ = some (.string m) ∧ W.cell? ⟨w.heap.size, 1, none⟩ = some (.string t) ∧ W.cell? ⟨w.heap.size, 2, none⟩ = some (.int .i64 mi) ∧ W.cell? ⟨w.heap.size, 3, none⟩ = some (.slice fo l.length fcap) ∧ W.cell? ⟨w.heap.size, 4, none⟩ = some (.int .i64 ln)) := fun W hW =>
    ⟨(hW.cell (p := ⟨w.heap.size, 0, none⟩) (by simp)).trans (hcx 0 (by omega)), (hW.cell (p := ⟨w.heap.size, 1, none⟩) (by simp)).trans (hcx 1 (by omega)), (hW.cell (p := ⟨w.heap.size, 2, none⟩) (by simp)).trans (hcx 2 (by omega)), (hW.cell (p := ⟨w.heap.size, 3, none⟩) (by simp)).trans (hcx 3 (by omega)), (hW.cell (p := ⟨w.heap.size, 4, none⟩) (by simp)).trans (hcx 4 (by omega))⟩
  have HT := Hid.mk' hT; have HB1 := Hid.mk' hb1
  rw [hF] at HFl
  have hcl := Rq.cl_text body.length hb4
  have hdl : ds.size ≤ 2000 := by
    have := Ch.decF_length 8 body.length
    rw [← hl2, hds]; omega
  have hfT : ∀ p ∈ l ++ [((⟨#[67, 111, 110, 116, 101, 110, 116, 45, 76, 101, 110, 103, 116, 104]⟩ : ByteArray), ds)], p.1.size ≤ 2000 ∧ p.2.size ≤ 2000 := fun p hp => by
    rcases List.mem_append.1 hp with hp | hp
    · exact hs p hp
    · simp at hp; subst hp; exact ⟨by show (14 : Nat) ≤ 2000; omega, hdl⟩
  have HFT := Hid.mk' hfT
  have HI := Hid.mk' hI
  have HCl := Hid.mk' (fun W (hW : Below w.heap.size w W) => cloneFields_any l fo fcap l.length W (hl.stay hW) rfl hN)
  have HBd := Hid.mk' hBd
  have HEnd : Hid (ds.data.toList = Ch.decF 8 body.length ∧ (Fd.text Rq.nCL (Ch.decF 8 body.length)).2 = 0 ∧ (Fd.text Rq.nCL (Ch.decF 8 body.length)).1 = Rq.nCL ++ [58, 32] ++ Ch.decF 8 body.length) := ⟨hds, hcl.1, hcl.2⟩
  have HFd := Hid.mk' hfd
  have hf200 : first.size ≤ 10010 := by have := hl2 m; have := hl2 t; omega
  obtain ⟨i0, hi0, hz0, hz1, hz2⟩ := info_parts info_fld
  have Hi := Hid.mk' hi0; have Hz0 := Hid.mk' hz0; have Hz1 := Hid.mk' hz1; have Hz2 := Hid.mk' hz2
  obtain ⟨j0, hj0, hy0, hy1, hy2⟩ := info_parts info_u8
  have Hj := Hid.mk' hj0; have Hy0 := Hid.mk' hy0; have Hy1 := Hid.mk' hy1; have Hy2 := Hid.mk' hy2
  clear hi0 hz0 hz1 hz2 hj0 hy0 hy1 hy2 hl hs hT hb0 hb1 hcx hfs hF hl2 hcl hfT hI hds hBd hfd
  go_enter Tryz.func17, Tryz.ntmps17
  go_wp2_with fail
  refine HJ.out.mono ?_
  rintro e w1 ⟨rfl, hb⟩
  have hB1 := HB1.out.trans (hb.mono (by simp; omega))
  have hBb : Below (w.alloc (.cells #[.string m, .string t, .int .i64 mi, .slice fo l.length fcap, .int .i64 ln] 25)).heap.size (w.alloc (.cells #[.string m, .string t, .int .i64 mi, .slice fo l.length fcap, .int .i64 ln] 25)) w1 := ((Below.refl _ _).alloc (Nat.le_refl _) _).trans (hb.mono (by simp))
  obtain ⟨x0, x1, x2, x3, x4⟩ := HX.out w1 hBb
  have HBw := Hid.mk' hB1
  clear hb hB1 hBb
  go_wp2_with fail
  refine (HFl.out w1 HBw.out).mono ?_
  rintro e w2 ⟨rfl, hb2⟩
  have HB2 := Hid.mk' (then_ HBw.out hb2)
  have x3b := (hb2.cell (World.block_lt_of_cell? w1 _ x3)).trans x3
  clear hb2 x0 x1 x2 x4 x3
  go_wp2_with fail
  refine (HI.out w2 HB2.out).mono ?_
  rintro e w3 ⟨rfl, hb3⟩
  have hB3 := then_ HB2.out hb3
  have hB4 : Below w.heap.size w (w3.alloc (.cells #[.string ⟨#[67, 111, 110, 116, 101, 110, 116, 45, 76, 101, 110, 103, 116, 104]⟩, .string ds] 51)) := hB3.trans ((Below.refl _ _).alloc hB3.size _)
  obtain ⟨capb, wb, hconv, hbb, hbuf⟩ := buf_of (P := Tryz.prog) (w3.alloc (.cells #[.string ⟨#[67, 111, 110, 116, 101, 110, 116, 45, 76, 101, 110, 103, 116, 104]⟩, .string ds] 51)) (first ++ ⟨#[13, 10]⟩) 9 22 5 (by rw [ByteArray.size_append]; show first.size + 2 ≤ _; unfold maxLen; omega) Tryz.underlying9 Tryz.underlying22 Tryz.underlying5
  have hz4 : (w3.alloc (.cells #[.string ⟨#[67, 111, 110, 116, 101, 110, 116, 45, 76, 101, 110, 103, 116, 104]⟩, .string ds] 51)).heap.size = w3.heap.size + 1 := by simp
  rw [hz4] at hconv hbb hbuf
  have hBb : Below w.heap.size w wb := hB4.trans (hbb.mono (by have := hB3.size; omega))
  have x3c := (hb3.cell (World.block_lt_of_cell? w2 _ x3b)).trans x3b
  have x3d : (w3.alloc (.cells #[.string ⟨#[67, 111, 110, 116, 101, 110, 116, 45, 76, 101, 110, 103, 116, 104]⟩, .string ds] 51)).cell? ⟨w.heap.size, 3, none⟩ = some (.slice fo l.length fcap) := (((Below.refl _ _).alloc (Nat.le_refl _) _).cell (World.block_lt_of_cell? w3 _ x3c)).trans x3c
  have y3 : wb.cell? ⟨w.heap.size, 3, none⟩ = some (.slice fo l.length fcap) := (hbb.cell (by have := World.block_lt_of_cell? w3 _ x3c; simp at this ⊢; omega)).trans x3d
  have y0 : wb.cell? ⟨w3.heap.size, 0, none⟩ = some (.string ⟨#[67, 111, 110, 116, 101, 110, 116, 45, 76, 101, 110, 103, 116, 104]⟩) := (hbb.cell (p := ⟨w3.heap.size, 0, none⟩) (by simp)).trans (World.cell?_alloc_mark w3 _ _ _ 0)
  have y1 : wb.cell? ⟨w3.heap.size, 1, none⟩ = some (.string ds) := (hbb.cell (p := ⟨w3.heap.size, 1, none⟩) (by simp)).trans (World.cell?_alloc_mark w3 _ _ _ 1)
  have hdt : (first ++ ⟨#[13, 10]⟩ : ByteArray).data.toList = first.data.toList ++ [13, 10] := by rw [Ch.data_append]
  have hsz : (first ++ ⟨#[13, 10]⟩ : ByteArray).size = first.size + 2 := by rw [ByteArray.size_append]; rfl
  have hwz : w.heap.size ≤ w3.heap.size + 1 := by have := hB3.size; omega
  rw [hdt] at hbuf
  rw [hsz] at hconv
  have HBuf : Hid (Buf wb w.heap.size (w3.heap.size + 1) capb (first.data.toList ++ [13, 10])) := ⟨hwz, hbuf.lt, hbuf.le, hbuf.max, hbuf.holds, hbuf.there⟩
  have HBb := Hid.mk' hBb
  have HSt : Hid (∀ W, Below wb.heap.size wb W → W.cell? ⟨w.heap.size, 3, none⟩ = some (.slice fo l.length fcap) ∧ W.cell? ⟨w3.heap.size, 0, none⟩ = some (.string ⟨#[67, 111, 110, 116, 101, 110, 116, 45, 76, 101, 110, 103, 116, 104]⟩) ∧ W.cell? ⟨w3.heap.size, 1, none⟩ = some (.string ds)) := fun W hW =>
    ⟨(hW.cell (World.block_lt_of_cell? wb _ y3)).trans y3, (hW.cell (World.block_lt_of_cell? wb _ y0)).trans y0, (hW.cell (World.block_lt_of_cell? wb _ y1)).trans y1⟩
  clear hb3 hB3 hB4 hbb hbuf hz4 hBb x3b x3c x3d hdt hsz hwz
  go_upto_region 7 with fail
  go_cut [39, 40, 41] (fun v39 v40 v41 wd => ∃ gf capf, v39 = .slice (some ⟨gf, 0, none⟩) (l.length + 1) capf ∧ v40 = .int .i64 ((l.length : Int) + 1) ∧ v41 = .int .i64 0 ∧ OwnV wd 0 51 2 (some ⟨gf, 0, none⟩) capf (l.length + 1) (pairV (l ++ [((⟨#[67, 111, 110, 116, 101, 110, 116, 45, 76, 101, 110, 103, 116, 104]⟩ : ByteArray), ds)])) ∧ Below wb.heap.size wb wd)
  case first =>
    have d1 : Below w.heap.size w wb.drew := HBb.out.trans (below_drew _ _)
    have d2 : Below w.heap.size w (wb.alloc (.cells #[.string ⟨#[67, 111, 110, 116, 101, 110, 116, 45, 76, 101, 110, 103, 116, 104]⟩, .string ds] 51)).drew := (HBb.out.trans ((Below.refl _ _).alloc HBb.out.size _)).trans (below_drew _ _)
    have HB1' : Hid (Below wb.heap.size wb wb.drew) := below_drew _ _
    have HB2' : Hid (Below wb.heap.size wb (wb.alloc (.cells #[.string ⟨#[67, 111, 110, 116, 101, 110, 116, 45, 76, 101, 110, 103, 116, 104]⟩, .string ds] 51)).drew) := ((Below.refl _ _).alloc (Nat.le_refl _) _).trans (below_drew _ _)
    have HN1 : Hid (l.length + 1 ≤ maxLen ∧ (l.length + 1) * 32 ≤ 140737488355328) := ⟨by unfold maxLen; omega, by omega⟩
    have HD1 := Hid.mk' d1; have HD2 := Hid.mk' d2
    clear d1 d2
    go_region_held_law (fun w' => w'.cell? ⟨w.heap.size, 3, none⟩ = some (.slice fo l.length fcap) ∧ w'.cell? ⟨w3.heap.size, 0, none⟩ = some (.string ⟨#[67, 111, 110, 116, 101, 110, 116, 45, 76, 101, 110, 103, 116, 104]⟩) ∧ w'.cell? ⟨w3.heap.size, 1, none⟩ = some (.string ds)) (first | go_keep | exact HK6.out | exact HK5.out | exact HKA.out) (first
      | (refine step_append_lies _ (by rfl) _ _ _ (by rfl) 0 51 i0 (.agg #[.string ⟨#[]⟩, .string ⟨#[]⟩]) 2 32 Tryz.underlying23 Hi.out Hz0.out Hz1.out Hz2.out (by rfl) (by decide) (.slice ao5 l.length cap5) l.length (pairV l) (by rfl) ((HO5.out.mono (Nat.zero_le _)).alloc _) ⟨w5.heap.size, 0, none⟩ 1 1 [.string ⟨#[67, 111, 110, 116, 101, 110, 116, 45, 76, 101, 110, 103, 116, 104]⟩, .string ds] (by rfl) (by rfl) (new_pair _ _ _ _ rfl) (one_pair _ _) (by decide) HN1.out.1 HN1.out.2 (Nat.zero_le _) (w5.heap.size + 1) (by simp) ?_; intro g6 cap6 w6 hown6 hgrow hat6 hlt6; have HO6 := Hid.mk' hown6; have HB6 := Hid.mk' (clone_grown (HB5.out.trans ((Below.refl _ _).alloc HB5.out.size _)) HO5.out hgrow HZ5.out); have HK6 := Hid.mk' (HSt.out w6 HB6.out); clear hown6 hgrow hat6 hlt6; (try simp only [Act.put, List.getElem_toArray, List.getElem_cons_succ, List.getElem_cons_zero, List.setIfInBounds_toArray, List.set_cons_zero, List.set_cons_succ]))
      | (refine step_append_lies _ (by rfl) _ _ _ (by rfl) 0 51 i0 (.agg #[.string ⟨#[]⟩, .string ⟨#[]⟩]) 2 32 Tryz.underlying23 Hi.out Hz0.out Hz1.out Hz2.out (by rfl) (by decide) (.slice ao5 l.length cap5) l.length (pairV l) (by rfl) (HO5.out.mono (Nat.zero_le _)) ⟨wb.heap.size, 0, none⟩ 1 1 [.string ⟨#[67, 111, 110, 116, 101, 110, 116, 45, 76, 101, 110, 103, 116, 104]⟩, .string ds] (by rfl) (by rfl) HNB.out (one_pair _ _) (by decide) HN1.out.1 HN1.out.2 (Nat.zero_le _) w5.heap.size (by rfl) ?_; intro g6 cap6 w6 hown6 hgrow hat6 hlt6; have HO6 := Hid.mk' hown6; have HB6 := Hid.mk' (clone_grown (HB5.out) HO5.out hgrow HZ5.out); have HK6 := Hid.mk' (HSt.out w6 HB6.out); clear hown6 hgrow hat6 hlt6; (try simp only [Act.put, List.getElem_toArray, List.getElem_cons_succ, List.getElem_cons_zero, List.setIfInBounds_toArray, List.set_cons_zero, List.set_cons_succ]))
      | (go_at_call 51; refine (HCl.out _ HD2.out).mono ?_; rintro e w5 ⟨ao5, cap5, rfl, hO5, hB5⟩; have HO5 := Hid.mk' hO5; have HB5 := Hid.mk' (HB2'.out.trans (hB5.mono (by simp))); have HZ5 : Hid (wb.heap.size ≤ (wb.alloc (.cells #[.string ⟨#[67, 111, 110, 116, 101, 110, 116, 45, 76, 101, 110, 103, 116, 104]⟩, .string ds] 51)).drew.heap.size) := HB2'.out.size; have HK5 := Hid.mk' (HSt.out w5 HB5.out); have HNB := Hid.mk' (old_pair hB5); clear hO5 hB5)
      | (go_at_call 51; refine (HCl.out _ HD1.out).mono ?_; rintro e w5 ⟨ao5, cap5, rfl, hO5, hB5⟩; have HO5 := Hid.mk' hO5; have HB5 := Hid.mk' (HB1'.out.trans (hB5.mono (Nat.le_refl _))); have HZ5 : Hid (wb.heap.size ≤ wb.drew.heap.size) := HB1'.out.size; have HK5 := Hid.mk' (HSt.out w5 HB5.out); have HKA := Hid.mk' (HSt.out _ (HB5.out.trans ((Below.refl _ w5).alloc HB5.out.size (.cells #[.string ⟨#[67, 111, 110, 116, 101, 110, 116, 45, 76, 101, 110, 103, 116, 104]⟩, .string ds] 51)))); clear hO5 hB5))
    all_goals (go_wp2; go_meet; exact ⟨g6, cap6, rfl, rfl, rfl, by rw [pairV_append]; exact HO6.out, HB6.out⟩)
  case rest =>
    obtain ⟨gf, capf, rfl, rfl, rfl, hO6, hB6⟩ := hcut
    have hfl : (l ++ [((⟨#[67, 111, 110, 116, 101, 110, 116, 45, 76, 101, 110, 103, 116, 104]⟩ : ByteArray), ds)]).length = l.length + 1 := by simp
    have hfz : first.data.toList.length = first.size := by rw [Array.length_toList]; rfl
    have hR0 : WrRel w gf capf (l ++ [((⟨#[67, 111, 110, 116, 101, 110, 116, 45, 76, 101, 110, 103, 116, 104]⟩ : ByteArray), ds)]) (first.data.toList ++ [13, 10]) bo bcap body 0 (w3.heap.size + 1) capb (first.size + 2) wc :=
      ⟨by simpa using HBuf.out.keep hB6, by simp [hfz], fun p hp => by simp at hp, by rw [hfl]; exact hO6.isV, HBd.out.stay (HBb.out.trans (hB6.mono HBb.out.size)), HBb.out.trans (hB6.mono HBb.out.size)⟩
    have HR0 := Hid.mk' hR0
    have HFl2 := Hid.mk' hfl
    obtain ⟨FT, hFT⟩ : ∃ FT, l ++ [((⟨#[67, 111, 110, 116, 101, 110, 116, 45, 76, 101, 110, 103, 116, 104]⟩ : ByteArray), ds)] = FT := ⟨_, rfl⟩
    rw [hFT] at HR0 HFl2 HFT
    have HFe := Hid.mk' hFT
    clear hR0 hO6 hB6 HSt HBb y0 y1 y3 hconv hfl HCl HI HFl HX HJ hFT
    go_wp2
    go_loopw [9, 41] (fun vo vi wr => ∃ (i n g cap : Nat), i ≤ l.length + 1 ∧ vi = .int .i64 i ∧ vo = .slice (some ⟨g, 0, none⟩) n cap ∧ WrRel w gf capf FT (first.data.toList ++ [13, 10]) bo bcap body i g cap n wr) (fun _ vi _ => l.length + 1 - (intOf vi).toNat)
    case atStart => exact ⟨0, _, _, _, Nat.zero_le _, rfl, rfl, HR0.out⟩
    case round =>
      obtain ⟨i, n, g, cap, hi, rfl, rfl, hR⟩ := hrel
      have HR := Hid.mk' hR
      have hacc := lines_le (FT.take i) (fun p hp => HFT.out p (List.mem_of_mem_take hp))
      have hnl : n ≤ 200000 := by
        have := hR.len
        rw [List.length_append, List.length_append] at this
        have h2 : (FT.take i).length ≤ 16 := by rw [List.length_take, HFl2.out]; omega
        have h3 : ([13, 10] : List UInt8).length = 2 := rfl
        rw [h3, hfz] at this
        omega
      clear hR HR0 hacc
      by_cases hlt : i < l.length + 1
      · have hlt' : (i : Int) < (l.length : Int) + 1 := by omega
        have hiF : i < FT.length := by rw [HFl2.out]; exact hlt
        have hp1 := HR.out.row.cell (pairV_at FT i hiF).1
        have hp2 := HR.out.row.cell (pairV_at FT i hiF).2
        rw [Addr.add_lit, Nat.zero_add] at hp1 hp2
        have hfc := HR.out.row.1
        rw [HFl2.out] at hfc
        have hps := HFT.out FT[i] (List.getElem_mem hiF)
        have htk : FT.take (i + 1) = FT.take i ++ [FT[i]] := List.take_succ_eq_append_getElem hiF
        have hbad : (Fd.text FT[i].1.data.toList FT[i].2.data.toList).2 ≠ 0 → Rq.lines (Rq.flB l) = .inl (Fd.text FT[i].1.data.toList FT[i].2.data.toList).2 := fun hc => by
          have hil : i < l.length := by
            rcases Nat.lt_or_ge i l.length with h | h
            · exact h
            · exfalso
              obtain rfl : i = l.length := by omega
              have e : FT[l.length] = ((⟨#[67, 111, 110, 116, 101, 110, 116, 45, 76, 101, 110, 103, 116, 104]⟩ : ByteArray), ds) := by simp only [← HFe.out]; simp
              rw [e] at hc
              obtain ⟨e1, e2, e3⟩ := HEnd.out
              rw [e1] at hc
              exact hc e2
          have e : FT[i] = l[i] := by simp only [← HFe.out]; exact List.getElem_append_left hil
          have ht : FT.take i = l.take i := by rw [← HFe.out, List.take_append_of_le_length (by omega)]
          have hz := HR.out.zero
          rw [ht] at hz
          rw [e] at hc ⊢
          exact Rq.lines_bad l i hil hz hc
        have HBad := Hid.mk' hbad; have HTk := Hid.mk' htk
        generalize FT[i] = p at *
        have hb1 : Below wr.heap.size wr (wr.alloc (.cells #[.string p.1, .string p.2] 51)) := (Below.refl _ _).alloc (Nat.le_refl _) _
        have HTx := Hid.mk' (text_any p.1 p.2 (wr.alloc (.cells #[.string p.1, .string p.2] 51)) hps.1 hps.2)
        have hll := line_le p hps
        have HLt : Hid (Rq.lineT p = (Fd.text p.1.data.toList p.2.data.toList).1 ++ [13, 10]) := rfl
        have HBx := Hid.mk' hb1
        unfold txVal at HTx
        generalize hcd : (Fd.text p.1.data.toList p.2.data.toList).2 = cd at *
        generalize (Fd.text p.1.data.toList p.2.data.toList).1 = tx at *
        have HCd := Hid.mk' hcd
        clear hbad htk hps hb1 hiF hcd
        by_cases hc0 : cd = 0
        · subst hc0
          have hxz : ((⟨tx.toArray⟩ : ByteArray) ++ ⟨#[13, 10]⟩ : ByteArray).size = tx.length + 2 := by rw [ByteArray.size_append]; rfl
          have hxd : ((⟨tx.toArray⟩ : ByteArray) ++ ⟨#[13, 10]⟩ : ByteArray).data.toList = tx ++ [13, 10] := by rw [Ch.data_append]
          have hxl : tx.length + 2 ≤ 4004 := by
            have := HLt.out
            rw [this, List.length_append] at hll; simpa using hll
          have HXz := Hid.mk' hxz; have HXd := Hid.mk' hxd
          clear hxz hxd hll
          go_wp2_with fail
          refine HTx.out.mono ?_
          rintro e w5 ⟨rfl, hb5⟩
          have hb6 := HBx.out.trans (hb5.mono (by simp))
          have HB6 := Hid.mk' hb6
          have HU := Hid.mk' (HR.out.buf.keep hb6)
          clear hb5 hb6
          go_wp2_with (at_builtin; refine wpList_append_buf rfl (.tmp 53) (.tmp 55) 22 9 rfl 5 j0 Tryz.underlying22 Hj.out Hy0.out Hy1.out Hy2.out rfl HU.out HR.out.len _ _ rfl (src_text Tryz.underlying9 _ _) (by rw [HXz.out]; omega) ?_; intro g7 cap7 w7 hU7 hT7; have HU7 := Hid.mk' hU7; have HT7 := Hid.mk' hT7; clear hU7 hT7)
          go_roundw
          case rel =>
            have hne : first.data.toList ++ [13, 10] ++ (FT.take i).flatMap Rq.lineT ≠ [] := by simp
            have hrow5 := HR.out.row.stay HB6.out
            have hgf : gf ≠ g := by
              have h0 : 0 < (pairV FT).length := by rw [pairV_length, HFl2.out]; omega
              have hc := hrow5.cell (pairV_at FT 0 (by rw [HFl2.out]; omega)).1
              rw [Addr.add_lit] at hc
              exact buf_ne HU.out hne (by simpa using hc)
            have hlc : first.data.toList ++ [13, 10] ++ (FT.take i).flatMap Rq.lineT ++ ((⟨tx.toArray⟩ : ByteArray) ++ ⟨#[13, 10]⟩ : ByteArray).data.toList = first.data.toList ++ [13, 10] ++ (FT.take (i + 1)).flatMap Rq.lineT := by
              rw [HTk.out, List.flatMap_append, HXd.out, List.append_assoc]
              congr 2
              simp [HLt.out]
            refine ⟨i + 1, _, g7, cap7, by omega, by go_num, rfl, ⟨by rw [← hlc]; exact HU7.out, ?_, ?_, hrow5.turns HT7.out (fun a e => by injection e with e; subst e; exact hgf), ?_, ?_⟩⟩
            · rw [← hlc, List.length_append, HR.out.len, HXd.out]; simp
            · intro q hq
              rw [HTk.out] at hq
              rcases List.mem_append.1 hq with hq | hq
              · exact HR.out.zero q hq
              · simp at hq; subst hq; exact HCd.out
            · exact body_stays HBd.out (HR.out.body.stay HB6.out) HT7.out HU.out.base_
            · have h1 := HR.out.below.trans (HB6.out.mono HR.out.below.size)
              have h2 := HT7.out.below (B := w.heap.size) (fun k e => by rw [e]; exact HU.out.base_) h1.size
              exact h1.trans h2
          case measure => simp [intOf]; omega
        · have tc : ((cd : Int) != 0) = true := by rw [bne_iff_ne]; omega
          have HLb := Hid.mk' (HBad.out hc0); have HCn := Hid.mk' hc0
          clear hc0 hll
          go_wp2_with fail
          refine HTx.out.mono ?_
          rintro e w5 ⟨rfl, hb5⟩
          have HB6 := Hid.mk' (HBx.out.trans (hb5.mono (by simp)))
          clear hb5
          go_wp2
          (try simp only [Exit.inBlock, Exit.then])
          go_ret2
          refine .bad cd HCn.out rfl ?_ (HR.out.below.trans (HB6.out.mono HR.out.below.size))
          rw [HT.out, HLb.out]
      · obtain rfl : i = l.length + 1 := by omega
        have hXe : Rq.text (Rq.hdT m t l) body = (first.data.toList ++ [13, 10] ++ (FT.take (l.length + 1)).flatMap Rq.lineT ++ [13, 10] ++ body, 0) := by
          have htl : FT.take (l.length + 1) = FT := by rw [List.take_of_length_le]; rw [HFl2.out]; omega
          have hz := HR.out.zero
          rw [htl] at hz
          have hlz := Rq.lines_zero l (fun p hp => hz p (by rw [← HFe.out]; exact List.mem_append_left _ hp))
          obtain ⟨e1, e2, e3⟩ := HEnd.out
          rw [HT.out, hlz, htl]
          simp only
          rw [← HFe.out, List.flatMap_append, HFd.out]
          have e4 : [((⟨#[67, 111, 110, 116, 101, 110, 116, 45, 76, 101, 110, 103, 116, 104]⟩ : ByteArray), ds)].flatMap Rq.lineT = Rq.nCL ++ [58, 32] ++ Ch.decF 8 body.length ++ [13, 10] := by
            have : Rq.lineT ((⟨#[67, 111, 110, 116, 101, 110, 116, 45, 76, 101, 110, 103, 116, 104]⟩ : ByteArray), ds) = (Fd.text Rq.nCL ds.data.toList).1 ++ [13, 10] := rfl
            rw [List.flatMap_cons, this, e1, e3]; simp
          rw [e4]
          simp
        have HXe := Hid.mk' hXe
        clear hXe
        go_wp2_with (first
          | (at_builtin; refine wpList_append_buf rfl (.tmp 58) (.const (.string ⟨#[13, 10]⟩)) 22 9 rfl 5 j0 Tryz.underlying22 Hj.out Hy0.out Hy1.out Hy2.out rfl HR.out.buf HR.out.len _ _ rfl (src_text Tryz.underlying9 _ _) (by show n + 2 ≤ _; omega) ?_; intro g7 cap7 w7 hU7 hT7; have HU7 := Hid.mk' hU7; have HT7 := Hid.mk' hT7; have HBd7 := Hid.mk' (body_stays HBd.out HR.out.body hT7 HR.out.buf.base_); clear hU7 hT7)
          | (at_builtin; refine wpList_append_buf rfl (.tmp 60) (.tmp 61) 22 22 rfl 5 j0 Tryz.underlying22 Hj.out Hy0.out Hy1.out Hy2.out rfl HU7.out (by rw [List.length_append, HR.out.len]; rfl) _ _ rfl (src_bytes Tryz.underlying22 HBd7.out rfl) (by omega) ?_; intro g8 cap8 w8 hU8 hT8; have HU8 := Hid.mk' hU8; have HT8 := Hid.mk' hT8; clear hU8 hT8))
        go_ret2
        have h7 := HR.out.below.trans (HT7.out.below (B := w.heap.size) (fun k e => by rw [e]; exact HR.out.buf.base_) HR.out.below.size)
        have h8 := h7.trans (HT8.out.below (B := w.heap.size) (fun k e => by rw [e]; exact HU7.out.base_) h7.size)
        refine .ok g8 cap8 _ rfl ?_ (by rw [HXe.out]) (by rw [HXe.out]; exact HU8.out) h8
        rw [HXe.out]
        show _ = (first.data.toList ++ [13, 10] ++ (FT.take (l.length + 1)).flatMap Rq.lineT ++ [13, 10] ++ body).length
        rw [List.length_append, List.length_append, HR.out.len]; rfl
end Go.Proofs.YtkafbifogdoneacGreatDoor

/- What RequestBack keeps in memory: two heads and their bodies, and the events that are wanted of them. -/
namespace Go.Proofs.YtkafbifogdoneacGreatDoor
open Go.RowKit

/-- cells, bytes that are there lie below the end of memory -/
theorem IsV.old {w : World} {ao : Option Addr} {cap n : Nat} {xs : List Value} (h : IsV w ao cap n xs) : IsVS w (fun k => k < w.heap.size) ao cap n xs := ⟨h, fun hx a e => by
  subst e
  cases xs with
  | nil => exact absurd rfl hx
  | cons u r =>
    have := World.block_lt_of_cell? w _ (h.cell (j := 0) rfl)
    rwa [add_block] at this⟩
theorem IsB.old {w : World} {ao : Option Addr} {cap : Nat} {l : List UInt8} (h : IsB w ao cap l) : IsBS w (fun k => k < w.heap.size) ao cap l := ⟨h, fun hx a e => by
  subst e
  cases l with
  | nil => exact absurd rfl hx
  | cons u r =>
    have := World.block_lt_of_cell? w _ (h.cell 0 (by simp))
    rwa [add_block] at this⟩
/-- a head and a body that were handed in -/
structure HdD where
  m : ByteArray
  t : ByteArray
  mi : Int
  ln : Int
  l : List (ByteArray × ByteArray)
  fo : Option Addr
  fc : Nat
  body : List UInt8
  bo : Option Addr
  bc : Nat
def HdD.cells (d : HdD) : Array Value := #[.string d.m, .string d.t, .int .i64 d.mi, .slice d.fo d.l.length d.fc, .int .i64 d.ln]
structure HdIn (w0 : World) (d : HdD) (W : World) : Prop where
  fields : IsVS W (fun k => k < w0.heap.size) d.fo d.fc d.l.length (pairV d.l)
  body : IsBS W (fun k => k < w0.heap.size) d.bo d.bc d.body
theorem HdIn.turns {w0 W W' : World} {d : HdD} {S : Nat → Prop} (h : HdIn w0 d W) (ht : Turns S W W') (hs : ∀ k, S k → w0.heap.size ≤ k) : HdIn w0 d W' := ⟨h.fields.turns ht (fun k a b => by have := hs k b; omega), h.body.turns ht (fun k a b => by have := hs k b; omega)⟩
theorem HdIn.stay {w0 W W' : World} {d : HdD} (h : HdIn w0 d W) (hb : Below W.heap.size W W') : HdIn w0 d W' := h.turns (Turns.of_below (S := fun _ => False) hb) (fun _ e => e.elim)
/-- both, in their boxes -/
structure BkMem (w : World) (d1 d2 : HdD) (W : World) : Prop where
  two : TwoAt w (.cells d1.cells 25 (0, 0)) (.cells d2.cells 25 (0, 0)) W
  one : HdIn w d1 W
  snd : HdIn w d2 W
theorem BkMem.turns {w W W' : World} {d1 d2 : HdD} {S : Nat → Prop} (h : BkMem w d1 d2 W) (ht : Turns S W W') (hs : ∀ k, S k → w.heap.size + 2 ≤ k) : BkMem w d1 d2 W' :=
  ⟨⟨ht.row h.two.one (fun e => by have := hs _ e; omega), ht.row h.two.two (fun e => by have := hs _ e; omega), h.two.below.trans (ht.below (fun k e => by have := hs k e; omega) h.two.below.size)⟩, h.one.turns ht (fun k e => by have := hs k e; omega), h.snd.turns ht (fun k e => by have := hs k e; omega)⟩
theorem BkMem.stay {w W W' : World} {d1 d2 : HdD} (h : BkMem w d1 d2 W) (hb : Below W.heap.size W W') : BkMem w d1 d2 W' := h.turns (Turns.of_below (S := fun _ => False) hb) (fun _ e => e.elim)
def clB : ByteArray := ⟨#[67, 111, 110, 116, 101, 110, 116, 45, 76, 101, 110, 103, 116, 104]⟩
def finD : EvD := ⟨3, ⟨#[]⟩, ⟨#[]⟩, 0, [], 0, [], ⟨#[]⟩, ⟨#[]⟩, ⟨#[]⟩, [], 0⟩
def HdD.head (d : HdD) : EvD := ⟨1, d.m, d.t, 1, d.l ++ [(clB, ⟨(Ch.decF 8 d.body.length).toArray⟩)], (d.body.length : Int), [], ⟨#[]⟩, ⟨#[]⟩, ⟨#[]⟩, [], 0⟩
def HdD.mid (d : HdD) : List EvD := if d.body = [] then [] else [bodyD d.body]
/-- the events that are wanted -/
def HdD.evs (d : HdD) : List EvD := [d.head] ++ d.mid ++ [finD]
theorem Rq.flT_flB (l : List (ByteArray × ByteArray)) : Rq.flT (Rq.flB l) = l := by
  unfold Rq.flT Rq.flB
  rw [List.map_map]
  exact (List.map_congr_left (fun p _ => rfl)).trans (List.map_id' l)
theorem evs_d (d : HdD) : d.evs = (Rq.Ev.head (Rq.back (Rq.hdT d.m d.t d.l) d.body) :: Rq.some_ d.body ++ [Rq.Ev.fin]).map Rq.Ev.d := by
  have e1 : (Rq.Ev.head (Rq.back (Rq.hdT d.m d.t d.l) d.body)).d = d.head := by
    unfold Rq.Ev.d HdD.head Rq.back Rq.hdT
    simp only [Rq.flT_append, Rq.flT_flB]
    rfl
  have e2 : (Rq.some_ d.body).map Rq.Ev.d = d.mid := by
    unfold Rq.some_ HdD.mid
    split <;> rfl
  unfold HdD.evs
  rw [← e2, ← e1, List.map_append, List.map_cons]
  rfl
theorem evs_length (d : HdD) : d.evs.length ≤ 3 := by
  unfold HdD.evs HdD.mid
  split <;> simp
/-- one block of the call's own, just behind world w -/
structure OneAt (w : World) (cs : Array Value) (t : Nat) (W : World) : Prop where
  one : W.heap[w.heap.size]? = some (.cells cs t (0, 0))
  below : Below w.heap.size w W
section
variable {w W W' : World} {cs : Array Value} {t : Nat}
theorem OneAt.stay (h : OneAt w cs t W) (hb : Below W.heap.size W W') : OneAt w cs t W' := ⟨(hb.block _ (Array.getElem?_eq_some_iff.1 h.one).1).trans h.one, then_ h.below hb⟩
theorem OneAt.turns {S : Nat → Prop} (h : OneAt w cs t W) (ht : Turns S W W') (hs : ∀ k, S k → w.heap.size < k) : OneAt w cs t W' := ⟨ht.row h.one (fun e => by have := hs _ e; omega), h.below.trans (ht.below (fun k e => by have := hs k e; omega) h.below.size)⟩
theorem OneAt.made (w : World) (cs : Array Value) (t : Nat) : OneAt w cs t (w.alloc (.cells cs t)) := ⟨heap_alloc_new w _, (Below.refl _ _).alloc (Nat.le_refl _) _⟩
theorem OneAt.cell (h : OneAt w cs t W) (j : Nat) : W.cell? ⟨w.heap.size, j, none⟩ = cs[j]? := cell_of_row W w.heap.size j _ _ _ h.one
theorem OneAt.fz (h : OneAt w cs t W) (j : Nat) : W.frozen? ⟨w.heap.size, j, none⟩ = false := frozen_of_row W w.heap.size j _ _ h.one
theorem OneAt.put (h : OneAt w cs t W) (j : Nat) (v : Value) : OneAt w (cs.setIfInBounds j v) t (W.setCell ⟨w.heap.size, j, none⟩ v) := by
  have hT : Turns (fun k => k = w.heap.size) W (W.setCell ⟨w.heap.size, j, none⟩ v) := setCells_turns w.heap.size [v] j W
  exact ⟨by rw [heap_setCell_same W w.heap.size j _ _ _ h.one], h.below.trans (hT.below (fun k e => by omega) h.below.size)⟩
theorem OneAt.lt (h : OneAt w cs t W) : w.heap.size < W.heap.size := (Array.getElem?_eq_some_iff.1 h.one).1
end
/-- one event more, its cells in a block just made -/
theorem WantAt.push {W : World} {base tE : Nat} {ao : Option Addr} {cap : Nat} {es : List EvD} (h : WantAt W base tE ao cap es) (ob : Obj) : ∃ ps : List (EvD × EvS), OwnV (W.alloc ob) base tE 12 ao cap es.length (rowsV ps) ∧
    ∀ ao' cap' w' e s, InE W (fun k => blockOf ao ≠ some k) e s → OwnV w' base tE 12 ao' cap' (es.length + 1) (rowsV ps ++ e.cells s) → (W.alloc ob).grownBy w' (blockOf ao) → (blockOf ao' = blockOf ao ∨ blockOf ao' = some (W.alloc ob).heap.size) → WantAt w' base tE ao' cap' (es ++ [e]) ∧ Turns (fun k => base ≤ k) (W.alloc ob) w' := by
  obtain ⟨ps, hes, hO, hI⟩ := h
  have hb : Below W.heap.size W (W.alloc ob) := (Below.refl _ _).alloc (Nat.le_refl _) _
  have ht := Turns.of_below (S := fun _ => False) hb
  refine ⟨ps, hO.stay hb, fun ao' cap' w' e s hE hO' hG hat => ⟨?_, Turns.of_grown hG (fun k e => ?_)⟩⟩
  · rw [← hes]
    exact WantAt.more (fun p hp => (hI p hp).turns ht (fun _ _ e => e)) (hE.turns ht (fun _ _ e => e)) (by rw [← hes] at hO'; simpa using hO') rfl hG hat
  · cases ao with
    | none => cases e
    | some a => injection e with e; subst e; exact (hO.block a rfl).1
/-- where the row of what is wanted lies -/
theorem WantAt.row {W : World} {base tE : Nat} {ao : Option Addr} {cap : Nat} {es : List EvD} (h : WantAt W base tE ao cap es) (k : Nat) (e : blockOf ao = some k) : base ≤ k ∧ k < W.heap.size := by
  obtain ⟨ps, hes, hO, hI⟩ := h
  cases ao with
  | none => cases e
  | some a => injection e with e; subst e; exact hO.block a rfl
/-- what the loop over both keeps -/
structure WnRel (wo : World) (d1 d2 : HdD) (i : Nat) (ao : Option Addr) (cap : Nat) (wr : World) : Prop where
  two : TwoAt wo (.cells (d1.cells ++ d2.cells) 25 (0, 0)) (.cells #[.slice d1.bo d1.body.length d1.bc, .slice d2.bo d2.body.length d2.bc] 22 (0, 0)) wr
  want : WantAt wr (wo.heap.size + 2) 32 ao cap (([d1, d2].take i).flatMap HdD.evs)
/-- what a round reads -/
structure WnAt (w wo : World) (d1 d2 : HdD) (i : Nat) (d : HdD) (W : World) : Prop where
  m : W.cell? ⟨wo.heap.size, i * 5, none⟩ = some (.string d.m)
  t : W.cell? ⟨wo.heap.size, i * 5 + 1, none⟩ = some (.string d.t)
  mi : W.cell? ⟨wo.heap.size, i * 5 + 2, none⟩ = some (.int .i64 d.mi)
  f : W.cell? ⟨wo.heap.size, i * 5 + 3, none⟩ = some (.slice d.fo d.l.length d.fc)
  ln : W.cell? ⟨wo.heap.size, i * 5 + 4, none⟩ = some (.int .i64 d.ln)
  b : W.cell? ⟨wo.heap.size + 1, i, none⟩ = some (.slice d.bo d.body.length d.bc)
theorem WnAt.of {w wo : World} {d1 d2 : HdD} {W : World} (h : TwoAt wo (.cells (d1.cells ++ d2.cells) 25 (0, 0)) (.cells #[.slice d1.bo d1.body.length d1.bc, .slice d2.bo d2.body.length d2.bc] 22 (0, 0)) W) (i : Nat) (hi : i < 2) : ∃ d, (d = d1 ∨ d = d2) ∧ ([d1, d2].take (i + 1)).flatMap HdD.evs = ([d1, d2].take i).flatMap HdD.evs ++ d.evs ∧ WnAt w wo d1 d2 i d W := by
  match i, hi with
  | 0, _ => exact ⟨d1, Or.inl rfl, by simp, ⟨h.cell 0, h.cell 1, h.cell 2, h.cell 3, h.cell 4, h.cell2 0⟩⟩
  | 1, _ => exact ⟨d2, Or.inr rfl, by simp, ⟨h.cell 5, h.cell 6, h.cell 7, h.cell 8, h.cell 9, h.cell2 1⟩⟩
theorem WnAt.stay {w wo : World} {d1 d2 d : HdD} {i : Nat} {W W' : World} (h : WnAt w wo d1 d2 i d W) (hb : Below W.heap.size W W') : WnAt w wo d1 d2 i d W' := by
  have k : ∀ {a : Addr} {v : Value}, W.cell? a = some v → W'.cell? a = some v := fun e => (hb.cell (World.block_lt_of_cell? W _ e)).trans e
  exact ⟨k h.m, k h.t, k h.mi, k h.f, k h.ln, k h.b⟩
/-- 'append(nil, src...)' at a step of a region that draws -/
theorem step_append_nilV {P : Program} {w : World} {ops : Array Oper} {o : Oper} {a : Act} {K : Act → World → Prop} {Q : Exit → Act → World → Prop} {E : Prop} (hgd : o.guard = none) (s x : Operand) (t : TypeId)
    (ho : o.op = .call { callee := .builtin .append, args := #[s, x], argTypes := #[t, t] })
    (base : Nat) (e : TypeId) (i : TypeInfo) (z : Value) (size bytes : Nat) (ht : P.underlying t = some (.slice e)) (hi : P.info? e = some i) (hz : i.zero = some z)
    (hsize : i.size = size) (hby : i.bytes = bytes) (hzs : z.cells.size = size) (hsz : 0 < size) (hs : a.eval s = .slice none 0 0)
    (ao : Option Addr) (m c : Nat) (news : List Value) (hx : a.eval x = .slice ao m c) (hl : news.length = m * size) (hsrc : IsV w ao c m news) (h1 : ∀ u ∈ news, u.oneCell' = true)
    (hm : 0 < m) (h63 : m ≤ maxLen) (hbytes : m * bytes ≤ 140737488355328) (hbase : base ≤ w.heap.size)
    (h : ∀ g cap w', OwnV w' base e size (some ⟨g, 0, none⟩) cap m news → Below w.heap.size w w' → K (a.put o.dst (.slice (some ⟨g, 0, none⟩) m cap)) w') :
    if Region.wanted o (yielded ops a.tmps) = true then Oper.wp P o a w K Q else E := by
  obtain ⟨ad, rfl⟩ : ∃ ad, ao = some ad := by
    cases ao with
    | none => have := hsrc.2.1 rfl; have := hsrc.1; omega
    | some ad => exact ⟨ad, rfl⟩
  refine step_append_lies w hgd s x t ho base e i z size bytes ht hi hz hsize hby hzs hsz (.slice none 0 0) 0 [] hs (World.ownsRow_nil _ _ _ _) ad m c news hx hl (fun j u hu => hsrc.cell hu) h1 hm (by omega) (by rw [Nat.zero_add]; exact hbytes) hbase w.heap.size rfl (fun g cap w' hown hgrow hat hlt => ?_)
  rw [Nat.zero_add, List.nil_append] at hown
  rw [Nat.zero_add]
  exact h g cap w' hown ⟨hgrow.os, hgrow.tape, hgrow.output, hgrow.size, fun k hk => hgrow.block k hk (by simp [Value.ownBlock])⟩
/-- the row of fields, laid into the head's box -/
theorem fields_out {wr W : World} {cs : Array Value} {t tF : Nat} {g cap n : Nat} {xs : List Value} (hx : OneAt wr cs t W) (hO : W.ownsRow (wr.heap.size + 1) tF 2 (.slice (some ⟨g, 0, none⟩) n cap) n xs) (v : Value) :
    OneAt wr (cs.setIfInBounds 3 v) t (W.setCell ⟨wr.heap.size, 3, none⟩ v) ∧ IsVS (W.setCell ⟨wr.heap.size, 3, none⟩ v) (fun k => wr.heap.size < k) (some ⟨g, 0, none⟩) cap n xs := by
  have hO' : OwnV W (wr.heap.size + 1) tF 2 (some ⟨g, 0, none⟩) cap n xs := hO
  have hT : Turns (fun k => k = wr.heap.size) W (W.setCell ⟨wr.heap.size, 3, none⟩ v) := setCells_turns wr.heap.size [v] 3 W
  have h2 := hO'.turns hT (fun a e k => by have := (hO'.block a e).1; omega)
  exact ⟨hx.put 3 v, ⟨h2.isV, fun _ a e => (h2.block a e).1⟩⟩
/-- an append to the row leaves the box -/
theorem OneAt.grow {wr W W' : World} {cs : Array Value} {t g n cap : Nat} (h : OneAt wr cs t W) (hg : W.grownBy W' (Value.slice (some ⟨g, 0, none⟩) n cap).ownBlock) (hlt : wr.heap.size < g) : OneAt wr cs t W' :=
  h.turns (S := fun k => k = g) (Turns.of_grown hg (fun k e => by simp [Value.ownBlock] at e; exact e.symm)) (fun k e => by omega)
theorem want_cells (d : HdD) (fo : Option Addr) (fcap : Nat) : d.head.cells ⟨fo, fcap, none, 0, none, 0⟩ = [.int .i64 1, .string d.m, .string d.t, .int .i64 1, .slice fo (d.l.length + 1) fcap, .int .i64 (d.body.length : Int), .slice none 0 0, .string ⟨#[]⟩, .string ⟨#[]⟩, .string ⟨#[]⟩, .slice none 0 0, .int .i64 0] := by
  simp [HdD.head, EvD.cells]
theorem one_cells (e : EvD) (s : EvS) (ys : List Value) (h : e.cells s = ys) : ∀ u ∈ ys, u.oneCell' = true := fun u hu => cells_one e s u (by rw [h]; exact hu)
theorem TwoAt.turns {w W W' : World} {r1 r2 : Obj} {S : Nat → Prop} (h : TwoAt w r1 r2 W) (ht : Turns S W W') (hs : ∀ k, S k → w.heap.size + 2 ≤ k) : TwoAt w r1 r2 W' :=
  ⟨ht.row h.one (fun e => by have := hs _ e; omega), ht.row h.two (fun e => by have := hs _ e; omega), h.below.trans (ht.below (fun k e => by have := hs k e; omega) h.below.size)⟩
/-- what a round has made by now -/
structure WrAt (w wo : World) (d1 d2 d : HdD) (ao : Option Addr) (cap : Nat) (es : List EvD) (W : World) : Prop where
  two : TwoAt wo (.cells (d1.cells ++ d2.cells) 25 (0, 0)) (.cells #[.slice d1.bo d1.body.length d1.bc, .slice d2.bo d2.body.length d2.bc] 22 (0, 0)) W
  want : WantAt W (wo.heap.size + 2) 32 ao cap es
  ins : HdIn w d W
theorem WrAt.stay {w wo : World} {d1 d2 d : HdD} {ao : Option Addr} {cap : Nat} {es : List EvD} {W W' : World} (h : WrAt w wo d1 d2 d ao cap es W) (hb : Below W.heap.size W W') : WrAt w wo d1 d2 d ao cap es W' := ⟨h.two.stay hb, h.want.stay hb, h.ins.stay hb⟩
/-- one event more -/
theorem WrAt.push {w wo : World} {d1 d2 d : HdD} {ao : Option Addr} {cap n : Nat} {es : List EvD} {W : World} (h : WrAt w wo d1 d2 d ao cap es W) (hn : n = es.length) (hw : w.heap.size + 2 ≤ wo.heap.size) (ob : Obj) : ∃ xs, OwnV (W.alloc ob) (wo.heap.size + 2) 32 12 ao cap n xs ∧
    ∀ ao' cap' w' e s ys, e.cells s = ys → InE W (fun k => blockOf ao ≠ some k) e s → OwnV w' (wo.heap.size + 2) 32 12 ao' cap' (n + 1) (xs ++ ys) → (W.alloc ob).grownBy w' (blockOf ao) → (blockOf ao' = blockOf ao ∨ blockOf ao' = some (W.alloc ob).heap.size) → WrAt w wo d1 d2 d ao' cap' (es ++ [e]) w' := by
  subst hn
  obtain ⟨ps, hO, hp⟩ := h.want.push ob
  refine ⟨rowsV ps, hO, fun ao' cap' w' e s ys he hE hO' hG hat => ?_⟩
  subst he
  obtain ⟨h1, h2⟩ := hp ao' cap' w' e s hE hO' hG hat
  have hb : Below W.heap.size W (W.alloc ob) := (Below.refl _ _).alloc (Nat.le_refl _) _
  exact ⟨(h.two.stay hb).turns h2 (fun k e => e), h1, (h.ins.stay hb).turns h2 (fun k e => by omega)⟩
/-- its body's memory is not the row's -/
theorem WrAt.body {w wo : World} {d1 d2 d : HdD} {ao : Option Addr} {cap : Nat} {es : List EvD} {W : World} (h : WrAt w wo d1 d2 d ao cap es W) (hw : w.heap.size + 2 ≤ wo.heap.size) : InE W (fun k => blockOf ao ≠ some k) (bodyD d.body) ⟨none, 0, d.bo, d.bc, none, 0⟩ :=
  ⟨IsVS.nil _ _, h.ins.body.mono (fun k _ e f => by have := (h.want.row k f).1; omega), IsBS.nil _ _⟩
theorem WrAt.fin {W : World} {ao : Option Addr} : InE W (fun k => blockOf ao ≠ some k) finD ⟨none, 0, none, 0, none, 0⟩ := ⟨IsVS.nil _ _, IsBS.nil _ _, IsBS.nil _ _⟩
end Go.Proofs.YtkafbifogdoneacGreatDoor

/- The document's own answer, walked: Joined. -/
namespace Go.Proofs.YtkafbifogdoneacGreatDoor
open Go.RowKit

/-- what the loop keeps -/
structure JdRel (W : World) (es : List EvD) (i : Nat) (ao : Option Addr) (cap : Nat) (wr : World) : Prop where
  out : WantAt wr W.heap.size 32 ao cap (joinD (es.take i))
  below : Below W.heap.size W wr
theorem IsEv.inE {W wr : World} {b o : Nat} {e : EvD} {s : EvS} {ao : Option Addr} (h : IsEv W b o e s) (hb : Below W.heap.size W wr) (hr : ∀ k, blockOf ao = some k → W.heap.size ≤ k) : InE wr (fun k => blockOf ao ≠ some k) e s := by
  have ht := Turns.of_below (S := fun _ => False) hb
  exact ⟨(h.fields.old.turns ht (fun _ _ e => e)).mono (fun k _ e f => by have := hr k f; omega), (h.bytes.old.turns ht (fun _ _ e => e)).mono (fun k _ e f => by have := hr k f; omega), (h.pbytes.old.turns ht (fun _ _ e => e)).mono (fun k _ e f => by have := hr k f; omega)⟩
/-- an event more -/
theorem JdRel.push {W : World} {es : List EvD} {i m : Nat} {ao : Option Addr} {cap : Nat} {wr : World} (h : JdRel W es i ao cap wr) (hm : m = (joinD (es.take i)).length) (hi : i < es.length) {b o : Nat} {s : EvS} (hE : IsEv W b o es[i] s) (hp : es[i].kind = 2 → tailD (es.take i) = false) (ob : Obj) : ∃ xs, OwnV (wr.alloc ob) W.heap.size 32 12 ao cap m xs ∧
    ∀ ao' cap' w', OwnV w' W.heap.size 32 12 ao' cap' (m + 1) (xs ++ es[i].cells s) → (wr.alloc ob).grownBy w' (blockOf ao) → (blockOf ao' = blockOf ao ∨ blockOf ao' = some (wr.alloc ob).heap.size) → m + 1 = (joinD (es.take (i + 1))).length ∧ JdRel W es (i + 1) ao' cap' w' := by
  subst hm
  obtain ⟨ps, hO, hq⟩ := h.out.push ob
  refine ⟨rowsV ps, hO, fun ao' cap' w' hO' hG hat => ?_⟩
  obtain ⟨h1, h2⟩ := hq ao' cap' w' es[i] s (hE.inE h.below (fun k e => (h.out.row k e).1)) hO' hG hat
  have e1 : joinD (es.take (i + 1)) = joinD (es.take i) ++ [es[i]] := by
    rw [joinD_take es i hi, addD_plain _ _ (fun k => by rw [joinD_tail]; exact hp k)]
  refine ⟨by rw [e1]; simp, ⟨by rw [e1]; exact h1, ?_⟩⟩
  exact (h.below.alloc h.below.size ob).trans (h2.below (fun k e => e) (by rw [World.size_alloc]; have := h.below.size; omega))

theorem GrowB.blk {w : World} {S : Nat → Prop} {t : Nat} {bo : Option Addr} {cap : Nat} {l : List UInt8} (h : GrowB w S t bo cap l) {k : Nat} (e : blkB l bo = some k) : S k := by
  unfold blkB at e
  split at e
  · cases e
  · rcases h with ⟨_, _, h3⟩ | ⟨h1, _⟩
    · cases hbo : bo with
      | none => rw [hbo] at e; cases e
      | some a => rw [hbo] at e; injection e with e; subst e; exact h3 a hbo
    · contradiction
theorem grow_first {wr w3 : World} {t : Nat} {bo : Option Addr} {cap : Nat} {l : List UInt8} (h : GrowB w3 (fun k => blkB [] none = some k ∨ wr.drew.heap.size ≤ k) t bo cap ([] ++ l)) : GrowB w3 (fun k => wr.heap.size ≤ k) t bo cap l := by
  rw [List.nil_append] at h
  exact h.mono (fun k _ e => by
    rcases e with e | e
    · simp [blkB] at e
    · exact e)
/-- a body in the last place -/
theorem JdRel.merge {W wr w4 : World} {es : List EvD} {j g cap m : Nat} {bo4 : Option Addr} {cap4 n4 : Nat} {q : List (EvD × EvS)} {x : EvD} {sx : EvS} (h : JdRel W es (j + 1) (some ⟨g, 0, none⟩) cap wr) (hj : j + 1 < es.length) (hk : es[j + 1].kind = 2) (hq : (q ++ [(x, sx)]).map (·.1) = joinD (es.take (j + 1))) (hx : x.kind = 2) (own : OwnV wr W.heap.size 32 12 (some ⟨g, 0, none⟩) cap (q.length + 1) (rowsV (q ++ [(x, sx)]))) (hI : ∀ p ∈ q ++ [(x, sx)], InE wr (fun k => g ≠ k) p.1 p.2) (hm : q.length = m)
    (hT : Turns (fun k => wr.heap.size ≤ k) wr w4) (hO : GrowB w4 (fun k => wr.heap.size ≤ k) 5 bo4 cap4 (x.bytes ++ es[j + 1].bytes)) (hn : n4 = (x.bytes ++ es[j + 1].bytes).length) :
    m + 1 = (joinD (es.take (j + 1 + 1))).length ∧ JdRel W es (j + 1 + 1) (some ⟨g, 0, none⟩) cap (w4.setCells g (m * 12) [.int .i64 2, .string ⟨#[]⟩, .string ⟨#[]⟩, .int .i64 0, .slice none 0 0, .int .i64 0, .slice bo4 n4 cap4, .string ⟨#[]⟩, .string ⟨#[]⟩, .string ⟨#[]⟩, .slice none 0 0, .int .i64 0]) := by
  subst hm; subst hn
  have hgl : g < wr.heap.size := (own.block _ rfl).2
  have hgb : W.heap.size ≤ g := (own.block _ rfl).1
  have hT0 : Turns (fun _ => False) wr w4 := ⟨hT.os, hT.tape, hT.output, hT.size, fun k hk _ => hT.block k hk (by omega)⟩
  have own4 := own.turns hT0 (fun _ _ e => e)
  have e1 : joinD (es.take (j + 1 + 1)) = q.map (·.1) ++ [bodyD (x.bytes ++ es[j + 1].bytes)] := by
    rw [joinD_take es (j + 1) hj, ← hq, List.map_append, List.map_cons, List.map_nil, addD_merge _ _ _ hx hk]
  obtain ⟨h1, h2⟩ := WantAt.replace (l := x.bytes ++ es[j + 1].bytes) (bo := bo4) (bcap := cap4) own4 (fun p hp => (hI p (List.mem_append_left _ hp)).turns hT0 (fun _ _ e => e)) (hO.isBS.mono (fun k _ e => by omega))
  refine ⟨by rw [e1]; simp, ⟨by rw [e1]; exact h1, ?_⟩⟩
  have hb4 : Below W.heap.size W w4 := h.below.trans (hT.below (fun k e => by have := h.below.size; omega) h.below.size)
  exact hb4.trans (h2.below (fun k e => by omega) hb4.size)

set_option maxRecDepth 100000 in
set_option maxHeartbeats 4000000 in
theorem joined_any (W : World) (ao : Option Addr) (cap n : Nat) (es : List EvD) (hE : IsEs W ao cap es) (hn : es.length = n) (hl : n ≤ 1000000) (hz : sumD es ≤ 140737488355328) :
    Calls Tryz.prog 21 #[.slice ao n cap] W fun e w' => ∃ ao' cap' m, e = .returned (.slice ao' m cap') ∧ m = (joinD es).length ∧ WantAt w' W.heap.size 32 ao' cap' (joinD es) ∧ Below W.heap.size W w' := by
  subst hn
  have HE := Hid.mk' hE; have HZ := Hid.mk' hz
  clear hE hz
  obtain ⟨i0, hi0, hz0, hz1, hz2⟩ := info_parts info_ev
  have Hi := Hid.mk' hi0; have Hz0 := Hid.mk' hz0; have Hz1 := Hid.mk' hz1; have Hz2 := Hid.mk' hz2
  clear hi0 hz0 hz1 hz2
  go_enter Tryz.func21, Tryz.ntmps21
  go_wp2
  go_loopw [3, 4] (fun vo vi wr => ∃ (i m : Nat) (ao' : Option Addr) (cap' : Nat), i ≤ es.length ∧ vi = .int .i64 i ∧ vo = .slice ao' m cap' ∧ m = (joinD (es.take i)).length ∧ JdRel W es i ao' cap' wr) (fun _ vi _ => es.length - (intOf vi).toNat)
  case atStart => exact ⟨0, 0, none, 0, Nat.zero_le _, rfl, rfl, rfl, ⟨WantAt.nil _ _ _, Below.refl _ _⟩⟩
  case round =>
    obtain ⟨i, m, ao', cap', hi, rfl, rfl, hm, hJ⟩ := hrel
    have HJ := Hid.mk' hJ; have HM := Hid.mk' hm
    have hm6 : m ≤ 1000000 := by have h1 := joinD_length (es.take i); rw [List.length_take] at h1; omega
    clear hJ hm
    by_cases hlt : i < es.length
    · have hlt' : (i : Int) < es.length := by omega
      obtain ⟨b, o, rfl, hEs⟩ := HE.out.lit (by omega)
      obtain ⟨s, hE⟩ := hEs i hlt
      have hcap := HE.out.1
      have HPush : Hid ((es[i].kind = 2 → tailD (es.take i) = false) → ∃ xs, OwnV (wr.alloc (.cells #[.int .i64 es[i].kind, .string es[i].method, .string es[i].target, .int .i64 es[i].minor, .slice s.fo es[i].fields.length s.fcap, .int .i64 es[i].length, .slice s.bo es[i].bytes.length s.bcap, .string es[i].pname, .string es[i].pfile, .string es[i].ptype, .slice s.po es[i].pbytes.length s.pcap, .int .i64 es[i].code] 32)) W.heap.size 32 12 ao' cap' m xs ∧ ∀ a3 c3 w', OwnV w' W.heap.size 32 12 a3 c3 (m + 1) (xs ++ es[i].cells s) → (wr.alloc (.cells #[.int .i64 es[i].kind, .string es[i].method, .string es[i].target, .int .i64 es[i].minor, .slice s.fo es[i].fields.length s.fcap, .int .i64 es[i].length, .slice s.bo es[i].bytes.length s.bcap, .string es[i].pname, .string es[i].pfile, .string es[i].ptype, .slice s.po es[i].pbytes.length s.pcap, .int .i64 es[i].code] 32)).grownBy w' (blockOf ao') → (blockOf a3 = blockOf ao' ∨ blockOf a3 = some (wr.alloc (.cells #[.int .i64 es[i].kind, .string es[i].method, .string es[i].target, .int .i64 es[i].minor, .slice s.fo es[i].fields.length s.fcap, .int .i64 es[i].length, .slice s.bo es[i].bytes.length s.bcap, .string es[i].pname, .string es[i].pfile, .string es[i].ptype, .slice s.po es[i].pbytes.length s.pcap, .int .i64 es[i].code] 32)).heap.size) → m + 1 = (joinD (es.take (i + 1))).length ∧ JdRel W es (i + 1) a3 c3 w') := fun hp => HJ.out.push HM.out hlt hE hp _
      have HEv := Hid.mk' hE
      cases i with
      | zero =>
        have hp0 : es[0].kind = 2 → tailD (es.take 0) = false := fun _ => rfl
        obtain ⟨xs, hO, hq⟩ := HPush.out hp0
        have HO1 := Hid.mk' hO; have HP1 := Hid.mk' hq
        clear hO hq HPush hEs hp0 HEv
        generalize es[0] = e at *
        rw [Nat.zero_mul, Nat.add_zero] at hE
        have c0 : wr.cell? ⟨b, o, none⟩ = some (.int .i64 e.kind) := (HJ.out.below.cell (World.block_lt_of_cell? W _ (hE.at_ 0 _ rfl))).trans (hE.at_ 0 _ rfl)
        have c1 : wr.cell? ⟨b, o + 1, none⟩ = some (.string e.method) := (HJ.out.below.cell (World.block_lt_of_cell? W _ (hE.at_ 1 _ rfl))).trans (hE.at_ 1 _ rfl)
        have c2 : wr.cell? ⟨b, o + 2, none⟩ = some (.string e.target) := (HJ.out.below.cell (World.block_lt_of_cell? W _ (hE.at_ 2 _ rfl))).trans (hE.at_ 2 _ rfl)
        have c3 : wr.cell? ⟨b, o + 3, none⟩ = some (.int .i64 e.minor) := (HJ.out.below.cell (World.block_lt_of_cell? W _ (hE.at_ 3 _ rfl))).trans (hE.at_ 3 _ rfl)
        have c4 : wr.cell? ⟨b, o + 4, none⟩ = some (.slice s.fo e.fields.length s.fcap) := (HJ.out.below.cell (World.block_lt_of_cell? W _ (hE.at_ 4 _ rfl))).trans (hE.at_ 4 _ rfl)
        have c5 : wr.cell? ⟨b, o + 5, none⟩ = some (.int .i64 e.length) := (HJ.out.below.cell (World.block_lt_of_cell? W _ (hE.at_ 5 _ rfl))).trans (hE.at_ 5 _ rfl)
        have c6 : wr.cell? ⟨b, o + 6, none⟩ = some (.slice s.bo e.bytes.length s.bcap) := (HJ.out.below.cell (World.block_lt_of_cell? W _ (hE.at_ 6 _ rfl))).trans (hE.at_ 6 _ rfl)
        have c7 : wr.cell? ⟨b, o + 7, none⟩ = some (.string e.pname) := (HJ.out.below.cell (World.block_lt_of_cell? W _ (hE.at_ 7 _ rfl))).trans (hE.at_ 7 _ rfl)
        have c8 : wr.cell? ⟨b, o + 8, none⟩ = some (.string e.pfile) := (HJ.out.below.cell (World.block_lt_of_cell? W _ (hE.at_ 8 _ rfl))).trans (hE.at_ 8 _ rfl)
        have c9 : wr.cell? ⟨b, o + 9, none⟩ = some (.string e.ptype) := (HJ.out.below.cell (World.block_lt_of_cell? W _ (hE.at_ 9 _ rfl))).trans (hE.at_ 9 _ rfl)
        have c10 : wr.cell? ⟨b, o + 10, none⟩ = some (.slice s.po e.pbytes.length s.pcap) := (HJ.out.below.cell (World.block_lt_of_cell? W _ (hE.at_ 10 _ rfl))).trans (hE.at_ 10 _ rfl)
        have c11 : wr.cell? ⟨b, o + 11, none⟩ = some (.int .i64 e.code) := (HJ.out.below.cell (World.block_lt_of_cell? W _ (hE.at_ 11 _ rfl))).trans (hE.at_ 11 _ rfl)
        clear hE
        go_wp2_with (at_builtin; refine wpList_append_v rfl (.tmp 52) (.tmp 57) 26 rfl W.heap.size 32 i0 (.agg #[.int .i64 0, .string ⟨#[]⟩, .string ⟨#[]⟩, .int .i64 0, .slice none 0 0, .int .i64 0, .slice none 0 0, .string ⟨#[]⟩, .string ⟨#[]⟩, .string ⟨#[]⟩, .slice none 0 0, .int .i64 0]) 12 184 Tryz.underlying26 Hi.out Hz0.out Hz1.out Hz2.out rfl (by decide) rfl HO1.out rfl (EvD.made e s _ _ _ rfl) rfl (cells_one e s) (by omega) (by omega) (by rw [World.size_alloc]; have := HJ.out.below.size; omega) ?_; intro a3 c3 w3 hO hG hat; have HQ := Hid.mk' (HP1.out a3 c3 w3 hO hG hat); clear hO hG hat)
        go_roundw
        case rel => exact ⟨0 + 1, m + 1, a3, c3, by omega, by go_num, by go_num, HQ.out.1, HQ.out.2⟩
        case measure => simp [intOf]; omega
      | succ j =>
        obtain ⟨s0, hE0⟩ := hEs j (by omega)
        have htl : tailD (es.take (j + 1)) = decide (es[j].kind = 2) := by
          rw [List.take_succ_eq_append_getElem (by omega), tailD_snoc]
        have k0 : wr.cell? ⟨b, o + j * 12, none⟩ = some (.int .i64 es[j].kind) := (HJ.out.below.cell (World.block_lt_of_cell? W _ (hE0.at_ 0 _ rfl))).trans (hE0.at_ 0 _ rfl)
        have e1 : ((j + 1 : Nat) : Int) - 1 = (j : Int) := by omega
        have e2 : (0 : Int) ≤ (j : Int) := by omega
        have e3 : (j : Int) < es.length := by omega
        clear hE0 hEs
        by_cases hk : es[j + 1].kind = 2
        · by_cases hk0 : es[j].kind = 2
          · have htt : tailD (joinD (es.take (j + 1))) = true := by rw [joinD_tail, htl]; exact decide_eq_true hk0
            obtain ⟨ps, hps, hO, hI⟩ := HJ.out.out
            have hpl : ps.length = m := by rw [HM.out, ← hps]; simp
            rcases List.eq_nil_or_concat ps with hps0 | ⟨q, ⟨x, sx⟩, hps0⟩
            · have hj0 : joinD (es.take (j + 1)) = [] := by rw [← hps, hps0]; rfl
              rw [hj0] at htt; cases htt
            rw [List.concat_eq_append] at hps0
            subst hps0
            have hx : x.kind = 2 := by
              rw [← hps, List.map_append, List.map_cons, List.map_nil, tailD_snoc] at htt
              exact of_decide_eq_true htt
            obtain ⟨m', rfl⟩ : ∃ m', m = m' + 1 := ⟨q.length, by rw [← hpl]; simp⟩
            have hqm : q.length = m' := by simpa using hpl
            rw [← HM.out] at hO
            obtain ⟨g, rfl⟩ : ∃ g, ao' = some ⟨g, 0, none⟩ := by
              rcases hO.2 with ⟨_, h⟩ | ⟨g, cap, cur, h, _⟩
              · omega
              · injection h with h _ _; exact ⟨g, h⟩
            have hI2 : ∀ p ∈ q ++ [(x, sx)], InE wr (fun k => g ≠ k) p.1 p.2 := fun p hp => (hI p hp).mono (fun k _ e f => e (by rw [f]; rfl))
            have hsum : (tailBytes (joinD (es.take (j + 1)))).length + es[j + 1].bytes.length ≤ 140737488355328 := by
              have h1 := tailBytes_le (joinD (es.take (j + 1)))
              rw [joinD_sum] at h1
              have h2 := sumD_take es (j + 1 + 1)
              rw [List.take_succ_eq_append_getElem hlt, sumD_append] at h2
              have h3 : sumD [es[j + 1]] = es[j + 1].bytes.length := by simp [sumD]
              have := HZ.out
              omega
            rw [← hps, List.map_append, List.map_cons, List.map_nil, tailBytes_snoc] at hsum
            have uj : ∀ k, k < 12 → (rowsV (q ++ [(x, sx)]))[m' * 12 + k]? = (x.cells sx)[k]? := fun k hk => by
              rw [rowsV_at _ m' (by simp [hqm]) k hk]; simp [← hqm]
            have hO' : OwnV wr 0 32 12 (some ⟨g, 0, none⟩) cap' (m' + 1) (rowsV (q ++ [(x, sx)])) := hO.mono (Nat.zero_le _)
            have x6 : wr.cell? ⟨g, m' * 12 + 6, none⟩ = some (.slice sx.bo x.bytes.length sx.bcap) := (row_cell hO' 6 (by omega) (uj 6 (by omega))).1
            have hcap' : m' + 1 ≤ cap' := hO'.isV.1
            have HK : Hid (∀ W3 : World, Turns (fun k => wr.heap.size ≤ k) wr W3 → ∀ k, k < 12 → ∃ u, W3.cell? ⟨g, m' * 12 + k, none⟩ = some u ∧ W3.frozen? ⟨g, m' * 12 + k, none⟩ = false) := fun W3 hT k hk => by
              have h1 := hO'.turns hT (fun a ha e => by injection ha with ha; subst ha; have := (hO'.block _ rfl).2; have e' : wr.heap.size ≤ g := e; have h' : g < wr.heap.size := this; omega)
              have h3 : (x.cells sx)[k]? = some ((x.cells sx)[k]'(by show k < 12; exact hk)) := List.getElem?_eq_getElem _
              have h4 := row_cell h1 k hk ((uj k hk).trans h3)
              exact ⟨_, h4.1, h4.2⟩
            have hInX := hI2 (x, sx) (by simp)
            have HBx : Hid (IsB wr.drew sx.bo sx.bcap x.bytes) := hInX.bytes.is.stay (below_drew _ _)
            have hBe : IsB wr s.bo s.bcap es[j + 1].bytes := HEv.out.bytes.stay HJ.out.below
            have y6 : wr.cell? ⟨b, o + (j + 1) * 12 + 6, none⟩ = some (.slice s.bo es[j + 1].bytes.length s.bcap) := (HJ.out.below.cell (World.block_lt_of_cell? W _ (hE.at_ 6 _ rfl))).trans (hE.at_ 6 _ rfl)
            have y0 : wr.cell? ⟨b, o + (j + 1) * 12, none⟩ = some (.int .i64 es[j + 1].kind) := (HJ.out.below.cell (World.block_lt_of_cell? W _ (hE.at_ 0 _ rfl))).trans (hE.at_ 0 _ rfl)
            have HY : Hid (∀ W3 : World, Turns (fun k => wr.heap.size ≤ k) wr W3 → W3.cell? ⟨b, o + (j + 1) * 12 + 6, none⟩ = some (.slice s.bo es[j + 1].bytes.length s.bcap) ∧ IsB W3 s.bo s.bcap es[j + 1].bytes) := fun W3 hT => by
              have hb3 : Below wr.heap.size wr W3 := ⟨hT.os, hT.tape, hT.output, hT.size, fun k hk => hT.block k hk (by omega)⟩
              exact ⟨(hb3.cell (World.block_lt_of_cell? wr _ y6)).trans y6, hBe.stay hb3⟩
            have HMg : Hid (∀ (w4 : World) (bo4 : Option Addr) (cap4 n4 : Nat), Turns (fun k => wr.heap.size ≤ k) wr w4 → GrowB w4 (fun k => wr.heap.size ≤ k) 5 bo4 cap4 (x.bytes ++ es[j + 1].bytes) → n4 = (x.bytes ++ es[j + 1].bytes).length → m' + 1 = (joinD (es.take (j + 1 + 1))).length ∧ JdRel W es (j + 1 + 1) (some ⟨g, 0, none⟩) cap' (w4.setCells g (m' * 12) [.int .i64 2, .string ⟨#[]⟩, .string ⟨#[]⟩, .int .i64 0, .slice none 0 0, .int .i64 0, .slice bo4 n4 cap4, .string ⟨#[]⟩, .string ⟨#[]⟩, .string ⟨#[]⟩, .slice none 0 0, .int .i64 0])) := fun w4 bo4 cap4 n4 hT hG hn => HJ.out.merge hlt hk hps hx (by rw [hqm]; exact hO) hI2 hqm hT hG hn
            have t1 : (es[j + 1].kind == 2) = true := beq_iff_eq.2 hk
            have t2 : (es[j].kind == 2) = true := beq_iff_eq.2 hk0
            have HSum := Hid.mk' hsum
            obtain ⟨u0, hu0, hy0, hy1, hy2⟩ := info_parts info_u8
            have Hu := Hid.mk' hu0; have Hy0 := Hid.mk' hy0; have Hy1 := Hid.mk' hy1; have Hy2 := Hid.mk' hy2
            have m0 : (0 : Int) ≤ (m' : Int) := by omega
            have m1 : (m' : Int) < (m' : Int) + 1 := by omega
            have m2 : ((m' + 1 : Nat) : Int) - 1 = (m' : Int) := by omega
            have e4 : (j : Int) + 1 < es.length := by omega
            have e5 : (0 : Int) ≤ (j : Int) + 1 := by omega
            clear hO hI hps hpl hx hqm hI2 hsum uj hO' hInX hBe HPush htl htt hk hk0 HEv hE hu0 hy0 hy1 hy2
            generalize es[j].kind = kj at *
            generalize es[j + 1] = e at *
            go_wp2
            go_region_law (first
              | (refine step_append_grown (S := fun _ => False) (l := []) (n := 0) (by rfl) _ _ _ (by rfl) 5 u0 Tryz.underlying22 Hu.out Hy0.out Hy1.out Hy2.out (by rfl) (by rfl) (GrowB.nil _ _ _) rfl HBx.out rfl (by have := HSum.out; omega) ?_; intro bo3 cap3 w3 hO3 hT3; have HO3g : Hid (GrowB w3 (fun k => wr.heap.size ≤ k) 5 bo3 cap3 x.bytes) := grow_first hO3; have hT3' : Turns (fun k => wr.heap.size ≤ k) wr w3 := (Turns.of_below (below_drew _ _)).trans (hT3.mono (fun k e => by simp [blkB] at e)) (fun _ e _ => e); have HT3 := Hid.mk' hT3'; have y63 := (HY.out w3 hT3').1; have HB3 := Hid.mk' (HY.out w3 hT3').2; clear hO3 hT3 hT3')
              | (refine step_append_grown (S := fun k => wr.heap.size ≤ k) (l := x.bytes) (by rfl) _ _ _ (by rfl) 5 u0 Tryz.underlying22 Hu.out Hy0.out Hy1.out Hy2.out (by rfl) (by rfl) HO3g.out (by simp) HB3.out rfl (by have := HSum.out; omega) ?_; intro bo4 cap4 w4 hO4 hT4; have hT4' : Turns (fun k => wr.heap.size ≤ k) wr w4 := HT3.out.trans (hT4.mono (fun k e => HO3g.out.blk e)) (fun _ e _ => e); have HO4 : Hid (GrowB w4 (fun k => wr.heap.size ≤ k) 5 bo4 cap4 (x.bytes ++ e.bytes)) := hO4.mono (fun k _ e => by rcases e with e | e; exact HO3g.out.blk e; exact Nat.le_trans HT3.out.size e); have HT4 := Hid.mk' hT4'; obtain ⟨v0, d0, f0⟩ := HK.out w4 hT4' 0 (by decide); obtain ⟨v1, d1, f1⟩ := HK.out w4 hT4' 1 (by decide); obtain ⟨v2, d2, f2⟩ := HK.out w4 hT4' 2 (by decide); obtain ⟨v3, d3, f3⟩ := HK.out w4 hT4' 3 (by decide); obtain ⟨v4, d4, f4⟩ := HK.out w4 hT4' 4 (by decide); obtain ⟨v5, d5, f5⟩ := HK.out w4 hT4' 5 (by decide); obtain ⟨v6, d6, f6⟩ := HK.out w4 hT4' 6 (by decide); obtain ⟨v7, d7, f7⟩ := HK.out w4 hT4' 7 (by decide); obtain ⟨v8, d8, f8⟩ := HK.out w4 hT4' 8 (by decide); obtain ⟨v9, d9, f9⟩ := HK.out w4 hT4' 9 (by decide); obtain ⟨v10, d10, f10⟩ := HK.out w4 hT4' 10 (by decide); obtain ⟨v11, d11, f11⟩ := HK.out w4 hT4' 11 (by decide); rw [Nat.add_zero] at d0 f0; clear hO4 hT4 hT4'))
            all_goals (have HR := Hid.mk' (HMg.out w4 bo4 cap4 (x.bytes.length + e.bytes.length) HT4.out HO4.out (by simp)); go_wp2; go_roundw; exact ⟨j + 1 + 1, m' + 1, some ⟨g, 0, none⟩, cap', by omega, by go_num, rfl, HR.out.1, HR.out.2⟩; (simp [intOf]; omega))
          · have hp0 : es[j + 1].kind = 2 → tailD (es.take (j + 1)) = false := fun _ => by rw [htl]; exact decide_eq_false hk0
            obtain ⟨xs, hO, hq⟩ := HPush.out hp0
            have HO1 := Hid.mk' hO; have HP1 := Hid.mk' hq
            have t1 : (es[j + 1].kind == 2) = true := beq_iff_eq.2 hk
            have t2 : (es[j].kind == 2) = false := beq_eq_false_iff_ne.2 hk0
            clear hO hq HPush hp0 hk hk0 htl HEv
            generalize es[j].kind = kj at *
            generalize es[j + 1] = e at *
            have c0 : wr.cell? ⟨b, o + (j + 1) * 12, none⟩ = some (.int .i64 e.kind) := (HJ.out.below.cell (World.block_lt_of_cell? W _ (hE.at_ 0 _ rfl))).trans (hE.at_ 0 _ rfl)
            have c1 : wr.cell? ⟨b, o + (j + 1) * 12 + 1, none⟩ = some (.string e.method) := (HJ.out.below.cell (World.block_lt_of_cell? W _ (hE.at_ 1 _ rfl))).trans (hE.at_ 1 _ rfl)
            have c2 : wr.cell? ⟨b, o + (j + 1) * 12 + 2, none⟩ = some (.string e.target) := (HJ.out.below.cell (World.block_lt_of_cell? W _ (hE.at_ 2 _ rfl))).trans (hE.at_ 2 _ rfl)
            have c3 : wr.cell? ⟨b, o + (j + 1) * 12 + 3, none⟩ = some (.int .i64 e.minor) := (HJ.out.below.cell (World.block_lt_of_cell? W _ (hE.at_ 3 _ rfl))).trans (hE.at_ 3 _ rfl)
            have c4 : wr.cell? ⟨b, o + (j + 1) * 12 + 4, none⟩ = some (.slice s.fo e.fields.length s.fcap) := (HJ.out.below.cell (World.block_lt_of_cell? W _ (hE.at_ 4 _ rfl))).trans (hE.at_ 4 _ rfl)
            have c5 : wr.cell? ⟨b, o + (j + 1) * 12 + 5, none⟩ = some (.int .i64 e.length) := (HJ.out.below.cell (World.block_lt_of_cell? W _ (hE.at_ 5 _ rfl))).trans (hE.at_ 5 _ rfl)
            have c6 : wr.cell? ⟨b, o + (j + 1) * 12 + 6, none⟩ = some (.slice s.bo e.bytes.length s.bcap) := (HJ.out.below.cell (World.block_lt_of_cell? W _ (hE.at_ 6 _ rfl))).trans (hE.at_ 6 _ rfl)
            have c7 : wr.cell? ⟨b, o + (j + 1) * 12 + 7, none⟩ = some (.string e.pname) := (HJ.out.below.cell (World.block_lt_of_cell? W _ (hE.at_ 7 _ rfl))).trans (hE.at_ 7 _ rfl)
            have c8 : wr.cell? ⟨b, o + (j + 1) * 12 + 8, none⟩ = some (.string e.pfile) := (HJ.out.below.cell (World.block_lt_of_cell? W _ (hE.at_ 8 _ rfl))).trans (hE.at_ 8 _ rfl)
            have c9 : wr.cell? ⟨b, o + (j + 1) * 12 + 9, none⟩ = some (.string e.ptype) := (HJ.out.below.cell (World.block_lt_of_cell? W _ (hE.at_ 9 _ rfl))).trans (hE.at_ 9 _ rfl)
            have c10 : wr.cell? ⟨b, o + (j + 1) * 12 + 10, none⟩ = some (.slice s.po e.pbytes.length s.pcap) := (HJ.out.below.cell (World.block_lt_of_cell? W _ (hE.at_ 10 _ rfl))).trans (hE.at_ 10 _ rfl)
            have c11 : wr.cell? ⟨b, o + (j + 1) * 12 + 11, none⟩ = some (.int .i64 e.code) := (HJ.out.below.cell (World.block_lt_of_cell? W _ (hE.at_ 11 _ rfl))).trans (hE.at_ 11 _ rfl)
            clear hE
            go_wp2_with (at_builtin; refine wpList_append_v rfl (.tmp 52) (.tmp 57) 26 rfl W.heap.size 32 i0 (.agg #[.int .i64 0, .string ⟨#[]⟩, .string ⟨#[]⟩, .int .i64 0, .slice none 0 0, .int .i64 0, .slice none 0 0, .string ⟨#[]⟩, .string ⟨#[]⟩, .string ⟨#[]⟩, .slice none 0 0, .int .i64 0]) 12 184 Tryz.underlying26 Hi.out Hz0.out Hz1.out Hz2.out rfl (by decide) rfl HO1.out rfl (EvD.made e s _ _ _ rfl) rfl (cells_one e s) (by omega) (by omega) (by rw [World.size_alloc]; have := HJ.out.below.size; omega) ?_; intro a3 c3 w3 hO hG hat; have HQ := Hid.mk' (HP1.out a3 c3 w3 hO hG hat); clear hO hG hat)
            go_roundw
            case rel => exact ⟨(j + 1) + 1, m + 1, a3, c3, by omega, by go_num, by go_num, HQ.out.1, HQ.out.2⟩
            case measure => simp [intOf]; omega
        · have hp0 : es[j + 1].kind = 2 → tailD (es.take (j + 1)) = false := fun h => absurd h hk
          obtain ⟨xs, hO, hq⟩ := HPush.out hp0
          have HO1 := Hid.mk' hO; have HP1 := Hid.mk' hq
          have t1 : (es[j + 1].kind == 2) = false := beq_eq_false_iff_ne.2 hk
          clear hO hq HPush hp0 hk htl HEv
          generalize es[j].kind = kj at *
          generalize es[j + 1] = e at *
          have c0 : wr.cell? ⟨b, o + (j + 1) * 12, none⟩ = some (.int .i64 e.kind) := (HJ.out.below.cell (World.block_lt_of_cell? W _ (hE.at_ 0 _ rfl))).trans (hE.at_ 0 _ rfl)
          have c1 : wr.cell? ⟨b, o + (j + 1) * 12 + 1, none⟩ = some (.string e.method) := (HJ.out.below.cell (World.block_lt_of_cell? W _ (hE.at_ 1 _ rfl))).trans (hE.at_ 1 _ rfl)
          have c2 : wr.cell? ⟨b, o + (j + 1) * 12 + 2, none⟩ = some (.string e.target) := (HJ.out.below.cell (World.block_lt_of_cell? W _ (hE.at_ 2 _ rfl))).trans (hE.at_ 2 _ rfl)
          have c3 : wr.cell? ⟨b, o + (j + 1) * 12 + 3, none⟩ = some (.int .i64 e.minor) := (HJ.out.below.cell (World.block_lt_of_cell? W _ (hE.at_ 3 _ rfl))).trans (hE.at_ 3 _ rfl)
          have c4 : wr.cell? ⟨b, o + (j + 1) * 12 + 4, none⟩ = some (.slice s.fo e.fields.length s.fcap) := (HJ.out.below.cell (World.block_lt_of_cell? W _ (hE.at_ 4 _ rfl))).trans (hE.at_ 4 _ rfl)
          have c5 : wr.cell? ⟨b, o + (j + 1) * 12 + 5, none⟩ = some (.int .i64 e.length) := (HJ.out.below.cell (World.block_lt_of_cell? W _ (hE.at_ 5 _ rfl))).trans (hE.at_ 5 _ rfl)
          have c6 : wr.cell? ⟨b, o + (j + 1) * 12 + 6, none⟩ = some (.slice s.bo e.bytes.length s.bcap) := (HJ.out.below.cell (World.block_lt_of_cell? W _ (hE.at_ 6 _ rfl))).trans (hE.at_ 6 _ rfl)
          have c7 : wr.cell? ⟨b, o + (j + 1) * 12 + 7, none⟩ = some (.string e.pname) := (HJ.out.below.cell (World.block_lt_of_cell? W _ (hE.at_ 7 _ rfl))).trans (hE.at_ 7 _ rfl)
          have c8 : wr.cell? ⟨b, o + (j + 1) * 12 + 8, none⟩ = some (.string e.pfile) := (HJ.out.below.cell (World.block_lt_of_cell? W _ (hE.at_ 8 _ rfl))).trans (hE.at_ 8 _ rfl)
          have c9 : wr.cell? ⟨b, o + (j + 1) * 12 + 9, none⟩ = some (.string e.ptype) := (HJ.out.below.cell (World.block_lt_of_cell? W _ (hE.at_ 9 _ rfl))).trans (hE.at_ 9 _ rfl)
          have c10 : wr.cell? ⟨b, o + (j + 1) * 12 + 10, none⟩ = some (.slice s.po e.pbytes.length s.pcap) := (HJ.out.below.cell (World.block_lt_of_cell? W _ (hE.at_ 10 _ rfl))).trans (hE.at_ 10 _ rfl)
          have c11 : wr.cell? ⟨b, o + (j + 1) * 12 + 11, none⟩ = some (.int .i64 e.code) := (HJ.out.below.cell (World.block_lt_of_cell? W _ (hE.at_ 11 _ rfl))).trans (hE.at_ 11 _ rfl)
          clear hE
          go_wp2_with (at_builtin; refine wpList_append_v rfl (.tmp 52) (.tmp 57) 26 rfl W.heap.size 32 i0 (.agg #[.int .i64 0, .string ⟨#[]⟩, .string ⟨#[]⟩, .int .i64 0, .slice none 0 0, .int .i64 0, .slice none 0 0, .string ⟨#[]⟩, .string ⟨#[]⟩, .string ⟨#[]⟩, .slice none 0 0, .int .i64 0]) 12 184 Tryz.underlying26 Hi.out Hz0.out Hz1.out Hz2.out rfl (by decide) rfl HO1.out rfl (EvD.made e s _ _ _ rfl) rfl (cells_one e s) (by omega) (by omega) (by rw [World.size_alloc]; have := HJ.out.below.size; omega) ?_; intro a3 c3 w3 hO hG hat; have HQ := Hid.mk' (HP1.out a3 c3 w3 hO hG hat); clear hO hG hat)
          go_roundw
          case rel => exact ⟨(j + 1) + 1, m + 1, a3, c3, by omega, by go_num, by go_num, HQ.out.1, HQ.out.2⟩
          case measure => simp [intOf]; omega
    · obtain rfl : i = es.length := by omega
      have hO := HJ.out.out
      have hm := HM.out
      rw [List.take_length] at hO hm
      have HO := Hid.mk' hO; have HMm := Hid.mk' hm
      clear hO hm
      go_wp2
      go_ret
      exact ⟨ao', cap', m, rfl, HMm.out, HO.out, HJ.out.below⟩
end Go.Proofs.YtkafbifogdoneacGreatDoor

/- The document's own answer, walked: RequestText. -/
namespace Go.Proofs.YtkafbifogdoneacGreatDoor
open Go.RowKit

theorem none_in {c : UInt8} {l : List UInt8} (h : Fd.at_ c l = l.length) : c ∉ l := fun h9 => by
  obtain ⟨j, hj, e⟩ := List.getElem_of_mem h9
  exact Fd.at_first (by rw [h]; exact hj) hj e
theorem here_in {c : UInt8} {l : List UInt8} (h : Fd.at_ c l < l.length) : c ∈ l := by
  have := Fd.at_here h
  rw [← this]; exact List.getElem_mem _
/-- what the loop over the fields keeps -/
structure RtRel (w : World) (cs : Array Value) (T : Nat) (l : List (ByteArray × ByteArray)) (sx : List UInt8) (i : Nat) (x : ByteArray) (wr : World) : Prop where
  txt : x.data.toList = sx ++ (l.take i).flatMap Rq.lineT
  zero : ∀ p ∈ l.take i, (Fd.text p.1.data.toList p.2.data.toList).2 = 0
  one : OneAt w cs T wr
set_option maxRecDepth 100000 in
set_option maxHeartbeats 4000000 in
theorem requestText_any (w : World) (m t : ByteArray) (mi ln : Int) (l : List (ByteArray × ByteArray)) (fo bo : Option Addr) (fcap bcap nb : Nat) (body : List UInt8) (hl : IsV w fo fcap l.length (pairV l)) (hN : l.length ≤ 1000000) (hs : ∀ p ∈ l, p.1.size ≤ 2000 ∧ p.2.size ≤ 2000) (hm : m.size + t.size ≤ 10000) (hb : body.length = nb) (hBd : IsB w bo bcap body) (hnb : nb ≤ 100000) :
    Calls Tryz.prog 18 #[.agg #[.string m, .string t, .int .i64 mi, .slice fo l.length fcap, .int .i64 ln], .slice bo nb bcap] w fun e w' => WrOut w (Rq.hdT m t l) body e w' := by
  subst hb
  have htx := Rq.text_by m t l body _ rfl
  have HTx := Hid.mk' htx
  obtain ⟨j0, hj0, hy0, hy1, hy2⟩ := info_parts info_u8
  have Hj := Hid.mk' hj0; have Hy0 := Hid.mk' hy0; have Hy1 := Hid.mk' hy1; have Hy2 := Hid.mk' hy2
  have HV := Hid.mk' hl; have HS := Hid.mk' hs; have HBd := Hid.mk' hBd
  have HX : Hid (∀ W, OneAt w #[.string m, .string t, .int .i64 mi, .slice fo l.length fcap, .int .i64 ln] 25 W → W.cell? ⟨w.heap.size, 0, none⟩ = some (.string m) ∧ W.cell? ⟨w.heap.size, 1, none⟩ = some (.string t) ∧ W.cell? ⟨w.heap.size, 3, none⟩ = some (.slice fo l.length fcap)) := fun W h => ⟨h.cell 0, h.cell 1, h.cell 3⟩
  have HVs : Hid (∀ W name, OneAt w #[.string m, .string t, .int .i64 mi, .slice fo l.length fcap, .int .i64 ln] 25 W → name.size ≤ 2000 → Calls Tryz.prog 24 #[.slice fo l.length fcap, .string name] W fun e w' => ∃ a c, e = .returned (.slice a (Fd.vals name l).length c) ∧ Below W.heap.size W w') := fun W name h hn => (valuesOf_any l name fo fcap l.length W (hl.stay h.below) rfl hN (fun p hp => (hs p hp).1) hn).mono (fun e w' h => by obtain ⟨a, c, he, _, hB⟩ := h; exact ⟨a, c, he, hB⟩)
  have h0 := OneAt.made w #[.string m, .string t, .int .i64 mi, .slice fo l.length fcap, .int .i64 ln] 25
  have H0 := Hid.mk' h0
  clear htx hl hs hBd h0 hj0 hy0 hy1 hy2
  go_enter Tryz.func18, Tryz.ntmps18
  go_wp2_with fail
  refine (tokenText_any m _ (by unfold maxLen; omega)).mono ?_
  rintro e w1 ⟨rfl, hw⟩
  subst hw
  generalize (w.alloc (.cells #[.string m, .string t, .int .i64 mi, .slice fo l.length fcap, .int .i64 ln] 25)) = wb at *
  obtain ⟨x0, x1, x3⟩ := HX.out wb H0.out
  cases htk : Ch.isToken m.data.toList with
  | false =>
    have hF : Rq.text (Rq.hdT m t l) body = ([], 6) := by
      have := HTx.out
      unfold Rq.faultN at this
      rw [htk, if_pos rfl] at this
      exact this.1 (by omega)
    have HF := Hid.mk' hF
    clear hF htk
    go_wp2
    go_ret2
    exact .bad 6 (by omega) rfl HF.out H0.out.below
  | true =>
  rw [htk] at HTx
  clear htk
  go_upto_region 3 with fail
  go_cut [43] (fun v wd => v = .bool (!Rq.isTarget t.data.toList) ∧ OneAt w #[.string m, .string t, .int .i64 mi, .slice fo l.length fcap, .int .i64 ln] 25 wd)
  case first =>
    by_cases hg0 : t.size = 0
    · have tg0 : ((t.size : Int) == 0) = true := by rw [beq_iff_eq]; omega
      have HIt : Hid (Rq.isTarget t.data.toList = false) := (Rq.target_no _).2 (Or.inl (by rw [Ch.empty_eq t hg0]; simp))
      clear hg0
      go_wp2
      go_meet
      exact ⟨by rw [HIt.out]; rfl, H0.out⟩
    · have hgp : 0 < t.size := by omega
      have tg0 : ((t.size : Int) == 0) = false := by rw [beq_eq_false_iff_ne]; omega
      have hgh : t.data.toList.head? = some t[0] := by
        rw [List.head?_eq_getElem?, List.getElem?_eq_getElem (by rw [Ch.len_list]; exact hgp)]
        rfl
      by_cases h47 : t[0] = 47
      · have t47 : ((t[0].toNat : Int) != 47) = false := by rw [h47]; rfl
        obtain ⟨capq, wq, hq, hBq, hzq, hIq⟩ := bytes_of (P := Tryz.prog) wb t 9 22 5 Tryz.underlying9 Tryz.underlying22 Tryz.underlying5
        have HFn := Hid.mk' (find_any wq _ capq t.size _ ⟨#[32]⟩ hIq (by rw [Ch.len_list]) (by decide) (by omega))
        have HOq := Hid.mk' (H0.out.stay hBq)
        have HGh := Hid.mk' hgh; have H47 := Hid.mk' h47
        clear hBq hzq hIq hgh h47
        go_wp2_with fail
        refine HFn.out.mono ?_
        rintro e w5 ⟨r, rfl, hfi, hw⟩
        subst hw
        obtain ⟨z0, z1, z3⟩ := HX.out w5 HOq.out
        have hfo := find_one hfi
        clear HFn hq hfi
        rcases hfo with ⟨rfl, hk⟩ | ⟨hr, hk⟩
        · have HK1 : Hid (32 ∉ t.data.toList) := none_in hk
          clear hk
          obtain ⟨capr, wr2, hq2, hBq2, hzq2, hIq2⟩ := bytes_of (P := Tryz.prog) w5 t 9 22 5 Tryz.underlying9 Tryz.underlying22 Tryz.underlying5
          have HFn2 := Hid.mk' (find_any wr2 _ capr t.size _ ⟨#[9]⟩ hIq2 (by rw [Ch.len_list]) (by decide) (by omega))
          have HOr := Hid.mk' (HOq.out.stay hBq2)
          clear hBq2 hzq2 hIq2
          go_wp2_with fail
          refine HFn2.out.mono ?_
          rintro e w6 ⟨r2, rfl, hfi, hw⟩
          subst hw
          obtain ⟨y0, y1, y3⟩ := HX.out w6 HOr.out
          have hfo := find_one hfi
          clear HFn2 hq2 hfi
          rcases hfo with ⟨rfl, hk⟩ | ⟨hr, hk⟩
          · have HK2 : Hid (9 ∉ t.data.toList) := none_in hk
            clear hk
            have HSn := Hid.mk' (seenText_any t w6 (by unfold maxLen; omega))
            go_wp2_with fail
            refine HSn.out.mono ?_
            rintro e w7 ⟨rfl, hw⟩
            subst hw
            have HIt : Hid (Rq.isTarget t.data.toList = Ch.isVisible t.data.toList) := by
              unfold Hid
              cases hv : Ch.isVisible t.data.toList
              · exact (Rq.target_no _).2 (Or.inr (Or.inr (Or.inr hv)))
              · cases hi : Rq.isTarget t.data.toList
                · rcases (Rq.target_no _).1 hi with e | e | e | e
                  · rw [HGh.out, H47.out] at e; exact absurd rfl e
                  · exact absurd e HK1.out
                  · exact absurd e HK2.out
                  · rw [hv] at e; cases e
                · rfl
            generalize Ch.isVisible t.data.toList = vv at *
            clear HSn
            cases vv
            · go_wp2
              go_meet
              exact ⟨by rw [HIt.out]; rfl, HOr.out⟩
            · go_wp2
              go_meet
              exact ⟨by rw [HIt.out]; rfl, HOr.out⟩
          · have e1 : decide (r2 ≥ 0) = true := decide_eq_true (by omega)
            have e0 : (0 : Int) ≤ r2 := by omega
            have HIt : Hid (Rq.isTarget t.data.toList = false) := (Rq.target_no _).2 (Or.inr (Or.inr (Or.inl (here_in hk))))
            clear hk hr
            go_wp2
            go_meet
            exact ⟨by rw [HIt.out]; rfl, HOr.out⟩
        · have e1 : decide (r ≥ 0) = true := decide_eq_true (by omega)
          have e0 : (0 : Int) ≤ r := by omega
          have HIt : Hid (Rq.isTarget t.data.toList = false) := (Rq.target_no _).2 (Or.inr (Or.inl (here_in hk)))
          clear hk hr
          go_wp2
          go_meet
          exact ⟨by rw [HIt.out]; rfl, HOq.out⟩
      · have t47 : ((t[0].toNat : Int) != 47) = true := byte_ne h47
        have HIt : Hid (Rq.isTarget t.data.toList = false) := (Rq.target_no _).2 (Or.inl (by rw [hgh]; simpa using h47))
        clear hgh h47
        go_wp2
        go_meet
        exact ⟨by rw [HIt.out]; rfl, H0.out⟩
  case rest =>
    obtain ⟨rfl, hO⟩ := hcut
    have HO := Hid.mk' hO
    clear x0 x1 x3 H0
    obtain ⟨x0, x1, x3⟩ := HX.out wc hO
    clear hO
    have HVS := Hid.mk' (fun W h => HVs.out W bSize h (by decide))
    have HVC := Hid.mk' (fun W h => HVs.out W bCode h (by decide))
    have HVH := Hid.mk' (fun W h => HVs.out W bHost h (by decide))
    clear HVs
    have hfz : m.data.toList.length + t.data.toList.length + 10 = m.size + t.size + 10 := by rw [Ch.len_list, Ch.len_list]
    rw [hfz] at HTx
    clear hfz
    generalize Rq.isTarget t.data.toList = tg at *
    generalize (Fd.vals bSize l).length = vs at *
    generalize (Fd.vals bCode l).length = vc at *
    generalize (Fd.vals bHost l).length = vh at *
    simp only [bSize] at HVS
    simp only [bCode] at HVC
    simp only [bHost] at HVH
    cases tg with
    | false =>
      have HF : Hid (Rq.text (Rq.hdT m t l) body = ([], 5)) := HTx.out.1 (show (5 : Nat) ≠ 0 by omega)
      go_wp2
      go_ret2
      exact .bad 5 (by omega) rfl HF.out HO.out.below
    | true =>
    go_upto_region 5 with fail
    go_cut [6] (fun v wd => ∃ s : ByteArray, v = .string s ∧ s.size = m.size + t.size + 10 ∧ s.data.toList = m.data.toList ++ 32 :: (t.data.toList ++ 32 :: Rq.v11) ∧ OneAt w #[.string m, .string t, .int .i64 mi, .slice fo l.length fcap, .int .i64 ln] 25 wd)
    case first =>
      go_wp2
      go_meet
      refine ⟨_, rfl, ?_, ?_, HO.out⟩
      · simp only [ByteArray.size_append]
        show m.size + 1 + t.size + 9 = _
        omega
      · simp only [Ch.data_append]
        simp [Rq.v11]
    case rest =>
      obtain ⟨s, rfl, hsz, hsd, hO⟩ := hcut
      have HO1 := Hid.mk' hO
      have HSd := Hid.mk' hsd
      clear x0 x1 x3 HO
      obtain ⟨x0, x1, x3⟩ := HX.out wc hO
      clear hO hsd
      by_cases h200 : 200 < s.size
      · have t2 : decide ((s.size : Int) > 200) = true := decide_eq_true (by omega)
        have HF : Hid (Rq.text (Rq.hdT m t l) body = ([], 4)) := by
          have := HTx.out
          rw [show Rq.faultN true true (m.size + t.size + 10) body.length l.length vs vc vh = 4 by unfold Rq.faultN; rw [if_neg (by simp), if_neg (by simp), if_pos (by omega)]] at this
          exact this.1 (by omega)
        go_wp2
        go_ret2
        exact .bad 4 (by omega) rfl HF.out HO1.out.below
      have t2 : decide ((s.size : Int) > 200) = false := decide_eq_false (by omega)
      by_cases h4k : 4000 < body.length
      · have t3 : decide ((body.length : Int) > 4000) = true := decide_eq_true (by omega)
        have HF : Hid (Rq.text (Rq.hdT m t l) body = ([], 4)) := by
          have := HTx.out
          rw [show Rq.faultN true true (m.size + t.size + 10) body.length l.length vs vc vh = 4 by unfold Rq.faultN; rw [if_neg (by simp), if_neg (by simp), if_pos (by omega)]] at this
          exact this.1 (by omega)
        go_wp2
        go_ret2
        exact .bad 4 (by omega) rfl HF.out HO1.out.below
      have t3 : decide ((body.length : Int) > 4000) = false := decide_eq_false (by omega)
      by_cases h16 : 15 < l.length
      · have t4 : decide ((l.length : Int) ≥ 16) = true := decide_eq_true (by omega)
        have HF : Hid (Rq.text (Rq.hdT m t l) body = ([], 8)) := by
          have := HTx.out
          rw [show Rq.faultN true true (m.size + t.size + 10) body.length l.length vs vc vh = 8 by unfold Rq.faultN; rw [if_neg (by simp), if_neg (by simp), if_neg (by omega), if_pos h16]] at this
          exact this.1 (by omega)
        go_wp2
        go_ret2
        exact .bad 8 (by omega) rfl HF.out HO1.out.below
      have t4 : decide ((l.length : Int) ≥ 16) = false := decide_eq_false (by omega)
      go_wp2_with fail
      refine (HVS.out _ HO1.out).mono ?_
      rintro e w2 ⟨a2, c2, rfl, hb2⟩
      have HO2 := Hid.mk' (HO1.out.stay hb2)
      clear hb2 x0 x1 x3 HVS
      obtain ⟨x0, x1, x3⟩ := HX.out w2 HO2.out
      by_cases hvs : 0 < vs
      · have HF : Hid (Rq.text (Rq.hdT m t l) body = ([], 12)) := by
          have := HTx.out
          rw [show Rq.faultN true true (m.size + t.size + 10) body.length l.length vs vc vh = 12 by unfold Rq.faultN; rw [if_neg (by simp), if_neg (by simp), if_neg (by omega), if_neg h16, if_pos (by omega)]] at this
          exact this.1 (by omega)
        have t5 : decide ((vs : Int) > 0) = true := decide_eq_true (by omega)
        go_wp2
        go_ret2
        exact .bad 12 (by omega) rfl HF.out HO2.out.below
      have t5 : decide ((vs : Int) > 0) = false := decide_eq_false (by omega)
      go_wp2_with fail
      refine (HVC.out _ HO2.out).mono ?_
      rintro e w3 ⟨a3, c3, rfl, hb3⟩
      have HO3 := Hid.mk' (HO2.out.stay hb3)
      clear hb3 x0 x1 x3 HVC
      obtain ⟨x0, x1, x3⟩ := HX.out w3 HO3.out
      by_cases hvc : 0 < vc
      · have HF : Hid (Rq.text (Rq.hdT m t l) body = ([], 12)) := by
          have := HTx.out
          rw [show Rq.faultN true true (m.size + t.size + 10) body.length l.length vs vc vh = 12 by unfold Rq.faultN; rw [if_neg (by simp), if_neg (by simp), if_neg (by omega), if_neg h16, if_pos (by omega)]] at this
          exact this.1 (by omega)
        have t6 : decide ((vc : Int) > 0) = true := decide_eq_true (by omega)
        go_wp2
        go_ret2
        exact .bad 12 (by omega) rfl HF.out HO3.out.below
      have t6 : decide ((vc : Int) > 0) = false := decide_eq_false (by omega)
      go_wp2_with fail
      refine (HVH.out _ HO3.out).mono ?_
      rintro e w4 ⟨a4, c4, rfl, hb4⟩
      have HO4 := Hid.mk' (HO3.out.stay hb4)
      clear hb4 x0 x1 x3 HVH
      obtain ⟨x0, x1, x3⟩ := HX.out w4 HO4.out
      by_cases hvh : vh = 1
      · subst hvh
        have hT := HTx.out.2 (by unfold Rq.faultN; rw [if_neg (by simp), if_neg (by simp), if_neg (by omega), if_neg h16, if_neg (by omega), if_neg (by omega)])
        obtain ⟨hb4k, h15, hT⟩ := hT
        have HT := Hid.mk' hT
        clear hT HTx
        have HR0 : Hid (RtRel w #[.string m, .string t, .int .i64 mi, .slice fo l.length fcap, .int .i64 ln] 25 l (s.data.toList ++ [13, 10]) 0 (s ++ ⟨#[13, 10]⟩) w4) := ⟨by simp, fun p hp => by simp at hp, HO4.out⟩
        have HSz : Hid ((s.data.toList ++ [13, 10] : List UInt8).length ≤ 10100) := by
          unfold Hid
          rw [List.length_append, Ch.len_list]; show s.size + 2 ≤ _; omega
        clear x0 x1 x3 HO1 HO2 HO3 HO4
        go_wp2
        go_loopw [6, 7] (fun v6 v7 wr => ∃ (i : Nat) (x : ByteArray), i ≤ l.length ∧ v7 = .int .i64 i ∧ v6 = .string x ∧ RtRel w #[.string m, .string t, .int .i64 mi, .slice fo l.length fcap, .int .i64 ln] 25 l (s.data.toList ++ [13, 10]) i x wr) (fun _ v7 _ => l.length - (intOf v7).toNat)
        case atStart => exact ⟨0, _, Nat.zero_le _, rfl, rfl, HR0.out⟩
        case round =>
          obtain ⟨i, x, hi, rfl, rfl, hR⟩ := hrel
          have HR := Hid.mk' hR
          have hxs : x.size ≤ 200000 := by
            have h1 := hR.txt
            have h2 := lines_le (l.take i) (fun p hp => HS.out p (List.mem_of_mem_take hp))
            have h3 : (l.take i).length ≤ 15 := by rw [List.length_take]; omega
            have h4 := congrArg List.length h1
            rw [Ch.len_list, List.length_append] at h4
            have h5 := HSz.out
            omega
          clear hR HR0
          obtain ⟨x0, x1, x3⟩ := HX.out wr HR.out.one
          by_cases hlt : i < l.length
          · have hlt' : (i : Int) < l.length := by omega
            have hpl : 0 < (pairV l).length := by rw [pairV_length]; omega
            obtain ⟨bb, oo, rfl, hcs⟩ := (HV.out.stay HR.out.one.below).lit hpl
            have c1 := hcs _ _ (pairV_at l i hlt).1
            have c2 := hcs _ _ (pairV_at l i hlt).2
            rw [← Nat.add_assoc] at c2
            have hfc := HV.out.1
            clear hcs
            have hps := HS.out l[i] (List.getElem_mem hlt)
            have HTk : Hid (l.take (i + 1) = l.take i ++ [l[i]]) := List.take_succ_eq_append_getElem hlt
            have HBad : Hid ((Fd.text l[i].1.data.toList l[i].2.data.toList).2 ≠ 0 → Rq.lines (Rq.flB l) = .inl (Fd.text l[i].1.data.toList l[i].2.data.toList).2) := fun hc => Rq.lines_bad l i hlt HR.out.zero hc
            generalize l[i] = p at *
            have HFt := Hid.mk' (fieldText_any p.1 p.2 wr (by omega) (by omega))
            have hll := line_le p hps
            have HLt : Hid (Rq.lineT p = (Fd.text p.1.data.toList p.2.data.toList).1 ++ [13, 10]) := rfl
            unfold txVal at HFt
            generalize hcd : (Fd.text p.1.data.toList p.2.data.toList).2 = cd at *
            generalize (Fd.text p.1.data.toList p.2.data.toList).1 = tx at *
            have HCd := Hid.mk' hcd
            clear hcd hps
            by_cases hc0 : cd = 0
            · subst hc0
              have hxl : tx.length + 2 ≤ 4004 := by
                have := HLt.out
                rw [this, List.length_append] at hll; simpa using hll
              have htz : (⟨tx.toArray⟩ : ByteArray).size = tx.length := by show tx.toArray.size = _; rw [List.size_toArray]
              have htd : (⟨tx.toArray⟩ : ByteArray).data.toList = tx := rfl
              generalize (⟨tx.toArray⟩ : ByteArray) = tb at *
              have HTd := Hid.mk' htd
              clear hll htd
              go_wp2_with fail
              refine HFt.out.mono ?_
              rintro e w5 ⟨rfl, hb5⟩
              have HO5 := Hid.mk' (HR.out.one.stay hb5)
              clear hb5
              go_wp2
              go_roundw
              case rel =>
                refine ⟨i + 1, _, by omega, by go_num, rfl, ⟨?_, ?_, HO5.out⟩⟩
                · rw [Ch.data_append, Ch.data_append, HR.out.txt, HTk.out, List.flatMap_append, HTd.out, List.append_assoc]
                  congr 2
                  simp [HLt.out]
                · intro q hq
                  rw [HTk.out] at hq
                  rcases List.mem_append.1 hq with hq | hq
                  · exact HR.out.zero q hq
                  · simp at hq; subst hq; exact HCd.out
              case measure => simp [intOf]; omega
            · have tc : ((cd : Int) != 0) = true := by rw [bne_iff_ne]; omega
              have HLb := Hid.mk' (HBad.out hc0); have HCn := Hid.mk' hc0
              clear hc0 hll
              go_wp2_with fail
              refine HFt.out.mono ?_
              rintro e w5 ⟨rfl, hb5⟩
              have HO5 := Hid.mk' (HR.out.one.stay hb5)
              clear hb5
              go_wp2
              (try simp only [Exit.inBlock, Exit.then])
              go_ret2
              refine .bad cd HCn.out rfl ?_ HO5.out.below
              rw [HT.out, HLb.out]
          · obtain rfl : i = l.length := by omega
            have HXe : Hid (Rq.text (Rq.hdT m t l) body = (x.data.toList ++ Rq.nCL ++ [58, 32] ++ Ch.decF 8 body.length ++ [13, 10, 13, 10] ++ body, 0)) := by
              have htl : l.take l.length = l := List.take_length
              have hz := HR.out.zero
              rw [htl] at hz
              have hx := HR.out.txt
              rw [htl, HSd.out] at hx
              unfold Hid
              rw [HT.out, Rq.lines_zero l hz, hx]
              simp
            have HNm := Hid.mk' (num_f 8 body.length wr (by omega) (by omega) (by omega))
            have hdl := Ch.decF_length 8 body.length
            have hdz : (⟨(Ch.decF 8 body.length).toArray⟩ : ByteArray).size = (Ch.decF 8 body.length).length := by show (Ch.decF 8 body.length).toArray.size = _; rw [List.size_toArray]
            have hdd : (⟨(Ch.decF 8 body.length).toArray⟩ : ByteArray).data.toList = Ch.decF 8 body.length := rfl
            generalize Ch.decF 8 body.length = dl at *
            generalize (⟨dl.toArray⟩ : ByteArray) = db at *
            have HDd := Hid.mk' hdd
            clear hdd
            go_upto_region 22 with fail
            go_cut [6] (fun v wd => ∃ y : ByteArray, v = .string y ∧ y.data.toList = x.data.toList ++ Rq.nCL ++ [58, 32] ++ dl ++ [13, 10, 13, 10] ∧ Below w.heap.size w wd)
            case first =>
              go_wp2_with fail
              refine HNm.out.mono ?_
              rintro e w5 ⟨rfl, n5, hw⟩
              have HB5 : Hid (Below w.heap.size w w5) := by rw [hw]; exact HR.out.one.below.trans ⟨rfl, rfl, rfl, Nat.le_refl _, fun _ _ => rfl⟩
              clear hw
              go_wp2
              go_meet
              refine ⟨_, rfl, ?_, HB5.out⟩
              simp only [Ch.data_append, HDd.out]
              simp [Rq.nCL]
            case rest =>
              obtain ⟨y, rfl, hyd, hB⟩ := hcut
              have hyz : y.size ≤ 300000 := by
                have := congrArg List.length hyd
                rw [Ch.len_list] at this
                simp [Rq.nCL] at this
                have e : x.data.size = x.size := rfl
                omega
              obtain ⟨capb, wb, hconv, hbb, hbuf⟩ := buf_of (P := Tryz.prog) wc y 9 22 5 (by unfold maxLen; omega) Tryz.underlying9 Tryz.underlying22 Tryz.underlying5
              have HBw := Hid.mk' hB
              have HBb := Hid.mk' (hB.trans (hbb.mono hB.size))
              have HBd2 := Hid.mk' (HBd.out.stay (hB.trans (hbb.mono hB.size)))
              have HBf := Hid.mk' hbuf
              have HYd := Hid.mk' hyd
              clear hB hbb hbuf hyd
              go_wp2_with (at_builtin; refine wpList_append_buf rfl (.tmp 113) (.tmp 114) 22 22 rfl 5 j0 Tryz.underlying22 Hj.out Hy0.out Hy1.out Hy2.out rfl HBf.out (Ch.len_list _) _ _ rfl (src_bytes Tryz.underlying22 HBd2.out rfl) (by omega) ?_; intro g8 cap8 w8 hU8 hT8; have HU8 := Hid.mk' hU8; have HT8 := Hid.mk' hT8; clear hU8 hT8)
              go_ret2
              have h8 := HBb.out.trans (HT8.out.below (B := w.heap.size) (fun k e => by rw [e]; exact HBw.out.size) HBb.out.size)
              have hX : Rq.text (Rq.hdT m t l) body = (y.data.toList ++ body, 0) := by rw [HXe.out, HYd.out]
              have hU := HU8.out
              refine .ok g8 cap8 _ rfl ?_ (by rw [hX]) (by rw [hX]; exact ⟨Nat.le_trans HBw.out.size hU.base_, hU.lt, hU.le, hU.max, hU.holds, hU.there⟩) h8
              rw [hX]
              show _ = (y.data.toList ++ body).length
              rw [List.length_append, Ch.len_list]
      · have HF : Hid (Rq.text (Rq.hdT m t l) body = ([], 13)) := by
          have := HTx.out
          rw [show Rq.faultN true true (m.size + t.size + 10) body.length l.length vs vc vh = 13 by unfold Rq.faultN; rw [if_neg (by simp), if_neg (by simp), if_neg (by omega), if_neg h16, if_neg (by omega), if_pos hvh]] at this
          exact this.1 (by omega)
        have t7 : ((vh : Int) != 1) = true := by rw [bne_iff_ne]; omega
        go_wp2
        go_ret2
        exact .bad 13 (by omega) rfl HF.out HO4.out.below
end Go.Proofs.YtkafbifogdoneacGreatDoor

/- The document's own answer for requests: what its walk keeps in memory; its closure that fails. -/
namespace Go.Proofs.YtkafbifogdoneacGreatDoor
open Go.RowKit

theorem IsV.made_at (W : World) (cs : Array Value) (n t : Nat) (fr : Nat × Nat) {k : Nat} (hk : W.heap.size = k) : IsV (W.alloc (.cells cs t fr)) (some ⟨k, 0, none⟩) n n cs.toList := by
  subst hk; exact IsV.made W cs n t fr
/-- the cell that holds what was told, and what it holds -/
structure RsAt (w : World) (ao : Option Addr) (cap n : Nat) (es : List Rq.Ev) (W : World) : Prop where
  cell : OneAt w #[.slice ao n cap] 26 W
  want : WantIn W (w.heap.size + 1) 32 ao cap (es.map Rq.Ev.d)
  len : n = es.length
section
variable {w W W' : World} {ao : Option Addr} {cap n : Nat} {es : List Rq.Ev}
theorem RsAt.start (w : World) : RsAt w none 0 0 [] (w.alloc (.cells #[.slice none 0 0] 26)) := ⟨OneAt.made w _ _, WantIn.nil _ _ _, rfl⟩
theorem RsAt.stay (h : RsAt w ao cap n es W) (hb : Below W.heap.size W W') : RsAt w ao cap n es W' := ⟨h.cell.stay hb, h.want.stay hb, h.len⟩
/-- one event more, its cells in a block just made; ahead of its being laid into the cell -/
theorem RsAt.push (h : RsAt w ao cap n es W) (ob : Obj) : ∃ xs, OwnV (W.alloc ob) (w.heap.size + 1) 32 12 ao cap n xs ∧
    ∀ ao' cap' w' (e : Rq.Ev) s ys, e.d.cells s = ys → InE W (fun k => w.heap.size + 1 ≤ k ∧ blockOf ao ≠ some k) e.d s → OwnV w' (w.heap.size + 1) 32 12 ao' cap' (n + 1) (xs ++ ys) → (W.alloc ob).grownBy w' (blockOf ao) → (blockOf ao' = blockOf ao ∨ blockOf ao' = some (W.alloc ob).heap.size) →
      WantIn w' (w.heap.size + 1) 32 ao' cap' ((es ++ [e]).map Rq.Ev.d) ∧ OneAt w #[.slice ao n cap] 26 w' ∧ Below w.heap.size w w' ∧ RsAt w ao' cap' (n + 1) (es ++ [e]) (w'.setCell ⟨w.heap.size, 0, none⟩ (.slice ao' (n + 1) cap')) := by
  have hn := h.len
  obtain ⟨ps, hO, hq⟩ := h.want.push ob
  have hl : (es.map Rq.Ev.d).length = n := by rw [List.length_map]; exact hn.symm
  rw [hl] at hO hq
  refine ⟨rowsV ps, hO, fun ao' cap' w' e s ys hy hE hO' hG hat => ?_⟩
  subst hy
  obtain ⟨h1, h2⟩ := hq ao' cap' w' e.d s hE hO' hG hat
  have hb : Below W.heap.size W (W.alloc ob) := (Below.refl _ _).alloc (Nat.le_refl _) _
  have h3 : OneAt w #[.slice ao n cap] 26 w' := (h.cell.stay hb).turns h2 (fun k e => by omega)
  have h4 := h3.put 0 (.slice ao' (n + 1) cap')
  have hT : Turns (fun k => k = w.heap.size) w' (w'.setCell ⟨w.heap.size, 0, none⟩ (.slice ao' (n + 1) cap')) := setCells_turns w.heap.size [.slice ao' (n + 1) cap'] 0 w'
  have h1' : WantIn w' (w.heap.size + 1) 32 ao' cap' ((es ++ [e]).map Rq.Ev.d) := by rw [List.map_append]; exact h1
  refine ⟨h1', h3, h3.below, ⟨h4, ?_, by rw [List.length_append, hn]; rfl⟩⟩
  obtain ⟨qs, g1, g2, g3⟩ := h1'
  have hr : ∀ a, ao' = some a → ¬ a.block = w.heap.size := fun a e k => by have := (g2.block a e).1; omega
  refine ⟨qs, g1, g2.turns hT hr, fun p hp => ?_⟩
  exact ((g3 p hp).turns hT (fun k f g => by omega))
/-- what is told at the end: nothing more -/
theorem RsAt.done (h : RsAt w ao cap n es W) : WantIn W (w.heap.size + 1) 32 ao cap (es.map Rq.Ev.d) := h.want
end
set_option maxHeartbeats 1000000 in
/-- the closure that fails -/
theorem reqFail_any (w W : World) (ao : Option Addr) (cap n c : Nat) (es : List Rq.Ev) (h : RsAt w ao cap n es W) (hn : n ≤ 1000000) :
    Calls Tryz.prog 39 #[.int .i64 (c : Int), .pointer (some ⟨w.heap.size, 0, none⟩)] W fun e w' => ∃ a2 c2, e = .returned (.tuple #[.slice a2 (n + 1) c2, .bool false]) ∧ WantIn w' (w.heap.size + 1) 32 a2 c2 ((es ++ [Rq.Ev.fail c]).map Rq.Ev.d) ∧ Below w.heap.size w w' := by
  obtain ⟨xs, hO, hp⟩ := h.push (.cells #[.int .i64 4, .string ⟨#[]⟩, .string ⟨#[]⟩, .int .i64 0, .slice none 0 0, .int .i64 0, .slice none 0 0, .string ⟨#[]⟩, .string ⟨#[]⟩, .string ⟨#[]⟩, .slice none 0 0, .int .i64 (c : Int)] 32)
  have HO := Hid.mk' hO; have HP := Hid.mk' hp
  have c0 : W.cell? ⟨w.heap.size, 0, none⟩ = some (.slice ao n cap) := h.cell.cell 0
  have HZ : Hid (w.heap.size + 1 ≤ W.heap.size) := h.cell.lt
  obtain ⟨i0, hi0, hz0, hz1, hz2⟩ := info_parts info_ev
  have Hi := Hid.mk' hi0; have Hz0 := Hid.mk' hz0; have Hz1 := Hid.mk' hz1; have Hz2 := Hid.mk' hz2
  clear hi0 hz0 hz1 hz2 hO hp h
  go_enter Tryz.func39, Tryz.ntmps39
  go_wp2_with (at_builtin; refine wpList_append_v rfl (.tmp 5) (.tmp 8) 26 rfl (w.heap.size + 1) 32 i0 (.agg #[.int .i64 0, .string ⟨#[]⟩, .string ⟨#[]⟩, .int .i64 0, .slice none 0 0, .int .i64 0, .slice none 0 0, .string ⟨#[]⟩, .string ⟨#[]⟩, .string ⟨#[]⟩, .slice none 0 0, .int .i64 0]) 12 184 Tryz.underlying26 Hi.out Hz0.out Hz1.out Hz2.out rfl (by decide) rfl HO.out rfl (IsV.made _ _ 1 _ _) rfl (one_cells (Rq.Ev.fail c).d ⟨none, 0, none, 0, none, 0⟩ _ rfl) (by omega) (by omega) (by rw [World.size_alloc]; have := HZ.out; omega) ?_; intro a3 c3 w3 hO hG hat; have HQ := Hid.mk' (HP.out a3 c3 w3 (.fail c) ⟨none, 0, none, 0, none, 0⟩ _ rfl ⟨IsVS.nil _ _, IsBS.nil _ _, IsBS.nil _ _⟩ hO hG hat); clear hO hG hat)
  go_ret2
  exact ⟨a3, c3, rfl, HQ.out.1, HQ.out.2.2.1⟩
end Go.Proofs.YtkafbifogdoneacGreatDoor

/- The document's own answer for requests: what the walk of Requests keeps. -/
namespace Go.Proofs.YtkafbifogdoneacGreatDoor
open Go.RowKit

/-- what is answered -/
def RsOut (w : World) (b : List UInt8) (e : Ending) (w' : World) : Prop := ∃ a2 c2, e = .returned (.tuple #[.slice a2 (Rq.of b).1.length c2, .bool (Rq.of b).2]) ∧ WantIn w' (w.heap.size + 1) 32 a2 c2 ((Rq.of b).1.map Rq.Ev.d) ∧ Below w.heap.size w w'
theorem RsOut.of {w : World} {b : List UInt8} {e : Ending} {w' : World} {es : List Rq.Ev} {bz : Bool} {a2 : Option Addr} {c2 n : Nat} (hof : Rq.of b = (es, bz)) (hn : n = es.length) (he : e = .returned (.tuple #[.slice a2 n c2, .bool bz])) (hw : WantIn w' (w.heap.size + 1) 32 a2 c2 (es.map Rq.Ev.d)) (hB : Below w.heap.size w w') : RsOut w b e w' := by
  refine ⟨a2, c2, ?_, by rw [hof]; exact hw, hB⟩
  rw [hof, he, hn]
/-- what the loop over requests keeps -/
structure R1Rel (w : World) (b : List UInt8) (p : Nat) (ao : Option Addr) (ca n : Nat) (es : List Rq.Ev) (f : Nat) (wr : World) : Prop where
  rs : RsAt w ao ca n es wr
  f_ : (b.drop p).length < f + 1
  of_ : Rq.of b = (es ++ (Rq.go (f + 1) (b.drop p)).1, (Rq.go (f + 1) (b.drop p)).2)
  few : n ≤ 3 * p
/-- a head that grows -/
structure HbAt (wH : World) (h : Rq.Hd) (fo : Option Addr) (fcap nf : Nat) (W : World) : Prop where
  one : OneAt wH #[.string ⟨h.method.toArray⟩, .string ⟨h.target.toArray⟩, .int .i64 (h.minor : Int), .slice fo nf fcap, .int .i64 0] 25 W
  row : OwnV W (wH.heap.size + 1) 51 2 fo fcap nf (pairV (Rq.flT h.fields))
  len : nf = h.fields.length
/-- what the loop over fields keeps -/
structure R2Rel (w wH : World) (b : List UInt8) (p : Nat) (ao : Option Addr) (ca n : Nat) (es : List Rq.Ev) (f f2 : Nat) (h : Rq.Hd) (fo : Option Addr) (fcap nf : Nat) (wr : World) : Prop where
  hb : HbAt wH h fo fcap nf wr
  f_ : (b.drop p).length < f2 + 1
  of_ : Rq.of b = (es ++ (Rq.goH f h (Rq.flds (f2 + 1) (b.drop p) h.fields)).1, (Rq.goH f h (Rq.flds (f2 + 1) (b.drop p) h.fields)).2)
  good : Rq.HGood h
/-- a field more -/
theorem HbAt.more {wH W w4 : World} {h : Rq.Hd} {fo a4 : Option Addr} {fcap nf c4 : Nat} {nm vl : ByteArray} (hh : HbAt wH h fo fcap nf W) {W3 : World} (hb : Below W.heap.size W W3) (hO : OwnV w4 (wH.heap.size + 1) 51 2 a4 c4 (nf + 1) (pairV (Rq.flT h.fields) ++ [.string nm, .string vl])) (hG : W3.grownBy w4 (blockOf fo)) :
    OneAt wH #[.string ⟨h.method.toArray⟩, .string ⟨h.target.toArray⟩, .int .i64 (h.minor : Int), .slice fo nf fcap, .int .i64 0] 25 w4 ∧
    HbAt wH { h with fields := h.fields ++ [(nm.data.toList, vl.data.toList)] } a4 c4 (nf + 1) (w4.setCell ⟨wH.heap.size, 3, none⟩ (.slice a4 (nf + 1) c4)) := by
  have h1 : OneAt wH #[.string ⟨h.method.toArray⟩, .string ⟨h.target.toArray⟩, .int .i64 (h.minor : Int), .slice fo nf fcap, .int .i64 0] 25 w4 := (hh.one.stay hb).turns (S := fun k => blockOf fo = some k) (Turns.of_grown hG (fun k e => e)) (fun k e => by
    cases fo with
    | none => cases e
    | some a => injection e with e; subst e; exact (hh.row.block a rfl).1)
  have hT : Turns (fun k => k = wH.heap.size) w4 (w4.setCell ⟨wH.heap.size, 3, none⟩ (.slice a4 (nf + 1) c4)) := setCells_turns wH.heap.size [.slice a4 (nf + 1) c4] 3 w4
  refine ⟨h1, ⟨h1.put 3 _, ?_, by show nf + 1 = (h.fields ++ [(nm.data.toList, vl.data.toList)]).length; rw [List.length_append, hh.len]; rfl⟩⟩
  have h2 := hO.turns hT (fun a e k => by have := (hO.block a e).1; omega)
  have e1 : pairV (Rq.flT (h.fields ++ [(nm.data.toList, vl.data.toList)])) = pairV (Rq.flT h.fields) ++ [.string nm, .string vl] := by
    rw [Rq.flT_append, pairV_append]; rfl
  show OwnV _ _ _ _ _ _ _ (pairV (Rq.flT (h.fields ++ [(nm.data.toList, vl.data.toList)])))
  rw [e1]; exact h2
/-- behind a body -/
structure R3Rel (w w5 : World) (b : List UInt8) (f : Nat) (a3 : Option Addr) (c3 n3 : Nat) (es3 : List Rq.Ev) (p3 : Nat) (body : List UInt8) (bo : Option Addr) (bc : Nat) (over : Bool) (c : Nat) (wd : World) : Prop where
  rs : RsAt w a3 c3 n3 es3 wd
  bytes : IsBS wd (fun k => w5.heap.size ≤ k) bo bc body
  below : Below w5.heap.size w5 wd
  of_ : Rq.of b = (es3 ++ Rq.some_ body ++ (Rq.rest f (b.drop p3) over c).1, (Rq.rest f (b.drop p3) over c).2)
theorem r3_own {w w5 w6 : World} {b : List UInt8} {f : Nat} {a3 : Option Addr} {c3 n3 : Nat} {es3 : List Rq.Ev} {p3 : Nat} {body : List UInt8} {bo : Option Addr} {bc : Nat} {ov : Bool} {c : Nat} (hr : RsAt w a3 c3 n3 es3 w5) (hO : OwnB w6 w5.heap.size 5 bo bc body) (hb : Below w5.heap.size w5 w6) (hof : Rq.of b = (es3 ++ Rq.some_ body ++ (Rq.rest f (b.drop p3) ov c).1, (Rq.rest f (b.drop p3) ov c).2)) : R3Rel w w5 b f a3 c3 n3 es3 p3 body bo bc ov c w6 :=
  ⟨hr.stay hb, ⟨hO.isB, fun _ a e => (hO.block a e).1⟩, hb, hof⟩
theorem grown_none {w5 w6 : World} (h : w5.grownBy w6 (blockOf none)) : Below w5.heap.size w5 w6 := (Below.refl _ _).grown h (Nat.le_refl _) (fun q e => by simp [blockOf] at e)
end Go.Proofs.YtkafbifogdoneacGreatDoor

/- The document's own answer for requests: Requests' piece that reads a body. -/
namespace Go.Proofs.YtkafbifogdoneacGreatDoor
open Go.RowKit

/-- a piece of a text, by the way to it -/
def reqAt : List Nat → Code → Code
  | [], c => c
  | 0 :: p, .seq x _ => reqAt p x
  | _ :: p, .seq _ y => reqAt p y
  | _ :: p, .loop c => reqAt p c
  | _ :: p, .block _ c => reqAt p c
  | _ :: p, .scope c => reqAt p c
  | 0 :: p, .cond _ x _ => reqAt p x
  | _ :: p, .cond _ _ y => reqAt p y
  | _, c => c
noncomputable def reqBody : Code := reqAt [1, 1, 1, 1, 1, 1, 1, 1, 1, 1, 1, 1, 1, 1, 1, 1, 1, 1, 1, 1, 1, 0, 1] (Tryz.f13.body.getD .skip)
set_option maxRecDepth 100000 in
set_option maxHeartbeats 6000000 in
theorem reqBody_any (b : List UInt8) (bb oo cap : Nat) (w w5 : World) (q sz2 f' n : Nat) (k : Int) (a3 : Option Addr) (c3 : Nat) (es : List Rq.Ev) (h : Rq.Hd) (hb : IsB w (some ⟨bb, oo, none⟩) cap b) (h9 : b.length ≤ 20000) (hlo : q + sz2 ≤ b.length) (hB5 : Below w.heap.size w w5) (hR5 : RsAt w a3 c3 (n + 1) (es ++ [.head { h with length := k }]) w5) (hln : Rq.len h = .inr k) (hof : Rq.of b = (es ++ (Rq.goB (f' + 1) h (b.drop (q + sz2))).1, (Rq.goB (f' + 1) h (b.drop (q + sz2))).2)) (Q0 : Exit → Act → World → Prop)
    (x1 x2 x3 x4 x5 x7 x8 x9 x11 x12 x13 x17 x18 x19 x20 x21 x22 x23 x24 x25 x26 x27 x28 x29 x30 x31 x32 x33 x34 x35 x36 x37 x38 x39 x40 x41 x42 x43 x44 x45 x46 x47 x48 x49 x50 x51 x52 x53 x54 x55 x56 x57 x58 x59 x60 x61 x62 x63 x64 x65 x66 x67 x68 x69 x70 x71 x72 x73 x74 x75 x76 x77 x78 x79 x80 x81 x82 x83 x84 x85 x86 x87 x88 x89 x90 x91 x92 x93 x94 x95 x96 x97 x98 x99 x100 x101 x102 x103 x104 x105 x106 x107 x108 x109 x110 x111 x112 x113 x114 x115 x116 x117 x118 x119 x120 x121 x122 x123 x124 x125 x126 x127 x129 x130 x131 x132 x133 x134 x135 x136 x137 x138 x139 x140 x141 x142 x143 x144 x145 x146 x147 x148 x149 x150 x151 x152 x153 x154 x155 x156 x157 x158 x159 x160 x161 x162 x163 x164 x165 x166 x167 x168 x169 x170 x171 x172 x173 x174 x175 x176 x177 x178 x179 x180 x181 x182 x183 x184 x185 x186 x187 : Value)
    (hexit : ∀ (w' : World) (y6 y8 y10 y15 y16 y129 y130 y131 y132 y133 y134 y135 y136 y137 y138 y139 y140 y141 y142 y143 y144 y145 y146 y147 y148 y149 y150 y151 y152 y153 y154 y155 y156 y157 y158 y159 y160 y161 y162 y163 y164 y165 : Value), (∃ (p3 : Nat) (body : List UInt8) (bo : Option Addr) (bc : Nat) (ov : Bool) (c nb : Nat), y6 = .int .i64 p3 ∧ y10 = .int .i64 (c : Int) ∧ y15 = .slice bo nb bc ∧ y16 = .bool ov ∧ nb = body.length ∧ q + sz2 ≤ p3 ∧ (ov = true → c = 0 → p3 ≤ b.length) ∧ R3Rel w w5 b (f' + 1) a3 c3 (n + 1) (es ++ [.head { h with length := k }]) p3 body bo bc ov c w') → Q0 .normal ⟨(List.toArray ((.slice (some ⟨bb, oo, none⟩) b.length cap) :: x1 :: x2 :: x3 :: x4 :: x5 :: (y6) :: x7 :: (y8) :: x9 :: (y10) :: x11 :: x12 :: x13 :: (.int .i64 k) :: (y15) :: (y16) :: x17 :: x18 :: x19 :: x20 :: x21 :: x22 :: x23 :: x24 :: x25 :: x26 :: x27 :: x28 :: x29 :: x30 :: x31 :: x32 :: x33 :: x34 :: x35 :: x36 :: x37 :: x38 :: x39 :: x40 :: x41 :: x42 :: x43 :: x44 :: x45 :: x46 :: x47 :: x48 :: x49 :: x50 :: x51 :: x52 :: x53 :: x54 :: x55 :: x56 :: x57 :: x58 :: x59 :: x60 :: x61 :: x62 :: x63 :: x64 :: x65 :: x66 :: x67 :: x68 :: x69 :: x70 :: x71 :: x72 :: x73 :: x74 :: x75 :: x76 :: x77 :: x78 :: x79 :: x80 :: x81 :: x82 :: x83 :: x84 :: x85 :: x86 :: x87 :: x88 :: x89 :: x90 :: x91 :: x92 :: x93 :: x94 :: x95 :: x96 :: x97 :: x98 :: x99 :: x100 :: x101 :: x102 :: x103 :: x104 :: x105 :: x106 :: x107 :: x108 :: x109 :: x110 :: x111 :: x112 :: x113 :: x114 :: x115 :: x116 :: x117 :: x118 :: x119 :: x120 :: x121 :: x122 :: x123 :: x124 :: x125 :: x126 :: x127 :: (.bool (decide (k ≥ 0))) :: (y129) :: (y130) :: (y131) :: (y132) :: (y133) :: (y134) :: (y135) :: (y136) :: (y137) :: (y138) :: (y139) :: (y140) :: (y141) :: (y142) :: (y143) :: (y144) :: (y145) :: (y146) :: (y147) :: (y148) :: (y149) :: (y150) :: (y151) :: (y152) :: (y153) :: (y154) :: (y155) :: (y156) :: (y157) :: (y158) :: (y159) :: (y160) :: (y161) :: (y162) :: (y163) :: (y164) :: (y165) :: x166 :: x167 :: x168 :: x169 :: x170 :: x171 :: x172 :: x173 :: x174 :: x175 :: x176 :: x177 :: x178 :: x179 :: x180 :: x181 :: x182 :: x183 :: x184 :: x185 :: x186 :: x187 :: [])), []⟩ w') :
    Code.wp Tryz.prog reqBody Q0 ⟨(List.toArray ((.slice (some ⟨bb, oo, none⟩) b.length cap) :: x1 :: x2 :: x3 :: x4 :: x5 :: (.int .i64 ((q : Int) + sz2)) :: x7 :: x8 :: x9 :: (.int .i64 0) :: x11 :: x12 :: x13 :: (.int .i64 k) :: (.slice none 0 0) :: (.bool true) :: x17 :: x18 :: x19 :: x20 :: x21 :: x22 :: x23 :: x24 :: x25 :: x26 :: x27 :: x28 :: x29 :: x30 :: x31 :: x32 :: x33 :: x34 :: x35 :: x36 :: x37 :: x38 :: x39 :: x40 :: x41 :: x42 :: x43 :: x44 :: x45 :: x46 :: x47 :: x48 :: x49 :: x50 :: x51 :: x52 :: x53 :: x54 :: x55 :: x56 :: x57 :: x58 :: x59 :: x60 :: x61 :: x62 :: x63 :: x64 :: x65 :: x66 :: x67 :: x68 :: x69 :: x70 :: x71 :: x72 :: x73 :: x74 :: x75 :: x76 :: x77 :: x78 :: x79 :: x80 :: x81 :: x82 :: x83 :: x84 :: x85 :: x86 :: x87 :: x88 :: x89 :: x90 :: x91 :: x92 :: x93 :: x94 :: x95 :: x96 :: x97 :: x98 :: x99 :: x100 :: x101 :: x102 :: x103 :: x104 :: x105 :: x106 :: x107 :: x108 :: x109 :: x110 :: x111 :: x112 :: x113 :: x114 :: x115 :: x116 :: x117 :: x118 :: x119 :: x120 :: x121 :: x122 :: x123 :: x124 :: x125 :: x126 :: x127 :: (.bool (decide (k ≥ 0))) :: x129 :: x130 :: x131 :: x132 :: x133 :: x134 :: x135 :: x136 :: x137 :: x138 :: x139 :: x140 :: x141 :: x142 :: x143 :: x144 :: x145 :: x146 :: x147 :: x148 :: x149 :: x150 :: x151 :: x152 :: x153 :: x154 :: x155 :: x156 :: x157 :: x158 :: x159 :: x160 :: x161 :: x162 :: x163 :: x164 :: x165 :: x166 :: x167 :: x168 :: x169 :: x170 :: x171 :: x172 :: x173 :: x174 :: x175 :: x176 :: x177 :: x178 :: x179 :: x180 :: x181 :: x182 :: x183 :: x184 :: x185 :: x186 :: x187 :: [])), []⟩ w5 := by
  have HB := Hid.mk' hb
  have hcap := hb.1
  have HB5w := Hid.mk' hB5
  have HRs5 := Hid.mk' hR5
  have HKr := Hid.mk' (Rq.len_range hln)
  have HX := Hid.mk' hexit
  unfold Rq.goB at hof
  rw [hln] at hof
  simp only at hof
  have HOfB := Hid.mk' hof
  have HLb : Hid ((b.drop (q + sz2)).length = b.length - (q + sz2)) := List.length_drop
  obtain ⟨j0, hj0, hy0, hy1, hy2⟩ := info_parts info_u8
  have Hj := Hid.mk' hj0; have Hy0 := Hid.mk' hy0; have Hy1 := Hid.mk' hy1; have Hy2 := Hid.mk' hy2
  clear hj0 hy0 hy1 hy2 hb hB5 hR5 hln hexit hof
  conv => arg 2; whnf
  by_cases hk0 : 0 ≤ k
  · obtain ⟨kk, rfl⟩ := Int.eq_ofNat_of_zero_le hk0
    have t1 : decide ((kk : Int) ≥ 0) = true := decide_eq_true (by omega)
    have hk4 : kk ≤ 4000 := by rcases HKr.out with e | e <;> omega
    have hof2 := HOfB.out
    rw [if_pos hk0] at hof2
    by_cases hen : kk ≤ b.length - (q + sz2)
    · have t2 : decide ((b.length : Int) - ((q : Int) + sz2) ≥ kk) = true := decide_eq_true (by omega)
      rw [if_pos (by rw [HLb.out]; simpa using hen)] at hof2
      simp only [Int.toNat_natCast, List.drop_drop] at hof2
      have HOf3 : Hid (Rq.of b = ((es ++ [.head { h with length := (kk : Int) }]) ++ Rq.some_ ((b.drop (q + sz2)).take kk) ++ (Rq.rest (f' + 1) (b.drop (q + sz2 + kk)) true 0).1, (Rq.rest (f' + 1) (b.drop (q + sz2 + kk)) true 0).2)) := by
        unfold Hid
        rw [hof2]; simp
      clear hof2 HOfB hk0
      have HIs : Hid (∀ ao2 c2, c2 = cap - (q + sz2) → (cap ≠ q + sz2 → ao2 = some ⟨bb, oo + (q + sz2), none⟩) → IsB w5 ao2 c2 (((b.drop (q + sz2)).take kk))) := fun ao2 c2 hc ha => by
        subst hc
        have := (HB.out.stay HB5w.out).cut (ao' := ao2) (q + sz2) (q + sz2 + kk) (by omega) (by omega) (fun e => by rw [ha e]; simp [Addr.add_lit])
        rw [show q + sz2 + kk - (q + sz2) = kk by omega] at this
        exact this
      by_cases hac : cap = q + sz2
      · obtain rfl : kk = 0 := by omega
        subst hac
        go_wp2_with (at_builtin; refine wpList_append_b rfl (.tmp 136) (.tmp 142) 22 rfl w5.heap.size 5 j0 Tryz.underlying22 Hj.out Hy0.out Hy1.out Hy2.out (l := []) rfl rfl (OwnB.nil _ _ _) (l2 := (b.drop (q + sz2)).take 0) rfl (by rw [List.length_take, HLb.out]; omega) (HIs.out _ _ (by omega) (fun e => absurd rfl e)) (by omega) (Nat.le_refl _) ?_; intro bo6 bc6 w6 hO6 hG6; have HO6 := Hid.mk' hO6; have HG6 := Hid.mk' hG6; clear hO6 hG6)
        exact HX.out _ _ _ _ _ _ _ _ _ _ _ _ _ _ _ _ _ _ _ _ _ _ _ _ _ _ _ _ _ _ _ _ _ _ _ _ _ _ _ _ _ _ _ ⟨q + sz2 + 0, (b.drop (q + sz2)).take 0, bo6, bc6, true, 0, 0, by go_num, rfl, by simp, rfl, by simp, by omega, (fun _ _ => by omega), r3_own HRs5.out (by simpa using HO6.out) (grown_none HG6.out) HOf3.out⟩
      · go_wp2_with (at_builtin; refine wpList_append_b rfl (.tmp 136) (.tmp 142) 22 rfl w5.heap.size 5 j0 Tryz.underlying22 Hj.out Hy0.out Hy1.out Hy2.out (l := []) rfl rfl (OwnB.nil _ _ _) (l2 := (b.drop (q + sz2)).take kk) rfl (by rw [List.length_take, HLb.out]; omega) (HIs.out _ _ (by omega) (fun _ => by simp)) (by omega) (Nat.le_refl _) ?_; intro bo6 bc6 w6 hO6 hG6; have HO6 := Hid.mk' hO6; have HG6 := Hid.mk' hG6; clear hO6 hG6)
        exact HX.out _ _ _ _ _ _ _ _ _ _ _ _ _ _ _ _ _ _ _ _ _ _ _ _ _ _ _ _ _ _ _ _ _ _ _ _ _ _ _ _ _ _ _ ⟨q + sz2 + kk, (b.drop (q + sz2)).take kk, bo6, bc6, true, 0, kk, by go_num, rfl, by simp, rfl, by rw [List.length_take, HLb.out]; omega, by omega, (fun _ _ => by omega), r3_own HRs5.out (by simpa using HO6.out) (grown_none HG6.out) HOf3.out⟩
    · have t2 : decide ((b.length : Int) - ((q : Int) + sz2) ≥ kk) = false := decide_eq_false (by omega)
      rw [if_neg (by rw [HLb.out]; simpa using hen)] at hof2
      have HOf3 : Hid (Rq.of b = ((es ++ [.head { h with length := (kk : Int) }]) ++ Rq.some_ (b.drop (q + sz2)) ++ (Rq.rest (f' + 1) (b.drop b.length) false 0).1, (Rq.rest (f' + 1) (b.drop b.length) false 0).2)) := by
        unfold Hid
        rw [hof2, List.drop_length]; simp
      clear hof2 HOfB hk0
      have HIs : Hid (∀ ao2 c2, c2 = cap - (q + sz2) → (cap ≠ q + sz2 → ao2 = some ⟨bb, oo + (q + sz2), none⟩) → IsB w5 ao2 c2 (b.drop (q + sz2))) := fun ao2 c2 hc ha => by
        subst hc
        have := (HB.out.stay HB5w.out).cut (ao' := ao2) (q + sz2) b.length (by omega) (by omega) (fun e => by rw [ha e]; simp [Addr.add_lit])
        rw [List.take_of_length_le (by rw [HLb.out]; omega)] at this
        exact this
      by_cases hac : cap = q + sz2
      · have e1 : b.length = q + sz2 := by omega
        have e3 : b.length - (q + sz2) = 0 := by omega
        have hnil : b.drop (q + sz2) = [] := List.drop_eq_nil_of_le (by omega)
        have HOf4 := Hid.mk' HOf3.out
        rw [hnil] at HOf4
        have HE1 := Hid.mk' e1
        clear e1 hnil
        subst hac
        go_wp2
        exact HX.out _ _ _ _ _ _ _ _ _ _ _ _ _ _ _ _ _ _ _ _ _ _ _ _ _ _ _ _ _ _ _ _ _ _ _ _ _ _ _ _ _ _ _ ⟨b.length, [], none, 0, false, 0, 0, rfl, rfl, rfl, rfl, rfl, by have := HE1.out; omega, (fun _ _ => Nat.le_refl _), r3_own HRs5.out (OwnB.nil _ _ _) (Below.refl _ _) HOf4.out⟩
      · go_wp2_with (at_builtin; refine wpList_append_b rfl (.tmp 147) (.tmp 150) 22 rfl w5.heap.size 5 j0 Tryz.underlying22 Hj.out Hy0.out Hy1.out Hy2.out (l := []) rfl rfl (OwnB.nil _ _ _) (l2 := b.drop (q + sz2)) rfl HLb.out (HIs.out _ _ (by omega) (fun _ => by simp)) (by omega) (Nat.le_refl _) ?_; intro bo6 bc6 w6 hO6 hG6; have HO6 := Hid.mk' hO6; have HG6 := Hid.mk' hG6; clear hO6 hG6)
        exact HX.out _ _ _ _ _ _ _ _ _ _ _ _ _ _ _ _ _ _ _ _ _ _ _ _ _ _ _ _ _ _ _ _ _ _ _ _ _ _ _ _ _ _ _ ⟨b.length, b.drop (q + sz2), bo6, bc6, false, 0, b.length - (q + sz2), rfl, rfl, by simp, rfl, HLb.out.symm, by omega, (fun _ _ => Nat.le_refl _), r3_own HRs5.out (by simpa using HO6.out) (grown_none HG6.out) HOf3.out⟩
  · obtain rfl : k = -1 := by rcases HKr.out with e | e <;> omega
    have t1 : decide ((-1 : Int) ≥ 0) = false := by decide
    have hof2 := HOfB.out
    rw [if_neg hk0, List.drop_drop] at hof2
    have HOf3 : Hid (Rq.of b = ((es ++ [.head { h with length := -1 }]) ++ Rq.some_ (Ck.of (b.drop (q + sz2))).body ++ (Rq.rest (f' + 1) (b.drop (q + sz2 + (Ck.of (b.drop (q + sz2))).used)) (Ck.of (b.drop (q + sz2))).over (Ck.of (b.drop (q + sz2))).code).1, (Rq.rest (f' + 1) (b.drop (q + sz2 + (Ck.of (b.drop (q + sz2))).used)) (Ck.of (b.drop (q + sz2))).over (Ck.of (b.drop (q + sz2))).code).2)) := by
      unfold Hid
      rw [hof2]; simp
    have HUs : Hid ((Ck.of (b.drop (q + sz2))).over = true → (Ck.of (b.drop (q + sz2))).code = 0 → q + sz2 + (Ck.of (b.drop (q + sz2))).used ≤ b.length) := fun _ _ => by
      have := Ck.used_of (b.drop (q + sz2))
      rw [HLb.out] at this
      omega
    have hus := Ck.used_of (b.drop (q + sz2))
    rw [HLb.out] at hus
    have HCh : Hid (∀ ao2 c2, c2 = cap - (q + sz2) → (cap ≠ q + sz2 → ao2 = some ⟨bb, oo + (q + sz2), none⟩) → Calls Tryz.prog 44 #[.slice ao2 (b.length - (q + sz2)) c2] w5 fun e w' => ChOwn w5 (b.drop (q + sz2)) e w') := fun ao2 c2 hc ha => by
      subst hc
      have := (HB.out.stay HB5w.out).cut (ao' := ao2) (q + sz2) b.length (by omega) (by omega) (fun e => by rw [ha e]; simp [Addr.add_lit])
      rw [List.take_of_length_le (by rw [HLb.out]; omega)] at this
      have h2 := chunksOf_own (b.drop (q + sz2)) ao2 (cap - (q + sz2)) w5 this (by rw [HLb.out]; omega)
      rw [HLb.out] at h2
      exact h2
    clear hof2 HOfB hk0
    by_cases hac : cap = q + sz2
    · have e3 : b.length - (q + sz2) = 0 := by omega
      have HC1 := Hid.mk' (HCh.out (some ⟨bb, oo, none⟩) 0 (by omega) (fun e => absurd hac e))
      rw [e3] at HC1
      unfold ChOwn at HC1
      generalize Ck.of (b.drop (q + sz2)) = C at *
      subst hac
      go_wp2_with fail
      refine HC1.out.mono ?_
      rintro e w6 ⟨bo6, bc6, rfl, hO6, hb6⟩
      have HO6 := Hid.mk' hO6; have HB6 := Hid.mk' hb6
      clear hO6 hb6
      go_wp2
      exact HX.out _ _ _ _ _ _ _ _ _ _ _ _ _ _ _ _ _ _ _ _ _ _ _ _ _ _ _ _ _ _ _ _ _ _ _ _ _ _ _ _ _ _ _ ⟨q + sz2 + C.used, C.body, bo6, bc6, C.over, C.code, C.body.length, by go_num, rfl, rfl, rfl, rfl, by omega, HUs.out, r3_own HRs5.out HO6.out HB6.out HOf3.out⟩
    · have HC1 := Hid.mk' (HCh.out (some ⟨bb, oo + (q + sz2), none⟩) (cap - (q + sz2)) rfl (fun _ => rfl))
      unfold ChOwn at HC1
      generalize Ck.of (b.drop (q + sz2)) = C at *
      go_wp2_with fail
      refine HC1.out.mono ?_
      rintro e w6 ⟨bo6, bc6, rfl, hO6, hb6⟩
      have HO6 := Hid.mk' hO6; have HB6 := Hid.mk' hb6
      clear hO6 hb6
      go_wp2
      exact HX.out _ _ _ _ _ _ _ _ _ _ _ _ _ _ _ _ _ _ _ _ _ _ _ _ _ _ _ _ _ _ _ _ _ _ _ _ _ _ _ _ _ _ _ ⟨q + sz2 + C.used, C.body, bo6, bc6, C.over, C.code, C.body.length, by go_num, rfl, rfl, rfl, rfl, by omega, HUs.out, r3_own HRs5.out HO6.out HB6.out HOf3.out⟩
end Go.Proofs.YtkafbifogdoneacGreatDoor

/- The document's own answer, walked: Requests of no bytes. -/
namespace Go.Proofs.YtkafbifogdoneacGreatDoor
open Go.RowKit

set_option maxRecDepth 100000 in
set_option maxHeartbeats 1600000 in
theorem requests_none (ab : Option Addr) (cap : Nat) (w : World) (hb : IsB w ab cap []) :
    Calls Tryz.prog 13 #[.slice ab 0 cap] w fun e w' => ∃ a2 c2, e = .returned (.tuple #[.slice a2 (Rq.of []).1.length c2, .bool (Rq.of []).2]) ∧ IsEs w' a2 c2 ((Rq.of []).1.map Rq.Ev.d) ∧ Below w.heap.size w w' := by
  have hn := hb.2.1
  clear hb
  have HB : Hid (Below w.heap.size w (w.alloc (.cells #[.slice none 0 0] 26))) := (Below.refl _ _).alloc (Nat.le_refl _) _
  have x0 : (w.alloc (.cells #[.slice none 0 0] 26)).cell? ⟨w.heap.size, 0, none⟩ = some (.slice none 0 0) := World.cell?_alloc_mark w _ _ _ 0
  by_cases hc : cap = 0
  · subst hc
    go_enter Tryz.func13, Tryz.ntmps13
    go_wp2
    refine wp_loop_rounds 1 ?_
    rw [rounds_succ]
    go_wp2_with fail
    refine (lineNone _ _ (fun _ => rfl) _).mono ?_
    rintro e w1 ⟨rfl, hw⟩
    subst hw
    go_wp2
    (try simp only [Exit.inBlock, Exit.then])
    go_ret2
    exact ⟨none, 0, rfl, IsEs.nil _, HB.out⟩
  · obtain ⟨a, rfl⟩ : ∃ a, ab = some a := by
      cases ab with
      | none => exact absurd (hn rfl) hc
      | some a => exact ⟨a, rfl⟩
    clear hn
    go_enter Tryz.func13, Tryz.ntmps13
    go_wp2
    refine wp_loop_rounds 1 ?_
    rw [rounds_succ]
    go_wp2_with fail
    refine (lineNone _ _ (fun e => by cases e) _).mono ?_
    rintro e w1 ⟨rfl, hw⟩
    subst hw
    go_wp2
    (try simp only [Exit.inBlock, Exit.then])
    go_ret2
    exact ⟨none, 0, rfl, IsEs.nil _, HB.out⟩
end Go.Proofs.YtkafbifogdoneacGreatDoor
