/- Package request, walked: Write, where nothing but its fields' texts may tell a code. -/
import Derived.Test.YtkbeaehjagdnnacGreatDoorPk28
import Derived.Test.YtkbeaehjagdnnacGreatDoorPk8
import Derived.Deep.DeepCutAuto
namespace Go.Proofs.YtkbeaehjagdnnacGreatDoor
open Go.RowKit

theorem buf_ne {w : World} {base g cap : Nat} {l : List UInt8} (h : Buf w base g cap l) (hl : l ≠ []) {b : Nat} {s : ByteArray} (hc : w.cell? ⟨b, 0, none⟩ = some (.string s)) : b ≠ g := by
  rintro rfl
  cases l with
  | nil => exact hl rfl
  | cons c r =>
    have := h.holds 0 _ (byteV_at (c :: r) 0 (by simp))
    rw [hc] at this
    cases this
/-- what is appended: bytes that are read -/
theorem src_bytes {P : Program} {tx e' : TypeId} (hk : P.underlying tx = some (.slice e')) {w : World} {ao : Option Addr} {cap n : Nat} {l : List UInt8} (h : IsB w ao cap l) (hn : l.length = n) : Src P 1 tx (.slice ao n cap) n (byteV l) w := by
  subst hn
  cases ao with
  | none =>
    obtain ⟨rfl, rfl⟩ := h.none_nil
    exact Src.ofNil _ hk 0
  | some a =>
    refine Src.ofSlice _ hk a _ cap _ (by rw [byteV_length]; omega) (fun j u hu => ?_) (byteV_one l)
    have hj : j < l.length := by
      have := (List.getElem?_eq_some_iff.1 hu).1
      rwa [byteV_length] at this
    rw [byteV_at l j hj] at hu
    injection hu with hu; subst hu
    exact h.cell j hj
theorem one_pair (x y : ByteArray) : ∀ u ∈ ([.string x, .string y] : List Value), u.oneCell' = true := fun u hu => by simp at hu; rcases hu with rfl | rfl <;> rfl
theorem new_pair (W : World) (x y : ByteArray) (t : Nat) {k : Nat} (hk : W.heap.size = k) : ∀ j u, ([.string x, .string y] : List Value)[j]? = some u → (W.alloc (.cells #[.string x, .string y] t)).cell? (Addr.add ⟨k, 0, none⟩ j) = some u := fun j u hu => by
  rw [Addr.add_lit, Nat.zero_add, World.cell?_alloc_at _ _ _ _ hk.symm, List.getElem?_toArray]; exact hu
theorem old_pair {wb w5 : World} {x y : ByteArray} {t : Nat} (h : Below (wb.alloc (.cells #[.string x, .string y] t)).drew.heap.size (wb.alloc (.cells #[.string x, .string y] t)).drew w5) : ∀ j u, ([.string x, .string y] : List Value)[j]? = some u → w5.cell? (Addr.add ⟨wb.heap.size, 0, none⟩ j) = some u := fun j u hu => by
  have h1 := new_pair wb x y t rfl j u hu
  have h2 : (wb.alloc (.cells #[.string x, .string y] t)).drew.cell? (Addr.add ⟨wb.heap.size, 0, none⟩ j) = some u := h1
  exact (h.cell (World.block_lt_of_cell? _ _ h2)).trans h2
theorem clone_grown {wb W w6 : World} {base t : Nat} {ao : Option Addr} {cap n : Nat} {xs : List Value} {w5 : World} (hB : Below wb.heap.size wb W) (hO : OwnV w5 base t 2 ao cap n xs) (hG : W.grownBy w6 (Value.slice ao n cap).ownBlock) (hz : wb.heap.size ≤ base) : Below wb.heap.size wb w6 :=
  hB.grown hG hB.size (fun q e => by
    rw [ownBlock_slice] at e
    cases ao with
    | none => cases e
    | some a => injection e with e; subst e; have := (hO.block a rfl).1; omega)
/-- a body that was handed in stays by an append to new memory -/
theorem body_stays {w wr w7 : World} {bo : Option Addr} {bcap g : Nat} {body : List UInt8} (h0 : IsB w bo bcap body) (h : IsB wr bo bcap body) (hT : Turns (fun k => k = g) wr w7) (hg : w.heap.size ≤ g) : IsB w7 bo bcap body := by
  by_cases hbn : body = []
  · subst hbn; exact IsB.empty _ h
  · refine h.turns hT (fun a e e2 => ?_)
    subst e
    have h3 := World.block_lt_of_cell? w _ (h0.cell 0 (List.length_pos_iff.2 hbn))
    rw [add_block] at h3
    omega
/-- what the loop over the fields keeps -/
structure WrRel (w : World) (gf capf : Nat) (FT : List (ByteArray × ByteArray)) (sx : List UInt8) (bo : Option Addr) (bcap : Nat) (body : List UInt8) (i g cap n : Nat) (wr : World) : Prop where
  buf : Buf wr w.heap.size g cap (sx ++ (FT.take i).flatMap Rq.lineT)
  len : (sx ++ (FT.take i).flatMap Rq.lineT).length = n
  zero : ∀ p ∈ FT.take i, (Fd.text p.1.data.toList p.2.data.toList).2 = 0
  row : IsV wr (some ⟨gf, 0, none⟩) capf FT.length (pairV FT)
  body : IsB wr bo bcap body
  below : Below w.heap.size w wr
theorem line_le (p : ByteArray × ByteArray) (h : p.1.size ≤ 2000 ∧ p.2.size ≤ 2000) : (Rq.lineT p).length ≤ 4004 := by
  have h1 := Fd.text_length p.1.data.toList p.2.data.toList
  have e1 : p.1.data.toList.length = p.1.size := by rw [Array.length_toList]; rfl
  have e2 : p.2.data.toList.length = p.2.size := by rw [Array.length_toList]; rfl
  unfold Rq.lineT
  rw [List.length_append]; simp; omega
theorem lines_le : ∀ (l : List (ByteArray × ByteArray)), (∀ p ∈ l, p.1.size ≤ 2000 ∧ p.2.size ≤ 2000) → (l.flatMap Rq.lineT).length ≤ 4004 * l.length
  | [], _ => by simp
  | p :: r, h => by
    have h1 := line_le p (h p (List.mem_cons_self ..))
    have h2 := lines_le r (fun q hq => h q (List.mem_cons_of_mem _ hq))
    rw [List.flatMap_cons, List.length_append, List.length_cons]; omega

set_option maxRecDepth 100000 in
set_option maxHeartbeats 4000000 in
theorem write_fine (w : World) (m t ds : ByteArray) (mi ln : Int) (l : List (ByteArray × ByteArray)) (fo bo : Option Addr) (fcap nf bcap nb : Nat) (body : List UInt8) (hl : IsV w fo fcap nf (pairV l)) (hn : l.length = nf) (hN : nf ≤ 1000000) (hs : ∀ p ∈ l, p.1.size ≤ 2000 ∧ p.2.size ≤ 2000) (hm : m.size + t.size ≤ 10000) (hb : body.length = nb) (hBd : IsB w bo bcap body)
    (hI : ∀ W, Below w.heap.size w W → Calls Tryz.prog 38 #[.int .i64 (nb : Int)] W fun e w' => e = .returned (.string ds) ∧ Below W.heap.size W w') (hds : ds.data.toList = Ch.decF 8 nb)
    (hF : Rq.faultN (Ch.isToken m.data.toList) (Rq.isTarget t.data.toList) (m.data.toList.length + t.data.toList.length + 10) nb nf (Fd.vals bSize l).length (Fd.vals bCode l).length (Fd.vals bHost l).length = 0) :
    Calls Tryz.prog 15 #[.agg #[.string m, .string t, .int .i64 mi, .slice fo nf fcap, .int .i64 ln], .slice bo nb bcap] w fun e w' => WrOut w (Rq.hdT m t l) body e w' := by
  subst hn; subst hb
  have hl2 : ∀ s : ByteArray, s.data.toList.length = s.size := fun s => by rw [Array.length_toList]; rfl
  obtain ⟨hb4, h15, hT⟩ := (Rq.text_by m t l body _ rfl).2 hF
  have hb0 : Below w.heap.size w (w.alloc (.cells #[.string m, .string t, .int .i64 mi, .slice fo l.length fcap, .int .i64 ln] 25)) := (Below.refl _ _).alloc (Nat.le_refl _) _
  have hb1 : Below w.heap.size w ((w.alloc (.cells #[.string m, .string t, .int .i64 mi, .slice fo l.length fcap, .int .i64 ln] 25)).alloc (.cells #[.string m, .string t, .string ⟨#[72, 84, 84, 80, 47, 49, 46, 49]⟩] 9)) := hb0.trans ((Below.refl _ _).alloc hb0.size _)
  have HJ := Hid.mk' (join_three m t ⟨#[72, 84, 84, 80, 47, 49, 46, 49]⟩ (w.heap.size + 1) ((w.alloc (.cells #[.string m, .string t, .int .i64 mi, .slice fo l.length fcap, .int .i64 ln] 25)).alloc (.cells #[.string m, .string t, .string ⟨#[72, 84, 84, 80, 47, 49, 46, 49]⟩] 9)) (by rw [World.cell?_alloc_at _ _ _ _ (by simp)]; rfl) (by rw [World.cell?_alloc_at _ _ _ _ (by simp)]; rfl) (by rw [World.cell?_alloc_at _ _ _ _ (by simp)]; rfl) (by show m.size + t.size + 8 ≤ _; omega))
  have hfs : (⟨(m.data.toList ++ 32 :: (t.data.toList ++ 32 :: (⟨#[72, 84, 84, 80, 47, 49, 46, 49]⟩ : ByteArray).data.toList)).toArray⟩ : ByteArray).size = m.data.toList.length + t.data.toList.length + 10 := by
    show (m.data.toList ++ 32 :: (t.data.toList ++ 32 :: [72, 84, 84, 80, 47, 49, 46, 49])).toArray.size = _
    rw [List.size_toArray]; simp; omega
  have hfd : (⟨(m.data.toList ++ 32 :: (t.data.toList ++ 32 :: (⟨#[72, 84, 84, 80, 47, 49, 46, 49]⟩ : ByteArray).data.toList)).toArray⟩ : ByteArray).data.toList = m.data.toList ++ 32 :: (t.data.toList ++ 32 :: Rq.v11) := rfl
  generalize (⟨(m.data.toList ++ 32 :: (t.data.toList ++ 32 :: (⟨#[72, 84, 84, 80, 47, 49, 46, 49]⟩ : ByteArray).data.toList)).toArray⟩ : ByteArray) = first at HJ hfs hfd
  have HFl := Hid.mk' (fun W (hW : Below w.heap.size w W) => fault_any W m t first mi ln l fo bo fcap l.length body.length bcap (hl.stay hW) rfl hN hs (by omega) (by omega))
  simp only [hfs] at HFl
  have hcx : ∀ j, j < 5 → (w.alloc (.cells #[.string m, .string t, .int .i64 mi, .slice fo l.length fcap, .int .i64 ln] 25)).cell? ⟨w.heap.size, j, none⟩ = (#[Value.string m, .string t, .int .i64 mi, .slice fo l.length fcap, .int .i64 ln] : Array Value)[j]? := fun j _ => World.cell?_alloc_mark w _ _ _ j
  have HX : Hid (∀ W, Below (w.alloc (.cells #[.string m, .string t, .int .i64 mi, .slice fo l.length fcap, .int .i64 ln] 25)).heap.size (w.alloc (.cells #[.string m, .string t, .int .i64 mi, .slice fo l.length fcap, .int .i64 ln] 25)) W → W.cell? ⟨w.heap.size, 0, none⟩ = some (.string m) ∧ W.cell? ⟨w.heap.size, 1, none⟩ = some (.string t) ∧ W.cell? ⟨w.heap.size, 2, none⟩ = some (.int .i64 mi) ∧ W.cell? ⟨w.heap.size, 3, none⟩ = some (.slice fo l.length fcap) ∧ W.cell? ⟨w.heap.size, 4, none⟩ = some (.int .i64 ln)) := fun W hW =>
    ⟨(hW.cell (p := ⟨w.heap.size, 0, none⟩) (by simp)).trans (hcx 0 (by omega)), (hW.cell (p := ⟨w.heap.size, 1, none⟩) (by simp)).trans (hcx 1 (by omega)), (hW.cell (p := ⟨w.heap.size, 2, none⟩) (by simp)).trans (hcx 2 (by omega)), (hW.cell (p := ⟨w.heap.size, 3, none⟩) (by simp)).trans (hcx 3 (by omega)), (hW.cell (p := ⟨w.heap.size, 4, none⟩) (by simp)).trans (hcx 4 (by omega))⟩
  have HT := Hid.mk' hT; have HB1 := Hid.mk' hb1
  rw [hF] at HFl
  have hcl := Rq.cl_text body.length hb4
  have hdl : ds.size ≤ 2000 := by
    have := Ch.decF_length 8 body.length
    rw [← hl2, hds]; omega
  have hfT : ∀ p ∈ l ++ [((⟨#[67, 111, 110, 116, 101, 110, 116, 45, 76, 101, 110, 103, 116, 104]⟩ : ByteArray), ds)], p.1.size ≤ 2000 ∧ p.2.size ≤ 2000 := fun p hp => by
    rcases List.mem_append.1 hp with hp | hp
    · exact hs p hp
    · simp at hp; subst hp; exact ⟨by show (14 : Nat) ≤ 2000; omega, hdl⟩
  have HFT := Hid.mk' hfT
  have HI := Hid.mk' hI
  have HCl := Hid.mk' (fun W (hW : Below w.heap.size w W) => cloneFields_any l fo fcap l.length W (hl.stay hW) rfl hN)
  have HBd := Hid.mk' hBd
  have HEnd : Hid (ds.data.toList = Ch.decF 8 body.length ∧ (Fd.text Rq.nCL (Ch.decF 8 body.length)).2 = 0 ∧ (Fd.text Rq.nCL (Ch.decF 8 body.length)).1 = Rq.nCL ++ [58, 32] ++ Ch.decF 8 body.length) := ⟨hds, hcl.1, hcl.2⟩
  have HFd := Hid.mk' hfd
  have hf200 : first.size ≤ 10010 := by have := hl2 m; have := hl2 t; omega
  obtain ⟨i0, hi0, hz0, hz1, hz2⟩ := info_parts info_fld
  have Hi := Hid.mk' hi0; have Hz0 := Hid.mk' hz0; have Hz1 := Hid.mk' hz1; have Hz2 := Hid.mk' hz2
  obtain ⟨j0, hj0, hy0, hy1, hy2⟩ := info_parts info_u8
  have Hj := Hid.mk' hj0; have Hy0 := Hid.mk' hy0; have Hy1 := Hid.mk' hy1; have Hy2 := Hid.mk' hy2
  clear hi0 hz0 hz1 hz2 hj0 hy0 hy1 hy2 hl hs hT hb0 hb1 hcx hfs hF hl2 hcl hfT hI hds hBd hfd
  go_enter Tryz.func15, Tryz.ntmps15
  go_wp2_with fail
  refine HJ.out.mono ?_
  rintro e w1 ⟨rfl, hb⟩
  have hB1 := HB1.out.trans (hb.mono (by simp; omega))
  have hBb : Below (w.alloc (.cells #[.string m, .string t, .int .i64 mi, .slice fo l.length fcap, .int .i64 ln] 25)).heap.size (w.alloc (.cells #[.string m, .string t, .int .i64 mi, .slice fo l.length fcap, .int .i64 ln] 25)) w1 := ((Below.refl _ _).alloc (Nat.le_refl _) _).trans (hb.mono (by simp))
  obtain ⟨x0, x1, x2, x3, x4⟩ := HX.out w1 hBb
  have HBw := Hid.mk' hB1
  clear hb hB1 hBb
  go_wp2_with fail
  refine (HFl.out w1 HBw.out).mono ?_
  rintro e w2 ⟨rfl, hb2⟩
  have HB2 := Hid.mk' (then_ HBw.out hb2)
  have x3b := (hb2.cell (World.block_lt_of_cell? w1 _ x3)).trans x3
  clear hb2 x0 x1 x2 x4 x3
  go_wp2_with fail
  refine (HI.out w2 HB2.out).mono ?_
  rintro e w3 ⟨rfl, hb3⟩
  have hB3 := then_ HB2.out hb3
  have hB4 : Below w.heap.size w (w3.alloc (.cells #[.string ⟨#[67, 111, 110, 116, 101, 110, 116, 45, 76, 101, 110, 103, 116, 104]⟩, .string ds] 51)) := hB3.trans ((Below.refl _ _).alloc hB3.size _)
  obtain ⟨capb, wb, hconv, hbb, hbuf⟩ := buf_of (P := Tryz.prog) (w3.alloc (.cells #[.string ⟨#[67, 111, 110, 116, 101, 110, 116, 45, 76, 101, 110, 103, 116, 104]⟩, .string ds] 51)) (first ++ ⟨#[13, 10]⟩) 9 22 5 (by rw [ByteArray.size_append]; show first.size + 2 ≤ _; unfold maxLen; omega) Tryz.underlying9 Tryz.underlying22 Tryz.underlying5
  have hz4 : (w3.alloc (.cells #[.string ⟨#[67, 111, 110, 116, 101, 110, 116, 45, 76, 101, 110, 103, 116, 104]⟩, .string ds] 51)).heap.size = w3.heap.size + 1 := by simp
  rw [hz4] at hconv hbb hbuf
  have hBb : Below w.heap.size w wb := hB4.trans (hbb.mono (by have := hB3.size; omega))
  have x3c := (hb3.cell (World.block_lt_of_cell? w2 _ x3b)).trans x3b
  have x3d : (w3.alloc (.cells #[.string ⟨#[67, 111, 110, 116, 101, 110, 116, 45, 76, 101, 110, 103, 116, 104]⟩, .string ds] 51)).cell? ⟨w.heap.size, 3, none⟩ = some (.slice fo l.length fcap) := (((Below.refl _ _).alloc (Nat.le_refl _) _).cell (World.block_lt_of_cell? w3 _ x3c)).trans x3c
  have y3 : wb.cell? ⟨w.heap.size, 3, none⟩ = some (.slice fo l.length fcap) := (hbb.cell (by have := World.block_lt_of_cell? w3 _ x3c; simp at this ⊢; omega)).trans x3d
  have y0 : wb.cell? ⟨w3.heap.size, 0, none⟩ = some (.string ⟨#[67, 111, 110, 116, 101, 110, 116, 45, 76, 101, 110, 103, 116, 104]⟩) := (hbb.cell (p := ⟨w3.heap.size, 0, none⟩) (by simp)).trans (World.cell?_alloc_mark w3 _ _ _ 0)
  have y1 : wb.cell? ⟨w3.heap.size, 1, none⟩ = some (.string ds) := (hbb.cell (p := ⟨w3.heap.size, 1, none⟩) (by simp)).trans (World.cell?_alloc_mark w3 _ _ _ 1)
  have hdt : (first ++ ⟨#[13, 10]⟩ : ByteArray).data.toList = first.data.toList ++ [13, 10] := by rw [Ch.data_append]
  have hsz : (first ++ ⟨#[13, 10]⟩ : ByteArray).size = first.size + 2 := by rw [ByteArray.size_append]; rfl
  have hwz : w.heap.size ≤ w3.heap.size + 1 := by have := hB3.size; omega
  rw [hdt] at hbuf
  rw [hsz] at hconv
  have HBuf : Hid (Buf wb w.heap.size (w3.heap.size + 1) capb (first.data.toList ++ [13, 10])) := ⟨hwz, hbuf.lt, hbuf.le, hbuf.max, hbuf.holds, hbuf.there⟩
  have HBb := Hid.mk' hBb
  have HSt : Hid (∀ W, Below wb.heap.size wb W → W.cell? ⟨w.heap.size, 3, none⟩ = some (.slice fo l.length fcap) ∧ W.cell? ⟨w3.heap.size, 0, none⟩ = some (.string ⟨#[67, 111, 110, 116, 101, 110, 116, 45, 76, 101, 110, 103, 116, 104]⟩) ∧ W.cell? ⟨w3.heap.size, 1, none⟩ = some (.string ds)) := fun W hW =>
    ⟨(hW.cell (World.block_lt_of_cell? wb _ y3)).trans y3, (hW.cell (World.block_lt_of_cell? wb _ y0)).trans y0, (hW.cell (World.block_lt_of_cell? wb _ y1)).trans y1⟩
  clear hb3 hB3 hB4 hbb hbuf hz4 hBb x3b x3c x3d hdt hsz hwz
  go_upto_region 7 with fail
  go_cut [39, 40, 41] (fun v39 v40 v41 wd => ∃ gf capf, v39 = .slice (some ⟨gf, 0, none⟩) (l.length + 1) capf ∧ v40 = .int .i64 ((l.length : Int) + 1) ∧ v41 = .int .i64 0 ∧ OwnV wd 0 51 2 (some ⟨gf, 0, none⟩) capf (l.length + 1) (pairV (l ++ [((⟨#[67, 111, 110, 116, 101, 110, 116, 45, 76, 101, 110, 103, 116, 104]⟩ : ByteArray), ds)])) ∧ Below wb.heap.size wb wd)
  case first =>
    have d1 : Below w.heap.size w wb.drew := HBb.out.trans (below_drew _ _)
    have d2 : Below w.heap.size w (wb.alloc (.cells #[.string ⟨#[67, 111, 110, 116, 101, 110, 116, 45, 76, 101, 110, 103, 116, 104]⟩, .string ds] 51)).drew := (HBb.out.trans ((Below.refl _ _).alloc HBb.out.size _)).trans (below_drew _ _)
    have HB1' : Hid (Below wb.heap.size wb wb.drew) := below_drew _ _
    have HB2' : Hid (Below wb.heap.size wb (wb.alloc (.cells #[.string ⟨#[67, 111, 110, 116, 101, 110, 116, 45, 76, 101, 110, 103, 116, 104]⟩, .string ds] 51)).drew) := ((Below.refl _ _).alloc (Nat.le_refl _) _).trans (below_drew _ _)
    have HN1 : Hid (l.length + 1 ≤ maxLen ∧ (l.length + 1) * 32 ≤ 140737488355328) := ⟨by unfold maxLen; omega, by omega⟩
    have HD1 := Hid.mk' d1; have HD2 := Hid.mk' d2
    clear d1 d2
    go_region_held_law (fun w' => w'.cell? ⟨w.heap.size, 3, none⟩ = some (.slice fo l.length fcap) ∧ w'.cell? ⟨w3.heap.size, 0, none⟩ = some (.string ⟨#[67, 111, 110, 116, 101, 110, 116, 45, 76, 101, 110, 103, 116, 104]⟩) ∧ w'.cell? ⟨w3.heap.size, 1, none⟩ = some (.string ds)) (first | go_keep | exact HK6.out | exact HK5.out | exact HKA.out) (first
      | (refine step_append_lies _ (by rfl) _ _ _ (by rfl) 0 51 i0 (.agg #[.string ⟨#[]⟩, .string ⟨#[]⟩]) 2 32 Tryz.underlying23 Hi.out Hz0.out Hz1.out Hz2.out (by rfl) (by decide) (.slice ao5 l.length cap5) l.length (pairV l) (by rfl) ((HO5.out.mono (Nat.zero_le _)).alloc _) ⟨w5.heap.size, 0, none⟩ 1 1 [.string ⟨#[67, 111, 110, 116, 101, 110, 116, 45, 76, 101, 110, 103, 116, 104]⟩, .string ds] (by rfl) (by rfl) (new_pair _ _ _ _ rfl) (one_pair _ _) (by decide) HN1.out.1 HN1.out.2 (Nat.zero_le _) (w5.heap.size + 1) (by simp) ?_; intro g6 cap6 w6 hown6 hgrow hat6 hlt6; have HO6 := Hid.mk' hown6; have HB6 := Hid.mk' (clone_grown (HB5.out.trans ((Below.refl _ _).alloc HB5.out.size _)) HO5.out hgrow HZ5.out); have HK6 := Hid.mk' (HSt.out w6 HB6.out); clear hown6 hgrow hat6 hlt6; (try simp only [Act.put, List.getElem_toArray, List.getElem_cons_succ, List.getElem_cons_zero, List.setIfInBounds_toArray, List.set_cons_zero, List.set_cons_succ]))
      | (refine step_append_lies _ (by rfl) _ _ _ (by rfl) 0 51 i0 (.agg #[.string ⟨#[]⟩, .string ⟨#[]⟩]) 2 32 Tryz.underlying23 Hi.out Hz0.out Hz1.out Hz2.out (by rfl) (by decide) (.slice ao5 l.length cap5) l.length (pairV l) (by rfl) (HO5.out.mono (Nat.zero_le _)) ⟨wb.heap.size, 0, none⟩ 1 1 [.string ⟨#[67, 111, 110, 116, 101, 110, 116, 45, 76, 101, 110, 103, 116, 104]⟩, .string ds] (by rfl) (by rfl) HNB.out (one_pair _ _) (by decide) HN1.out.1 HN1.out.2 (Nat.zero_le _) w5.heap.size (by rfl) ?_; intro g6 cap6 w6 hown6 hgrow hat6 hlt6; have HO6 := Hid.mk' hown6; have HB6 := Hid.mk' (clone_grown (HB5.out) HO5.out hgrow HZ5.out); have HK6 := Hid.mk' (HSt.out w6 HB6.out); clear hown6 hgrow hat6 hlt6; (try simp only [Act.put, List.getElem_toArray, List.getElem_cons_succ, List.getElem_cons_zero, List.setIfInBounds_toArray, List.set_cons_zero, List.set_cons_succ]))
      | (go_at_call 39; refine (HCl.out _ HD2.out).mono ?_; rintro e w5 ⟨ao5, cap5, rfl, hO5, hB5⟩; have HO5 := Hid.mk' hO5; have HB5 := Hid.mk' (HB2'.out.trans (hB5.mono (by simp))); have HZ5 : Hid (wb.heap.size ≤ (wb.alloc (.cells #[.string ⟨#[67, 111, 110, 116, 101, 110, 116, 45, 76, 101, 110, 103, 116, 104]⟩, .string ds] 51)).drew.heap.size) := HB2'.out.size; have HK5 := Hid.mk' (HSt.out w5 HB5.out); have HNB := Hid.mk' (old_pair hB5); clear hO5 hB5)
      | (go_at_call 39; refine (HCl.out _ HD1.out).mono ?_; rintro e w5 ⟨ao5, cap5, rfl, hO5, hB5⟩; have HO5 := Hid.mk' hO5; have HB5 := Hid.mk' (HB1'.out.trans (hB5.mono (Nat.le_refl _))); have HZ5 : Hid (wb.heap.size ≤ wb.drew.heap.size) := HB1'.out.size; have HK5 := Hid.mk' (HSt.out w5 HB5.out); have HKA := Hid.mk' (HSt.out _ (HB5.out.trans ((Below.refl _ w5).alloc HB5.out.size (.cells #[.string ⟨#[67, 111, 110, 116, 101, 110, 116, 45, 76, 101, 110, 103, 116, 104]⟩, .string ds] 51)))); clear hO5 hB5))
    all_goals (go_wp2; go_meet; exact ⟨g6, cap6, rfl, rfl, rfl, by rw [pairV_append]; exact HO6.out, HB6.out⟩)
  case rest =>
    obtain ⟨gf, capf, rfl, rfl, rfl, hO6, hB6⟩ := hcut
    have hfl : (l ++ [((⟨#[67, 111, 110, 116, 101, 110, 116, 45, 76, 101, 110, 103, 116, 104]⟩ : ByteArray), ds)]).length = l.length + 1 := by simp
    have hfz : first.data.toList.length = first.size := by rw [Array.length_toList]; rfl
    have hR0 : WrRel w gf capf (l ++ [((⟨#[67, 111, 110, 116, 101, 110, 116, 45, 76, 101, 110, 103, 116, 104]⟩ : ByteArray), ds)]) (first.data.toList ++ [13, 10]) bo bcap body 0 (w3.heap.size + 1) capb (first.size + 2) wc :=
      ⟨by simpa using HBuf.out.keep hB6, by simp [hfz], fun p hp => by simp at hp, by rw [hfl]; exact hO6.isV, HBd.out.stay (HBb.out.trans (hB6.mono HBb.out.size)), HBb.out.trans (hB6.mono HBb.out.size)⟩
    have HR0 := Hid.mk' hR0
    have HFl2 := Hid.mk' hfl
    obtain ⟨FT, hFT⟩ : ∃ FT, l ++ [((⟨#[67, 111, 110, 116, 101, 110, 116, 45, 76, 101, 110, 103, 116, 104]⟩ : ByteArray), ds)] = FT := ⟨_, rfl⟩
    rw [hFT] at HR0 HFl2 HFT
    have HFe := Hid.mk' hFT
    clear hR0 hO6 hB6 HSt HBb y0 y1 y3 hconv hfl HCl HI HFl HX HJ hFT
    go_wp2
    go_loopw [9, 41] (fun vo vi wr => ∃ (i n g cap : Nat), i ≤ l.length + 1 ∧ vi = .int .i64 i ∧ vo = .slice (some ⟨g, 0, none⟩) n cap ∧ WrRel w gf capf FT (first.data.toList ++ [13, 10]) bo bcap body i g cap n wr) (fun _ vi _ => l.length + 1 - (intOf vi).toNat)
    case atStart => exact ⟨0, _, _, _, Nat.zero_le _, rfl, rfl, HR0.out⟩
    case round =>
      obtain ⟨i, n, g, cap, hi, rfl, rfl, hR⟩ := hrel
      have HR := Hid.mk' hR
      have hacc := lines_le (FT.take i) (fun p hp => HFT.out p (List.mem_of_mem_take hp))
      have hnl : n ≤ 200000 := by
        have := hR.len
        rw [List.length_append, List.length_append] at this
        have h2 : (FT.take i).length ≤ 16 := by rw [List.length_take, HFl2.out]; omega
        have h3 : ([13, 10] : List UInt8).length = 2 := rfl
        rw [h3, hfz] at this
        omega
      clear hR HR0 hacc
      by_cases hlt : i < l.length + 1
      · have hlt' : (i : Int) < (l.length : Int) + 1 := by omega
        have hiF : i < FT.length := by rw [HFl2.out]; exact hlt
        have hp1 := HR.out.row.cell (pairV_at FT i hiF).1
        have hp2 := HR.out.row.cell (pairV_at FT i hiF).2
        rw [Addr.add_lit, Nat.zero_add] at hp1 hp2
        have hfc := HR.out.row.1
        rw [HFl2.out] at hfc
        have hps := HFT.out FT[i] (List.getElem_mem hiF)
        have htk : FT.take (i + 1) = FT.take i ++ [FT[i]] := List.take_succ_eq_append_getElem hiF
        have hbad : (Fd.text FT[i].1.data.toList FT[i].2.data.toList).2 ≠ 0 → Rq.lines (Rq.flB l) = .inl (Fd.text FT[i].1.data.toList FT[i].2.data.toList).2 := fun hc => by
          have hil : i < l.length := by
            rcases Nat.lt_or_ge i l.length with h | h
            · exact h
            · exfalso
              obtain rfl : i = l.length := by omega
              have e : FT[l.length] = ((⟨#[67, 111, 110, 116, 101, 110, 116, 45, 76, 101, 110, 103, 116, 104]⟩ : ByteArray), ds) := by simp only [← HFe.out]; simp
              rw [e] at hc
              obtain ⟨e1, e2, e3⟩ := HEnd.out
              rw [e1] at hc
              exact hc e2
          have e : FT[i] = l[i] := by simp only [← HFe.out]; exact List.getElem_append_left hil
          have ht : FT.take i = l.take i := by rw [← HFe.out, List.take_append_of_le_length (by omega)]
          have hz := HR.out.zero
          rw [ht] at hz
          rw [e] at hc ⊢
          exact Rq.lines_bad l i hil hz hc
        have HBad := Hid.mk' hbad; have HTk := Hid.mk' htk
        generalize FT[i] = p at *
        have hb1 : Below wr.heap.size wr (wr.alloc (.cells #[.string p.1, .string p.2] 51)) := (Below.refl _ _).alloc (Nat.le_refl _) _
        have HTx := Hid.mk' (text_any p.1 p.2 (wr.alloc (.cells #[.string p.1, .string p.2] 51)) hps.1 hps.2)
        have hll := line_le p hps
        have HLt : Hid (Rq.lineT p = (Fd.text p.1.data.toList p.2.data.toList).1 ++ [13, 10]) := rfl
        have HBx := Hid.mk' hb1
        unfold txVal at HTx
        generalize hcd : (Fd.text p.1.data.toList p.2.data.toList).2 = cd at *
        generalize (Fd.text p.1.data.toList p.2.data.toList).1 = tx at *
        have HCd := Hid.mk' hcd
        clear hbad htk hps hb1 hiF hcd
        by_cases hc0 : cd = 0
        · subst hc0
          have hxz : ((⟨tx.toArray⟩ : ByteArray) ++ ⟨#[13, 10]⟩ : ByteArray).size = tx.length + 2 := by rw [ByteArray.size_append]; rfl
          have hxd : ((⟨tx.toArray⟩ : ByteArray) ++ ⟨#[13, 10]⟩ : ByteArray).data.toList = tx ++ [13, 10] := by rw [Ch.data_append]
          have hxl : tx.length + 2 ≤ 4004 := by
            have := HLt.out
            rw [this, List.length_append] at hll; simpa using hll
          have HXz := Hid.mk' hxz; have HXd := Hid.mk' hxd
          clear hxz hxd hll
          go_wp2_with fail
          refine HTx.out.mono ?_
          rintro e w5 ⟨rfl, hb5⟩
          have hb6 := HBx.out.trans (hb5.mono (by simp))
          have HB6 := Hid.mk' hb6
          have HU := Hid.mk' (HR.out.buf.keep hb6)
          clear hb5 hb6
          go_wp2_with (at_builtin; refine wpList_append_buf rfl (.tmp 53) (.tmp 55) 22 9 rfl 5 j0 Tryz.underlying22 Hj.out Hy0.out Hy1.out Hy2.out rfl HU.out HR.out.len _ _ rfl (src_text Tryz.underlying9 _ _) (by rw [HXz.out]; omega) ?_; intro g7 cap7 w7 hU7 hT7; have HU7 := Hid.mk' hU7; have HT7 := Hid.mk' hT7; clear hU7 hT7)
          go_roundw
          case rel =>
            have hne : first.data.toList ++ [13, 10] ++ (FT.take i).flatMap Rq.lineT ≠ [] := by simp
            have hrow5 := HR.out.row.stay HB6.out
            have hgf : gf ≠ g := by
              have h0 : 0 < (pairV FT).length := by rw [pairV_length, HFl2.out]; omega
              have hc := hrow5.cell (pairV_at FT 0 (by rw [HFl2.out]; omega)).1
              rw [Addr.add_lit] at hc
              exact buf_ne HU.out hne (by simpa using hc)
            have hlc : first.data.toList ++ [13, 10] ++ (FT.take i).flatMap Rq.lineT ++ ((⟨tx.toArray⟩ : ByteArray) ++ ⟨#[13, 10]⟩ : ByteArray).data.toList = first.data.toList ++ [13, 10] ++ (FT.take (i + 1)).flatMap Rq.lineT := by
              rw [HTk.out, List.flatMap_append, HXd.out, List.append_assoc]
              congr 2
              simp [HLt.out]
            refine ⟨i + 1, _, g7, cap7, by omega, by go_num, rfl, ⟨by rw [← hlc]; exact HU7.out, ?_, ?_, hrow5.turns HT7.out (fun a e => by injection e with e; subst e; exact hgf), ?_, ?_⟩⟩
            · rw [← hlc, List.length_append, HR.out.len, HXd.out]; simp
            · intro q hq
              rw [HTk.out] at hq
              rcases List.mem_append.1 hq with hq | hq
              · exact HR.out.zero q hq
              · simp at hq; subst hq; exact HCd.out
            · exact body_stays HBd.out (HR.out.body.stay HB6.out) HT7.out HU.out.base_
            · have h1 := HR.out.below.trans (HB6.out.mono HR.out.below.size)
              have h2 := HT7.out.below (B := w.heap.size) (fun k e => by rw [e]; exact HU.out.base_) h1.size
              exact h1.trans h2
          case measure => simp [intOf]; omega
        · have tc : ((cd : Int) != 0) = true := by rw [bne_iff_ne]; omega
          have HLb := Hid.mk' (HBad.out hc0); have HCn := Hid.mk' hc0
          clear hc0 hll
          go_wp2_with fail
          refine HTx.out.mono ?_
          rintro e w5 ⟨rfl, hb5⟩
          have HB6 := Hid.mk' (HBx.out.trans (hb5.mono (by simp)))
          clear hb5
          go_wp2
          (try simp only [Exit.inBlock, Exit.then])
          go_ret2
          refine .bad cd HCn.out rfl ?_ (HR.out.below.trans (HB6.out.mono HR.out.below.size))
          rw [HT.out, HLb.out]
      · obtain rfl : i = l.length + 1 := by omega
        have hXe : Rq.text (Rq.hdT m t l) body = (first.data.toList ++ [13, 10] ++ (FT.take (l.length + 1)).flatMap Rq.lineT ++ [13, 10] ++ body, 0) := by
          have htl : FT.take (l.length + 1) = FT := by rw [List.take_of_length_le]; rw [HFl2.out]; omega
          have hz := HR.out.zero
          rw [htl] at hz
          have hlz := Rq.lines_zero l (fun p hp => hz p (by rw [← HFe.out]; exact List.mem_append_left _ hp))
          obtain ⟨e1, e2, e3⟩ := HEnd.out
          rw [HT.out, hlz, htl]
          simp only
          rw [← HFe.out, List.flatMap_append, HFd.out]
          have e4 : [((⟨#[67, 111, 110, 116, 101, 110, 116, 45, 76, 101, 110, 103, 116, 104]⟩ : ByteArray), ds)].flatMap Rq.lineT = Rq.nCL ++ [58, 32] ++ Ch.decF 8 body.length ++ [13, 10] := by
            have : Rq.lineT ((⟨#[67, 111, 110, 116, 101, 110, 116, 45, 76, 101, 110, 103, 116, 104]⟩ : ByteArray), ds) = (Fd.text Rq.nCL ds.data.toList).1 ++ [13, 10] := rfl
            rw [List.flatMap_cons, this, e1, e3]; simp
          rw [e4]
          simp
        have HXe := Hid.mk' hXe
        clear hXe
        go_wp2_with (first
          | (at_builtin; refine wpList_append_buf rfl (.tmp 58) (.const (.string ⟨#[13, 10]⟩)) 22 9 rfl 5 j0 Tryz.underlying22 Hj.out Hy0.out Hy1.out Hy2.out rfl HR.out.buf HR.out.len _ _ rfl (src_text Tryz.underlying9 _ _) (by show n + 2 ≤ _; omega) ?_; intro g7 cap7 w7 hU7 hT7; have HU7 := Hid.mk' hU7; have HT7 := Hid.mk' hT7; have HBd7 := Hid.mk' (body_stays HBd.out HR.out.body hT7 HR.out.buf.base_); clear hU7 hT7)
          | (at_builtin; refine wpList_append_buf rfl (.tmp 60) (.tmp 61) 22 22 rfl 5 j0 Tryz.underlying22 Hj.out Hy0.out Hy1.out Hy2.out rfl HU7.out (by rw [List.length_append, HR.out.len]; rfl) _ _ rfl (src_bytes Tryz.underlying22 HBd7.out rfl) (by omega) ?_; intro g8 cap8 w8 hU8 hT8; have HU8 := Hid.mk' hU8; have HT8 := Hid.mk' hT8; clear hU8 hT8))
        go_ret2
        have h7 := HR.out.below.trans (HT7.out.below (B := w.heap.size) (fun k e => by rw [e]; exact HR.out.buf.base_) HR.out.below.size)
        have h8 := h7.trans (HT8.out.below (B := w.heap.size) (fun k e => by rw [e]; exact HU7.out.base_) h7.size)
        refine .ok g8 cap8 _ rfl ?_ (by rw [HXe.out]) (by rw [HXe.out]; exact HU8.out) h8
        rw [HXe.out]
        show _ = (first.data.toList ++ [13, 10] ++ (FT.take (l.length + 1)).flatMap Rq.lineT ++ [13, 10] ++ body).length
        rw [List.length_append, List.length_append, HR.out.len]; rfl
end Go.Proofs.YtkbeaehjagdnnacGreatDoor
