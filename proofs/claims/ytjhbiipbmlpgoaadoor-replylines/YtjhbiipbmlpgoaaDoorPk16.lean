/- Small texts, one behind the other: RpD, RpBg, RpLawD, RpLawL. -/
import Derived.Test.YtjhbiipbmlpgoaaDoorRpC
import Derived.Test.YtjhbiipbmlpgoaaDoorPk15
import Derived.Test.YtjhbiipbmlpgoaaDoorFbPow
import Derived.Test.YtjhbiipbmlpgoaaDoorPk10
import Derived.Test.YtjhbiipbmlpgoaaDoorPk7
import Derived.Test.YtjhbiipbmlpgoaaDoorPk6
import Derived.Test.YtjhbiipbmlpgoaaDoorPk3
import Derived.Test.YtjhbiipbmlpgoaaDoorRfSamF
import Derived.Test.YtjhbiipbmlpgoaaDoorPk13
import Derived.Test.YtjhbiipbmlpgoaaDoorRfField
import Derived.BigQuiet
/- Package reply, walked: Write. -/
namespace Go.Proofs.YtjhbiipbmlpgoaaDoor
open Go.RowKit

/-- a reply that is written: the box that it lies in, what was written, the fields that are written -/
structure RwAt (w : World) (cs : Array Value) (T : Nat) (ls : List (ByteArray × ByteArray)) (ao : Option Addr) (lcap g cap : Nat) (acc : List UInt8) (W : World) : Prop where
  one : OneAt w cs T W
  buf : Buf W (w.heap.size + 1) g cap acc
  row : IsV W ao lcap ls.length (pairV ls)
  apart : ∀ a, ao = some a → a.block ≠ g ∧ a.block < W.heap.size
theorem RwAt.stay {w W W' : World} {cs : Array Value} {T : Nat} {ls : List (ByteArray × ByteArray)} {ao : Option Addr} {lcap g cap : Nat} {acc : List UInt8} (h : RwAt w cs T ls ao lcap g cap acc W) (hb : Below W.heap.size W W') : RwAt w cs T ls ao lcap g cap acc W' :=
  ⟨h.one.stay hb, h.buf.keep hb, h.row.stay hb, fun a e => ⟨(h.apart a e).1, Nat.lt_of_lt_of_le (h.apart a e).2 hb.size⟩⟩
theorem RwAt.grow {w W W' : World} {cs : Array Value} {T : Nat} {ls : List (ByteArray × ByteArray)} {ao : Option Addr} {lcap g cap g' cap' : Nat} {acc acc' : List UInt8} (h : RwAt w cs T ls ao lcap g cap acc W) (hU : Buf W' (w.heap.size + 1) g' cap' acc') (hT : Turns (fun k => k = g) W W') (hg : g' = g ∨ g' = W.heap.size) : RwAt w cs T ls ao lcap g' cap' acc' W' := by
  have hgb := h.buf.base_
  refine ⟨h.one.turns hT (fun k e => by omega), hU, h.row.turns hT (fun a e => (h.apart a e).1), fun a e => ⟨fun e2 => ?_, Nat.lt_of_lt_of_le (h.apart a e).2 hT.size⟩⟩
  obtain ⟨h1, h2⟩ := h.apart a e
  rcases hg with hg | hg
  · omega
  · omega

set_option maxRecDepth 100000 in
set_option maxHeartbeats 4000000 in
theorem writeR_any (w : World) (st : Int) (l : List (ByteArray × ByteArray)) (fo bo : Option Addr) (fcap bcap nb : Nat) (body : List UInt8) (hl : IsV w fo fcap l.length (pairV l)) (hN : l.length ≤ 1000000) (hs : ∀ p ∈ l, p.1.size ≤ 2000 ∧ p.2.size ≤ 2000) (hb : body.length = nb) (hBd : IsB w bo bcap body) (hnb : nb ≤ 100000) (hP : PowAt w) :
    Calls Tryd.prog 7 #[.agg #[.int .i64 st, .slice fo l.length fcap, .slice bo nb bcap]] w fun e w' => RpOut w (Rp.out st l body) e w' := by
  subst hb
  obtain ⟨j0, hj0, hy0, hy1, hy2⟩ := info_parts info_u8
  have Hj := Hid.mk' hj0; have Hy0 := Hid.mk' hy0; have Hy1 := Hid.mk' hy1; have Hy2 := Hid.mk' hy2
  obtain ⟨i0, hi0, hz0, hz1, hz2⟩ := info_parts info_fld
  have Hi := Hid.mk' hi0; have Hz0 := Hid.mk' hz0; have Hz1 := Hid.mk' hz1; have Hz2 := Hid.mk' hz2
  have HV := Hid.mk' hl; have HS := Hid.mk' hs; have HBd := Hid.mk' hBd; have HP := Hid.mk' hP
  have HX : Hid (∀ W, OneAt w #[.int .i64 st, .slice fo l.length fcap, .slice bo body.length bcap] 25 W → W.cell? ⟨w.heap.size, 0, none⟩ = some (.int .i64 st) ∧ W.cell? ⟨w.heap.size, 1, none⟩ = some (.slice fo l.length fcap) ∧ W.cell? ⟨w.heap.size, 2, none⟩ = some (.slice bo body.length bcap)) := fun W h => ⟨h.cell 0, h.cell 1, h.cell 2⟩
  have H0 := Hid.mk' (OneAt.made w #[.int .i64 st, .slice fo l.length fcap, .slice bo body.length bcap] 25)
  have HFa := Hid.mk' (faultR_any _ st l fo bo fcap bcap body.length (hl.stay H0.out.below) hN hs)
  have hwl := Rp.word_len st
  clear hl hs hBd hj0 hy0 hy1 hy2 hi0 hz0 hz1 hz2 hP
  obtain ⟨x0, x1, x2⟩ := HX.out _ H0.out
  by_cases hft : Rp.fault st l = 0
  · obtain ⟨hwd, h16, hout⟩ := Rp.out_fine (body := body) hft (by omega)
    have HT := Hid.mk' hout
    rw [hft] at HFa
    clear hout hft
    obtain ⟨hs1, hs2⟩ := Rp.word_has hwd
    obtain ⟨sn, rfl⟩ : ∃ sn : Nat, st = (sn : Int) := ⟨st.toNat, by omega⟩
    have HSw : Hid (∀ W, Calls Tryd.prog 10 #[.int .i64 (sn : Int)] W fun e w' => e = .returned (.string ⟨(Rp.word sn).toArray⟩) ∧ w' = W) := fun W => wordR_any sn W
    have hwz : (⟨(Rp.word sn).toArray⟩ : ByteArray).size ≤ 22 := by show (Rp.word sn).toArray.size ≤ 22; rw [List.size_toArray]; exact hwl
    have HWd : Hid ((⟨(Rp.word sn).toArray⟩ : ByteArray).data.toList = Rp.word sn) := rfl
    have HNm : Hid (∀ W, OneAt w #[.int .i64 (sn : Int), .slice fo l.length fcap, .slice bo body.length bcap] 25 W → Calls Tryd.prog 17 #[.int .i64 (sn : Int)] W fun e w' => e = .returned (.string ⟨(Ch.decF 8 sn).toArray⟩) ∧ Below W.heap.size W w') := fun W h => itoa_any sn (by omega) W (HP.out.stay h.below)
    have HNb : Hid (∀ W, OneAt w #[.int .i64 (sn : Int), .slice fo l.length fcap, .slice bo body.length bcap] 25 W → Calls Tryd.prog 17 #[.int .i64 (body.length : Int)] W fun e w' => e = .returned (.string (pCL body.length).2) ∧ Below W.heap.size W w') := fun W h => itoa_any body.length (by omega) W (HP.out.stay h.below)
    have hdl := Ch.decF_length 8 sn
    have hdz : (⟨(Ch.decF 8 sn).toArray⟩ : ByteArray).size ≤ 9 := by show (Ch.decF 8 sn).toArray.size ≤ 9; rw [List.size_toArray]; omega
    have HDd : Hid ((⟨(Ch.decF 8 sn).toArray⟩ : ByteArray).data.toList = Ch.decF 8 sn) := rfl
    have hdb' := Ch.decF_length 8 body.length
    have hpz : (pCL body.length).2.size ≤ 9 := by show (Ch.decF 8 body.length).toArray.size ≤ 9; rw [List.size_toArray]; omega
    have HPc : Hid (∀ p ∈ l ++ [pCL body.length], p.1.size ≤ 2000 ∧ p.2.size ≤ 2000) := fun p hp => by
      rcases List.mem_append.1 hp with hp | hp
      · exact HS.out p hp
      · rw [List.mem_singleton.1 hp]; exact ⟨by show bCL.size ≤ 2000; decide, by omega⟩
    have HLs : Hid ((l ++ [pCL body.length]).length = l.length + 1) := by unfold Hid; simp
    have HPV : Hid (pairV (l ++ [pCL body.length]) = pairV l ++ [.string bCL, .string (pCL body.length).2]) := by unfold Hid; simp [pairV, pCL]
    generalize hpc2 : (pCL body.length).2 = pd at *
    generalize hll : l ++ [pCL body.length] = ls at *
    clear hpc2 hll
    generalize (⟨(Rp.word sn).toArray⟩ : ByteArray) = wd at *
    generalize (⟨(Ch.decF 8 sn).toArray⟩ : ByteArray) = db at *
    clear hwd hwl hdl hdb'
    obtain ⟨z, hz⟩ : ∃ z : ByteArray, z = ⟨#[72, 84, 84, 80, 47, 49, 46, 49, 32]⟩ ++ db ++ ⟨#[32]⟩ ++ wd ++ ⟨#[13, 10]⟩ := ⟨_, rfl⟩
    have hzs : z.size = 9 + db.size + 1 + wd.size + 2 := by rw [hz]; simp only [ByteArray.size_append]; rfl
    have hzd : z.data.toList = Rp.first sn := by rw [hz]; simp only [Ch.data_append, HDd.out, HWd.out]; rfl
    have hsk := fun W => buf_of (P := Tryd.prog) W z 9 23 5 (by unfold maxLen; omega) Tryd.underlying9 Tryd.underlying23 Tryd.underlying5
    obtain ⟨capF, hsk⟩ := Classical.skolem.1 hsk
    obtain ⟨wF, hsk⟩ := Classical.skolem.1 hsk
    have hcv := fun W => (hsk W).1
    have HBf : Hid (∀ W, Below W.heap.size W (wF W) ∧ Buf (wF W) W.heap.size W.heap.size (capF W) (Rp.first sn)) := fun W => by have := (hsk W).2; rw [hzd] at this; exact this
    obtain ⟨zn, hzn⟩ : ∃ zn, z.size = zn := ⟨_, rfl⟩
    have HZl : Hid ((Rp.first sn).length = zn) := by unfold Hid; rw [← hzd, Array.length_toList]; exact hzn
    have hzl : zn ≤ 60 := by omega
    rw [hzn] at hcv
    rw [hz] at hcv
    clear hsk hzs hzd hz hzn
    go_enter Tryd.func7, Tryd.ntmps7
    go_wp2_with fail
    refine HFa.out.mono ?_
    rintro e w1 ⟨rfl, hb1⟩
    have HO1 := Hid.mk' (H0.out.stay hb1)
    clear hb1 H0 x0 x1 x2 HFa
    obtain ⟨x0, x1, x2⟩ := HX.out w1 HO1.out
    go_upto_region 4 with fail
    go_cut [5] (fun v wc => ∃ g cap, v = .slice (some ⟨g, 0, none⟩) zn cap ∧ Buf wc (w.heap.size + 1) g cap (Rp.first sn) ∧ OneAt w #[.int .i64 (sn : Int), .slice fo l.length fcap, .slice bo body.length bcap] 25 wc)
    case first =>
      have HOd := Hid.mk' (HO1.out.stay (below_drew _ _))
      have HK2 : Hid (∀ W, OneAt w #[.int .i64 (sn : Int), .slice fo l.length fcap, .slice bo body.length bcap] 25 W → (wF W).cell? ⟨w.heap.size, 0, none⟩ = some (.int .i64 (sn : Int))) := fun W h => (HX.out _ (h.stay (HBf.out W).1)).1
      have HFn : Hid (∀ W, OneAt w #[.int .i64 (sn : Int), .slice fo l.length fcap, .slice bo body.length bcap] 25 W → Buf (wF W) (w.heap.size + 1) W.heap.size (capF W) (Rp.first sn) ∧ OneAt w #[.int .i64 (sn : Int), .slice fo l.length fcap, .slice bo body.length bcap] 25 (wF W)) := fun W h => by
        have hU := (HBf.out W).2
        exact ⟨⟨h.lt, hU.lt, hU.le, hU.max, hU.holds, hU.there⟩, h.stay (HBf.out W).1⟩
      go_region_held (fun W => W.cell? ⟨w.heap.size, 0, none⟩ = some (.int .i64 (sn : Int))) (first | exact HK2.out _ HOd.out | go_keep) (first
        | (go_at_call 17; refine (HNm.out _ HOd.out).mono ?_; rintro e v1 ⟨rfl, hb1⟩; have hOd := HOd.out.stay hb1; clear HOd; have HOd := Hid.mk' hOd; have q0 := (HX.out v1 hOd).1; clear hOd hb1)
        | (go_at_call 10; refine (HSw.out _).mono ?_; rintro e v1 ⟨rfl, hv1⟩; subst hv1))
      all_goals
        (try go_wp2)
        go_meet
        obtain ⟨f1, f2⟩ := HFn.out _ HOd.out
        exact ⟨_, _, rfl, f1, f2⟩
    case rest =>
      obtain ⟨g, cap, rfl, hU, hOc⟩ := hcut
      have HU := Hid.mk' hU; have HOc := Hid.mk' hOc
      clear x0 x1 x2 hU hOc HO1 HSw HNm HBf hcv HDd HWd hwz hdz
      obtain ⟨x0, x1, x2⟩ := HX.out wc HOc.out
      go_wp2_with fail
      refine (HNb.out _ HOc.out).mono ?_
      rintro e w2 ⟨rfl, hb2⟩
      have HO2 := Hid.mk' (HOc.out.stay hb2); have HU2 := Hid.mk' (HU.out.keep hb2)
      clear x0 x1 x2 hb2 HU HOc HNb
      obtain ⟨x0, x1, x2⟩ := HX.out w2 HO2.out
      have hOb := HO2.out.stay ((Below.refl _ w2).alloc (Nat.le_refl _) (.cells #[.string ⟨#[67, 111, 110, 116, 101, 110, 116, 45, 76, 101, 110, 103, 116, 104]⟩, .string pd] 36))
      have hUb := HU2.out.alloc (.cells #[.string ⟨#[67, 111, 110, 116, 101, 110, 116, 45, 76, 101, 110, 103, 116, 104]⟩, .string pd] 36)
      have y0 := prNew w2 ⟨#[67, 111, 110, 116, 101, 110, 116, 45, 76, 101, 110, 103, 116, 104]⟩ pd 36 rfl 0 _ rfl
      have y1 := prNew w2 ⟨#[67, 111, 110, 116, 101, 110, 116, 45, 76, 101, 110, 103, 116, 104]⟩ pd 36 rfl 1 _ rfl
      rw [Addr.add_lit, Nat.zero_add] at y0 y1
      go_upto_region 6 with fail
      have hgw := HU2.out.lt
      have HSz : Hid (g < (w2.alloc (.cells #[.string ⟨#[67, 111, 110, 116, 101, 110, 116, 45, 76, 101, 110, 103, 116, 104]⟩, .string pd] 36)).heap.size) := hUb.lt
      clear x0 x1 x2 HU2 HO2 hgw
      generalize (w2.alloc (.cells #[.string ⟨#[67, 111, 110, 116, 101, 110, 116, 45, 76, 101, 110, 103, 116, 104]⟩, .string pd] 36)) = wb at *
      generalize w2.heap.size = k2 at *
      obtain ⟨x0, x1, x2⟩ := HX.out wb hOb
      have HOb := Hid.mk' hOb; have HUb := Hid.mk' hUb
      have HSt : Hid (∀ W, Below wb.heap.size wb W → W.cell? ⟨w.heap.size, 1, none⟩ = some (.slice fo l.length fcap) ∧ W.cell? ⟨k2, 0, none⟩ = some (.string ⟨#[67, 111, 110, 116, 101, 110, 116, 45, 76, 101, 110, 103, 116, 104]⟩) ∧ W.cell? ⟨k2, 1, none⟩ = some (.string pd)) := fun W hW =>
        ⟨(hW.cell (World.block_lt_of_cell? wb _ x1)).trans x1, (hW.cell (World.block_lt_of_cell? wb _ y0)).trans y0, (hW.cell (World.block_lt_of_cell? wb _ y1)).trans y1⟩
      have HCl := Hid.mk' (fun W (hW : Below wb.heap.size wb W) => cloneFields_any l fo fcap l.length W (HV.out.stay (then_ hOb.below hW)) rfl hN)
      clear hOb hUb x0 x2
      go_cut [37, 38, 39] (fun v37 v38 v39 wd => ∃ gf capf, v37 = .slice (some ⟨gf, 0, none⟩) (l.length + 1) capf ∧ v38 = .int .i64 ((l.length : Int) + 1) ∧ v39 = .int .i64 0 ∧ OwnV wd 0 36 2 (some ⟨gf, 0, none⟩) capf (l.length + 1) (pairV l ++ [.string ⟨#[67, 111, 110, 116, 101, 110, 116, 45, 76, 101, 110, 103, 116, 104]⟩, .string pd]) ∧ wb.heap.size ≤ gf ∧ Below wb.heap.size wb wd)
      case first =>
        have HB1' : Hid (Below wb.heap.size wb wb.drew) := below_drew _ _
        have HB2' : Hid (Below wb.heap.size wb (wb.alloc (.cells #[.string ⟨#[67, 111, 110, 116, 101, 110, 116, 45, 76, 101, 110, 103, 116, 104]⟩, .string pd] 36)).drew) := ((Below.refl _ _).alloc (Nat.le_refl _) _).trans (below_drew _ _)
        have HN1 : Hid (l.length + 1 ≤ maxLen ∧ (l.length + 1) * 32 ≤ 140737488355328) := ⟨by unfold maxLen; omega, by omega⟩
        have HAt : Hid (∀ (W : World) (ao : Option Addr) (cp g6 : Nat), OwnV W wb.heap.size 36 2 ao cp l.length (pairV l) → ∀ k, wb.heap.size ≤ k → ((Value.slice ao l.length cp).ownBlock = some g6 ∨ g6 = k) → wb.heap.size ≤ g6) := fun W ao cp g6 hO k hk h => by
          rcases h with h | h
          · rw [ownBlock_slice] at h
            cases ao with
            | none => cases h
            | some a => injection h with h; subst h; exact (hO.block a rfl).1
          · omega
        go_region_held_law (fun w' => w'.cell? ⟨w.heap.size, 1, none⟩ = some (.slice fo l.length fcap) ∧ w'.cell? ⟨k2, 0, none⟩ = some (.string ⟨#[67, 111, 110, 116, 101, 110, 116, 45, 76, 101, 110, 103, 116, 104]⟩) ∧ w'.cell? ⟨k2, 1, none⟩ = some (.string pd)) (first | go_keep | exact HK6.out | exact HK5.out | exact HKA.out) (first
          | (refine step_append_lies _ (by rfl) _ _ _ (by rfl) 0 36 i0 (.agg #[.string ⟨#[]⟩, .string ⟨#[]⟩]) 2 32 Tryd.underlying22 Hi.out Hz0.out Hz1.out Hz2.out (by rfl) (by decide) (.slice ao5 l.length cap5) l.length (pairV l) (by rfl) ((HO5.out.mono (Nat.zero_le _)).alloc _) ⟨w5.heap.size, 0, none⟩ 1 1 [.string ⟨#[67, 111, 110, 116, 101, 110, 116, 45, 76, 101, 110, 103, 116, 104]⟩, .string pd] (by rfl) (by rfl) (prNew _ _ _ _ rfl) (prOnes _ _) (by decide) HN1.out.1 HN1.out.2 (Nat.zero_le _) (w5.heap.size + 1) (by simp) ?_; intro g6 cap6 w6 hown6 hgrow hat6 hlt6; have HO6 := Hid.mk' hown6; have HB6 := Hid.mk' (prGrown (HB5.out.trans ((Below.refl _ _).alloc HB5.out.size _)) HO5.out hgrow (Nat.le_refl _)); have HG6 := Hid.mk' (HAt.out _ _ _ g6 HO5.out _ (Nat.le_succ_of_le HB5.out.size) hat6); have HK6 := Hid.mk' (HSt.out w6 HB6.out); clear hown6 hgrow hat6 hlt6; (try simp only [Act.put, List.getElem_toArray, List.getElem_cons_succ, List.getElem_cons_zero, List.setIfInBounds_toArray, List.set_cons_zero, List.set_cons_succ]))
          | (refine step_append_lies _ (by rfl) _ _ _ (by rfl) 0 36 i0 (.agg #[.string ⟨#[]⟩, .string ⟨#[]⟩]) 2 32 Tryd.underlying22 Hi.out Hz0.out Hz1.out Hz2.out (by rfl) (by decide) (.slice ao5 l.length cap5) l.length (pairV l) (by rfl) (HO5.out.mono (Nat.zero_le _)) ⟨wb.heap.size, 0, none⟩ 1 1 [.string ⟨#[67, 111, 110, 116, 101, 110, 116, 45, 76, 101, 110, 103, 116, 104]⟩, .string pd] (by rfl) (by rfl) HNB.out (prOnes _ _) (by decide) HN1.out.1 HN1.out.2 (Nat.zero_le _) w5.heap.size (by rfl) ?_; intro g6 cap6 w6 hown6 hgrow hat6 hlt6; have HO6 := Hid.mk' hown6; have HB6 := Hid.mk' (prGrown (HB5.out) HO5.out hgrow (Nat.le_refl _)); have HG6 := Hid.mk' (HAt.out _ _ _ g6 HO5.out _ HB5.out.size hat6); have HK6 := Hid.mk' (HSt.out w6 HB6.out); clear hown6 hgrow hat6 hlt6; (try simp only [Act.put, List.getElem_toArray, List.getElem_cons_succ, List.getElem_cons_zero, List.setIfInBounds_toArray, List.set_cons_zero, List.set_cons_succ]))
          | (go_at_call 18; refine (HCl.out _ HB2'.out).mono ?_; rintro e w5 ⟨ao5, cap5, rfl, hO5, hB5⟩; have HO5 := Hid.mk' (hO5.mono HB2'.out.size); have HB5 := Hid.mk' (HB2'.out.trans (hB5.mono (by simp))); have HK5 := Hid.mk' (HSt.out w5 HB5.out); have HNB := Hid.mk' (prOld hB5); clear hO5 hB5)
          | (go_at_call 18; refine (HCl.out _ HB1'.out).mono ?_; rintro e w5 ⟨ao5, cap5, rfl, hO5, hB5⟩; have HO5 := Hid.mk' (hO5.mono HB1'.out.size); have HB5 := Hid.mk' (HB1'.out.trans (hB5.mono (Nat.le_refl _))); have HK5 := Hid.mk' (HSt.out w5 HB5.out); have HKA := Hid.mk' (HSt.out _ (HB5.out.trans ((Below.refl _ w5).alloc HB5.out.size (.cells #[.string ⟨#[67, 111, 110, 116, 101, 110, 116, 45, 76, 101, 110, 103, 116, 104]⟩, .string pd] 36)))); clear hO5 hB5))
        all_goals (go_wp2; go_meet; exact ⟨g6, cap6, rfl, rfl, rfl, HO6.out, HG6.out, HB6.out⟩)
      case rest =>
        obtain ⟨gf, capf, rfl, rfl, rfl, hO6, hG6, hB6⟩ := hcut
        have hrow : IsV wc (some ⟨gf, 0, none⟩) capf (l.length + 1) (pairV ls) := by rw [HPV.out]; exact hO6.isV
        have HR0 : Hid (RwAt w #[.int .i64 (sn : Int), .slice fo l.length fcap, .slice bo body.length bcap] 25 ls (some ⟨gf, 0, none⟩) capf g cap (Rp.first sn) wc) :=
          ⟨HOb.out.stay hB6, HUb.out.keep hB6, by rw [HLs.out]; exact hrow, fun a e => by injection e with e; subst e; exact ⟨by have := HSz.out; show gf ≠ g; omega, (hO6.block _ rfl).2⟩⟩
        clear hO6 hG6 hB6 hrow HSt HCl HOb HUb y0 y1 x1 HSz
        go_wp2
        go_loopw [5, 39] (fun vo vi wr => ∃ (i n g cap : Nat), i ≤ l.length + 1 ∧ vi = .int .i64 i ∧ vo = .slice (some ⟨g, 0, none⟩) n cap ∧ (Rp.first sn ++ (ls.take i).flatMap Rp.lineT).length = n ∧ (∀ p ∈ ls.take i, (Fd.text p.1.data.toList p.2.data.toList).2 = 0) ∧ RwAt w #[.int .i64 (sn : Int), .slice fo l.length fcap, .slice bo body.length bcap] 25 ls (some ⟨gf, 0, none⟩) capf g cap (Rp.first sn ++ (ls.take i).flatMap Rp.lineT) wr) (fun _ vi _ => l.length + 1 - (intOf vi).toNat)
        case atStart => exact ⟨0, _, _, _, Nat.zero_le _, rfl, rfl, by simpa using HZl.out, fun p hp => by simp at hp, by simpa using HR0.out⟩
        case round =>
          obtain ⟨i, n, g, cap, hi, rfl, rfl, hn, hzr, hR⟩ := hrel
          have HR := Hid.mk' hR; have HNn := Hid.mk' hn; have HZr := Hid.mk' hzr
          have hnl : n ≤ 200000 := by
            have h2 := rp_lines_le (ls.take i) (fun p hp => HPc.out p (List.mem_of_mem_take hp))
            have h3 : (ls.take i).length ≤ 16 := by rw [List.length_take, HLs.out]; omega
            rw [List.length_append, HZl.out] at hn
            omega
          clear hR HR0 hn hzr
          obtain ⟨x0, x1, x2⟩ := HX.out wr HR.out.one
          by_cases hlt : i < l.length + 1
          · have hlt' : (i : Int) < (l.length : Int) + 1 := by omega
            have hiF : i < ls.length := by rw [HLs.out]; exact hlt
            have hp1 := HR.out.row.cell (pairV_at ls i hiF).1
            have hp2 := HR.out.row.cell (pairV_at ls i hiF).2
            rw [Addr.add_lit, Nat.zero_add] at hp1 hp2
            have hfc := HR.out.row.1
            rw [HLs.out] at hfc
            have hps := HPc.out ls[i] (List.getElem_mem hiF)
            have HTk : Hid (ls.take (i + 1) = ls.take i ++ [ls[i]]) := List.take_succ_eq_append_getElem hiF
            have HBad : Hid ((Fd.text ls[i].1.data.toList ls[i].2.data.toList).2 ≠ 0 → Rp.code ls = (Fd.text ls[i].1.data.toList ls[i].2.data.toList).2) := fun hc => Rp.code_bad ls i hiF HZr.out hc
            generalize ls[i] = p at *
            have HTx := Hid.mk' (text_any p.1 p.2 (wr.alloc (.cells #[.string p.1, .string p.2] 36)) (by omega) (by omega))
            have hll := rp_line_le p hps
            have HLt : Hid (Rp.lineT p = (Fd.text p.1.data.toList p.2.data.toList).1 ++ [13, 10]) := rfl
            have HBx : Hid (Below wr.heap.size wr (wr.alloc (.cells #[.string p.1, .string p.2] 36))) := (Below.refl _ _).alloc (Nat.le_refl _) _
            unfold txVal at HTx
            generalize hcd : (Fd.text p.1.data.toList p.2.data.toList).2 = cd at *
            generalize (Fd.text p.1.data.toList p.2.data.toList).1 = tx at *
            have HCd := Hid.mk' hcd
            clear hps hiF hcd
            by_cases hc0 : cd = 0
            · subst hc0
              have hxz : ((⟨tx.toArray⟩ : ByteArray) ++ ⟨#[13, 10]⟩ : ByteArray).size = tx.length + 2 := by rw [ByteArray.size_append]; rfl
              have hxd : ((⟨tx.toArray⟩ : ByteArray) ++ ⟨#[13, 10]⟩ : ByteArray).data.toList = tx ++ [13, 10] := by rw [Ch.data_append]
              have hxl : tx.length + 2 ≤ 4004 := by
                have := HLt.out
                rw [this, List.length_append] at hll; simpa using hll
              have HXz := Hid.mk' hxz; have HXd := Hid.mk' hxd
              clear hxz hxd hll
              go_wp2_with fail
              refine HTx.out.mono ?_
              rintro e w5 ⟨rfl, hb5⟩
              have HR5 := Hid.mk' (HR.out.stay (HBx.out.trans (hb5.mono (by simp))))
              clear hb5 x0 x1 x2 HTx
              go_wp2_with (at_builtin; refine wpList_append_buf_at rfl (.tmp 51) (.tmp 53) 23 9 rfl 5 j0 Tryd.underlying23 Hj.out Hy0.out Hy1.out Hy2.out rfl HR5.out.buf HNn.out _ _ rfl (src_text Tryd.underlying9 _ _) (by rw [HXz.out]; omega) ?_; intro g7 cap7 w7 hU7 hT7 hg7; have HR7 := Hid.mk' (HR5.out.grow hU7 hT7 hg7); clear hU7 hT7 hg7)
              go_roundw
              case rel =>
                have hlc : Rp.first sn ++ (ls.take i).flatMap Rp.lineT ++ ((⟨tx.toArray⟩ : ByteArray) ++ ⟨#[13, 10]⟩ : ByteArray).data.toList = Rp.first sn ++ (ls.take (i + 1)).flatMap Rp.lineT := by
                  rw [HTk.out, List.flatMap_append, HXd.out, List.append_assoc]
                  congr 2
                  simp [HLt.out]
                refine ⟨i + 1, _, g7, cap7, by omega, by go_num, rfl, ?_, ?_, by rw [← hlc]; exact HR7.out⟩
                · rw [← hlc, List.length_append, HNn.out, HXd.out]; simp
                · intro q hq
                  rw [HTk.out] at hq
                  rcases List.mem_append.1 hq with hq | hq
                  · exact HZr.out q hq
                  · simp at hq; subst hq; exact HCd.out
              case measure => simp [intOf]; omega
            · have tc : ((cd : Int) != 0) = true := by rw [bne_iff_ne]; omega
              have HLb := Hid.mk' (HBad.out hc0); have HCn := Hid.mk' hc0
              clear hc0 hll
              go_wp2_with fail
              refine HTx.out.mono ?_
              rintro e w5 ⟨rfl, hb5⟩
              have HR5 := Hid.mk' (HR.out.stay (HBx.out.trans (hb5.mono (by simp))))
              clear hb5 x0 x1 x2 HTx
              go_wp2
              (try simp only [Exit.inBlock, Exit.then])
              go_ret2
              refine .bad cd HCn.out rfl ?_ HR5.out.one.below
              rw [HT.out, HLb.out, if_pos HCn.out]
          · obtain rfl : i = l.length + 1 := by omega
            have HXe : Hid (Rp.out sn l body = (Rp.first sn ++ (ls.take (l.length + 1)).flatMap Rp.lineT ++ [13, 10] ++ body, 0)) := by
              have htl : ls.take (l.length + 1) = ls := by rw [← HLs.out]; exact List.take_length
              have hz := HZr.out
              rw [htl] at hz
              unfold Hid
              rw [HT.out, Rp.code_zero ls hz, if_neg (by simp), htl]
            clear HT
            go_wp2_with (first
              | (at_builtin; refine wpList_append_buf_at rfl (.tmp 56) (.const (.string ⟨#[13, 10]⟩)) 23 9 rfl 5 j0 Tryd.underlying23 Hj.out Hy0.out Hy1.out Hy2.out rfl HR.out.buf HNn.out _ _ rfl (src_text Tryd.underlying9 _ _) (by show n + 2 ≤ _; omega) ?_; intro g7 cap7 w7 hU7 hT7 hg7; have hR7 := HR.out.grow hU7 hT7 hg7; have HR7 := Hid.mk' hR7; have HBd7 := Hid.mk' (HBd.out.stay hR7.one.below); have z2 := (HX.out w7 hR7.one).2.2; clear hU7 hT7 hg7 hR7)
              | (at_builtin; refine wpList_append_buf_at rfl (.tmp 58) (.tmp 60) 23 23 rfl 5 j0 Tryd.underlying23 Hj.out Hy0.out Hy1.out Hy2.out rfl HR7.out.buf (by rw [List.length_append, HNn.out]; rfl) _ _ rfl (src_bytesR Tryd.underlying23 HBd7.out rfl) (by omega) ?_; intro g8 cap8 w8 hU8 hT8 hg8; have HR8 := Hid.mk' (HR7.out.grow hU8 hT8 hg8); clear hU8 hT8 hg8))
            go_ret2
            have hU := HR8.out.buf
            refine .ok g8 cap8 _ rfl ?_ (by rw [HXe.out]) (by rw [HXe.out]; exact ⟨by have := hU.base_; omega, hU.lt, hU.le, hU.max, hU.holds, hU.there⟩) HR8.out.one.below
            rw [HXe.out]
            show _ = (Rp.first sn ++ (ls.take (l.length + 1)).flatMap Rp.lineT ++ [13, 10] ++ body).length
            rw [List.length_append, List.length_append, HNn.out]; rfl
  · have HF := Hid.mk' (Rp.out_fault (body := body) hft)
    have tc : (((Rp.fault st l : Nat) : Int) != 0) = true := by rw [bne_iff_ne]; omega
    have HN0 := Hid.mk' hft
    generalize Rp.fault st l = fc at *
    clear hft
    go_enter Tryd.func7, Tryd.ntmps7
    go_wp2_with fail
    refine HFa.out.mono ?_
    rintro e w1 ⟨rfl, hb1⟩
    have HO1 := Hid.mk' (H0.out.stay hb1)
    clear hb1 H0 x0 x1 x2
    go_wp2
    go_ret2
    exact .bad fc HN0.out rfl HF.out HO1.out.below
end Go.Proofs.YtjhbiipbmlpgoaaDoor

/- The statements' own: replyBegun, walked; what Write and ReplyText answer, in one form. -/
namespace Go.Proofs.YtjhbiipbmlpgoaaDoor
open Go.RowKit

theorem RpOut.all {w : World} {r : List UInt8 × Nat} {e : Ending} {w' : World} (h : RpOut w r e w') : ∃ (ao : Option Addr) (cap n : Nat), e = .returned (.tuple #[.slice ao n cap, .int .i64 (r.2 : Int)]) ∧ r.1.length = n ∧ IsB w' ao cap r.1 ∧ Below w.heap.size w w' := by
  cases h with
  | bad c hc he ht hB => subst ht; exact ⟨none, 0, 0, he, rfl, IsB.nil _, hB⟩
  | ok g cap n he hn ht hO hB => exact ⟨_, cap, n, by rw [ht]; exact he, hn.symm, hO.isB, hB⟩
theorem begun_text : Rp.out 204 [(⟨#[65]⟩, ⟨#[98]⟩)] [] = ([72, 84, 84, 80, 47, 49, 46, 49, 32, 50, 48, 52, 32, 78, 111, 32, 67, 111, 110, 116, 101, 110, 116, 13, 10, 65, 58, 32, 98, 13, 10, 67, 111, 110, 116, 101, 110, 116, 45, 76, 101, 110, 103, 116, 104, 58, 32, 48, 13, 10, 13, 10], 0) := by decide +kernel
set_option maxHeartbeats 1600000 in
set_option maxRecDepth 100000 in
theorem replyBegun_any (w : World) (hP : PowAt w) :
    Calls Tryd.prog 5 #[] w fun e w' => e = .returned (.bool true) ∧ Below w.heap.size w w' := by
  have hb1 : Below w.heap.size w (w.alloc (.cells #[.string ⟨#[65]⟩, .string ⟨#[98]⟩] 36)) := (Below.refl _ _).alloc (Nat.le_refl _) _
  have HW := Hid.mk' (writeR_any (w.alloc (.cells #[.string ⟨#[65]⟩, .string ⟨#[98]⟩] 36)) 204 [(⟨#[65]⟩, ⟨#[98]⟩)] _ none 1 0 0 [] (IsV.made w #[.string ⟨#[65]⟩, .string ⟨#[98]⟩] 1 36 (0, 0)) (by decide) (fun p hp => by rw [List.mem_singleton.1 hp]; exact ⟨by decide, by decide⟩) rfl (IsB.nil _) (by decide) (hP.stay hb1))
  have HSw := Hid.mk' (fun W => wordR_any 200 W)
  rw [show (⟨(Rp.word 200).toArray⟩ : ByteArray) = ⟨#[79, 75]⟩ from rfl] at HSw
  have HB1 := Hid.mk' hb1
  clear hb1 hP
  rw [begun_text] at HW
  go_enter Tryd.func5, Tryd.ntmps5
  go_wp2_with fail
  refine HW.out.mono ?_
  rintro e w1 hO
  obtain ⟨ao, cap, n, rfl, hn, hI, hb⟩ := hO.all
  clear hO
  have hcv := hI.str (P := Tryd.prog) 23 9 5 Tryd.underlying23 Tryd.underlying5 Tryd.underlying9
  have HB := Hid.mk' (then_ HB1.out hb)
  have h69 : n = 52 := by rw [← hn]; rfl
  subst h69
  replace hcv : (convert 23 9 (.slice ao 52 cap)).run Tryd.prog w1 = .ok (.string ⟨#[72, 84, 84, 80, 47, 49, 46, 49, 32, 50, 48, 52, 32, 78, 111, 32, 67, 111, 110, 116, 101, 110, 116, 13, 10, 65, 58, 32, 98, 13, 10, 67, 111, 110, 116, 101, 110, 116, 45, 76, 101, 110, 103, 116, 104, 58, 32, 48, 13, 10, 13, 10]⟩) w1 := hcv
  clear hI hb HW hn
  go_wp2_with fail
  refine (HSw.out _).mono ?_
  rintro e w2 ⟨rfl, hw⟩
  subst hw
  go_wp2
  go_ret
  exact ⟨rfl, HB.out⟩
end Go.Proofs.YtjhbiipbmlpgoaaDoor

/- THE LAW ReplyDoes, walked whole. -/
namespace Go.Proofs.YtjhbiipbmlpgoaaDoor
open Go.RowKit

theorem SmallF.two {l : List (ByteArray × ByteArray)} (h : SmallF l) : ∀ p ∈ l, p.1.size ≤ 2000 ∧ p.2.size ≤ 2000 := fun p hp => by have := h.2 p hp; omega
set_option maxHeartbeats 1600000 in
set_option maxRecDepth 100000 in
theorem replyDoes_any (w : World) (st sw : Int) (l : List (ByteArray × ByteArray)) (fo bo : Option Addr) (fcap bcap nf nb : Nat) (body : List UInt8) (hl : IsV w fo fcap nf (pairV l)) (hn : l.length = nf) (hz : ∀ p ∈ l, p.1.size + p.2.size ≤ maxLen) (hb : body.length = nb) (hBd : IsB w bo bcap body) (hP : PowAt w) :
    Calls Tryd.prog 3 #[.agg #[.int .i64 st, .slice fo nf fcap, .slice bo nb bcap], .int .i64 sw] w fun e w' => e = .returned (.bool true) ∧ Below w.heap.size w w' := by
  subst hn
  subst hb
  have HX : Hid (∀ W, OneAt w #[.int .i64 st, .slice fo l.length fcap, .slice bo body.length bcap] 25 W → W.cell? ⟨w.heap.size, 0, none⟩ = some (.int .i64 st) ∧ W.cell? ⟨w.heap.size, 1, none⟩ = some (.slice fo l.length fcap) ∧ W.cell? ⟨w.heap.size, 2, none⟩ = some (.slice bo body.length bcap)) := fun W h => ⟨h.cell 0, h.cell 1, h.cell 2⟩
  have H0 := Hid.mk' (OneAt.made w #[.int .i64 st, .slice fo l.length fcap, .slice bo body.length bcap] 25)
  have HV := Hid.mk' hl; have HBd := Hid.mk' hBd; have HP := Hid.mk' hP; have HZ := Hid.mk' hz
  have HBg := Hid.mk' (replyBegun_any _ (hP.stay H0.out.below))
  clear hl hBd hP hz
  go_enter Tryd.func3, Tryd.ntmps3
  go_wp2_with fail
  refine HBg.out.mono ?_
  rintro e w1 ⟨rfl, hb1⟩
  have HO1 := Hid.mk' (H0.out.stay hb1)
  clear hb1 HBg H0
  obtain ⟨x0, x1, x2⟩ := HX.out w1 HO1.out
  go_wp2_with fail
  refine (greatFields_any l fo fcap l.length w1 (HV.out.stay HO1.out.below) rfl HZ.out).mono ?_
  rintro e w2 ⟨b, rfl, hsm, q, rfl⟩
  have HO2 := Hid.mk' (HO1.out.stay (below_drewN (Below.refl _ _) q))
  clear x0 x1 x2 HO1
  generalize w1.drewN q = w2 at *
  obtain ⟨x0, x1, x2⟩ := HX.out w2 HO2.out
  cases b with
  | true =>
    clear hsm
    go_wp2
    go_ret
    exact ⟨rfl, HO2.out.below⟩
  | false =>
    have HSm := Hid.mk' (hsm rfl)
    clear hsm
    by_cases h9 : 9000 < body.length
    · have t9 : decide ((body.length : Int) > 9000) = true := decide_eq_true (by omega)
      go_wp2
      go_ret
      exact ⟨rfl, HO2.out.below⟩
    · have t9 : decide ((body.length : Int) > 9000) = false := decide_eq_false (by omega)
      have HW := Hid.mk' (writeR_any w2 st l fo bo fcap bcap body.length body (HV.out.stay HO2.out.below) (by have := HSm.out.1; omega) HSm.out.two rfl (HBd.out.stay HO2.out.below) (by omega) (HP.out.stay HO2.out.below))
      have HRt := Hid.mk' (fun W hW => replyText_any W st l fo bo fcap bcap body.length body (HV.out.stay hW) (by have := HSm.out.1; omega) HSm.out.two rfl (HBd.out.stay hW) (by omega))
      have HWd := Hid.mk' (fun W => wordR_any sw W)
      have HSw := Hid.mk' (fun W => statusWord_any sw W)
      generalize (⟨(Rp.word sw).toArray⟩ : ByteArray) = wd at *
      generalize Rp.out st l body = r at *
      go_wp2_with fail
      refine HW.out.mono ?_
      rintro e w3 hO
      obtain ⟨ao3, cap3, n3, rfl, hn3, hI3, hb3⟩ := hO.all
      have HO3 := Hid.mk' (HO2.out.stay hb3); have HI3 := Hid.mk' hI3; have HN3 := Hid.mk' hn3
      clear hO hI3 hb3 hn3 HW HO2 x0 x1 x2
      obtain ⟨x0, x1, x2⟩ := HX.out w3 HO3.out
      go_wp2_with fail
      refine (HRt.out w3 HO3.out.below).mono ?_
      rintro e w4 hO
      obtain ⟨ao4, cap4, n4, rfl, hn4, hI4, hb4⟩ := hO.all
      have HO4 := Hid.mk' (HO3.out.stay hb4)
      have HS := Hid.mk' (sameBytes_any w4 ao3 ao4 cap3 cap4 n3 n4 r.1 r.1 HN3.out hn4 (HI3.out.stay hb4) hI4)
      rw [decide_eq_true rfl] at HS
      clear hO hI4 hb4 hn4 HRt HO3 x0 x1 x2
      obtain ⟨x0, x1, x2⟩ := HX.out w4 HO4.out
      go_wp2_with fail
      refine HS.out.mono ?_
      rintro e w5 ⟨rfl, hw⟩
      subst hw
      go_wp2_with fail
      refine (HWd.out _).mono ?_
      rintro e w5 ⟨rfl, hw⟩
      subst hw
      go_wp2_with fail
      refine (HSw.out _).mono ?_
      rintro e w6 ⟨rfl, hb6⟩
      have HO6 := Hid.mk' (HO4.out.stay hb6)
      clear hb6 x0 x1 x2
      go_wp2
      go_ret
      exact ⟨rfl, HO6.out.below⟩
end Go.Proofs.YtjhbiipbmlpgoaaDoor

/- THE LAW ReplyLines, walked whole. -/
namespace Go.Proofs.YtjhbiipbmlpgoaaDoor
open Go.RowKit

theorem Rp.out_rest {st : Int} {l : List (ByteArray × ByteArray)} {body : List UInt8} (h : (Rp.out st l body).2 = 0) (hb : body.length < 1000000000) : Rp.word st ≠ [] ∧ l.length < 16 ∧ (Rp.out st l body).1 = Rp.rest st (l ++ [pCL body.length]) body 0 ∧ ∀ p ∈ l ++ [pCL body.length], (Fd.text p.1.data.toList p.2.data.toList).2 = 0 := by
  have hf : Rp.fault st l = 0 := by
    apply Classical.byContradiction
    intro hc
    rw [Rp.out_fault hc] at h
    exact hc h
  obtain ⟨h1, h2, h3⟩ := Rp.out_fine (body := body) hf hb
  by_cases hc : Rp.code (l ++ [pCL body.length]) ≠ 0
  · rw [h3, if_pos hc] at h; exact absurd h hc
  · rw [if_neg hc] at h3
    refine ⟨h1, h2, by rw [h3, Rp.rest]; simp, Rp.code_all (by omega)⟩
theorem IsV.prefix {w : World} {ao : Option Addr} {cap n : Nat} {xs ys : List Value} (h : IsV w ao cap n (xs ++ ys)) {k : Nat} (hk : k ≤ n) : IsV w ao cap k xs :=
  ⟨Nat.le_trans hk h.1, h.2.1, fun j u hj => h.2.2 j u (by rw [List.getElem?_append_left (List.getElem?_eq_some_iff.1 hj).1]; exact hj)⟩
/-- a reply that is read line by line -/
structure RlAt (w w3 : World) (cs : Array Value) (T : Nat) (ls : List (ByteArray × ByteArray)) (m : Nat) (ao : Option Addr) (cap : Nat) (W : World) : Prop where
  one : OneAt w cs T W
  own : OwnV W w3.heap.size 36 2 ao cap m (pairV (ls.take m))
  below : Below w3.heap.size w3 W
theorem RlAt.stay {w w3 W W' : World} {cs : Array Value} {T : Nat} {ls : List (ByteArray × ByteArray)} {m : Nat} {ao : Option Addr} {cap : Nat} (h : RlAt w w3 cs T ls m ao cap W) (hb : Below W.heap.size W W') : RlAt w w3 cs T ls m ao cap W' := ⟨h.one.stay hb, h.own.stay hb, then_ h.below hb⟩
set_option maxHeartbeats 4000000 in
set_option maxRecDepth 100000 in
theorem replyLines_any (w : World) (st : Int) (l : List (ByteArray × ByteArray)) (fo bo : Option Addr) (fcap bcap nf nb : Nat) (body : List UInt8) (hl : IsV w fo fcap nf (pairV l)) (hn : l.length = nf) (hz : ∀ p ∈ l, p.1.size + p.2.size ≤ maxLen) (hb : body.length = nb) (hBd : IsB w bo bcap body) (hP : PowAt w) :
    Calls Tryd.prog 4 #[.agg #[.int .i64 st, .slice fo nf fcap, .slice bo nb bcap]] w fun e w' => e = .returned (.bool true) ∧ Below w.heap.size w w' := by
  subst hn
  subst hb
  obtain ⟨i0, hi0, hz0, hz1, hz2⟩ := info_parts info_fld
  have Hi := Hid.mk' hi0; have Hz0 := Hid.mk' hz0; have Hz1 := Hid.mk' hz1; have Hz2 := Hid.mk' hz2
  have HX : Hid (∀ W, OneAt w #[.int .i64 st, .slice fo l.length fcap, .slice bo body.length bcap] 25 W → W.cell? ⟨w.heap.size, 0, none⟩ = some (.int .i64 st) ∧ W.cell? ⟨w.heap.size, 1, none⟩ = some (.slice fo l.length fcap) ∧ W.cell? ⟨w.heap.size, 2, none⟩ = some (.slice bo body.length bcap)) := fun W h => ⟨h.cell 0, h.cell 1, h.cell 2⟩
  have H0 := Hid.mk' (OneAt.made w #[.int .i64 st, .slice fo l.length fcap, .slice bo body.length bcap] 25)
  have HV := Hid.mk' hl; have HBd := Hid.mk' hBd; have HP := Hid.mk' hP; have HZ := Hid.mk' hz
  have HBg := Hid.mk' (replyBegun_any _ (hP.stay H0.out.below))
  clear hl hBd hP hz hi0 hz0 hz1 hz2
  go_enter Tryd.func4, Tryd.ntmps4
  go_wp2_with fail
  refine HBg.out.mono ?_
  rintro e w1 ⟨rfl, hb1⟩
  have HO1 := Hid.mk' (H0.out.stay hb1)
  clear hb1 HBg H0
  obtain ⟨x0, x1, x2⟩ := HX.out w1 HO1.out
  go_wp2_with fail
  refine (greatFields_any l fo fcap l.length w1 (HV.out.stay HO1.out.below) rfl HZ.out).mono ?_
  rintro e w2 ⟨b, rfl, hsm, q, rfl⟩
  have HO2 := Hid.mk' (HO1.out.stay (below_drewN (Below.refl _ _) q))
  clear x0 x1 x2 HO1
  generalize w1.drewN q = w2 at *
  obtain ⟨x0, x1, x2⟩ := HX.out w2 HO2.out
  cases b with
  | true =>
    clear hsm
    go_wp2
    go_ret
    exact ⟨rfl, HO2.out.below⟩
  | false =>
    have HSm := Hid.mk' (hsm rfl)
    clear hsm
    by_cases h9 : 9000 < body.length
    · have t9 : decide ((body.length : Int) > 9000) = true := decide_eq_true (by omega)
      go_wp2
      go_ret
      exact ⟨rfl, HO2.out.below⟩
    · have t9 : decide ((body.length : Int) > 9000) = false := decide_eq_false (by omega)
      have HW := Hid.mk' (writeR_any w2 st l fo bo fcap bcap body.length body (HV.out.stay HO2.out.below) (by have := HSm.out.1; omega) HSm.out.two rfl (HBd.out.stay HO2.out.below) (by omega) (HP.out.stay HO2.out.below))
      have HRe := Hid.mk' (fun h => Rp.out_rest (st := st) (l := l) (body := body) h (by omega))
      generalize Rp.out st l body = r at *
      go_wp2_with fail
      refine HW.out.mono ?_
      rintro e w3 hO
      clear HW
      cases hO with
      | bad c hc he ht hB =>
        subst he
        have tc : ((c : Int) != 0) = true := by rw [bne_iff_ne]; omega
        have HO3 := Hid.mk' (HO2.out.stay hB)
        clear hB ht hc x0 x1 x2 HO2
        go_wp2
        go_ret
        exact ⟨rfl, HO3.out.below⟩
      | ok g cap n he hnr ht hU hB =>
        subst he
        obtain ⟨hwd, h16, hre, hall⟩ := HRe.out ht
        obtain ⟨hs1, hs2⟩ := Rp.word_has hwd
        obtain ⟨sn, rfl⟩ : ∃ sn : Nat, st = (sn : Int) := ⟨st.toNat, by omega⟩
        rw [hre] at hnr hU
        have hcap := hU.le
        rw [← hnr] at hcap
        have HNr := Hid.mk' hnr; have HAll := Hid.mk' hall
        have HO3 := Hid.mk' (HO2.out.stay hB)
        have HU := Hid.mk' hU.isB
        have HLl : Hid ((l ++ [pCL body.length]).length = l.length + 1) := by unfold Hid; simp
        have hnn : n ≤ 200000 := by
          have e := hnr
          have h2 := rp_lines_le (l ++ [pCL body.length]) (fun p hp => by
            rcases List.mem_append.1 hp with hp | hp
            · exact HSm.out.two p hp
            · rw [List.mem_singleton.1 hp]
              have := Ch.decF_length 8 body.length
              exact ⟨by show bCL.size ≤ 2000; decide, by show (Ch.decF 8 body.length).toArray.size ≤ 2000; rw [List.size_toArray]; omega⟩)
          rw [HLl.out] at h2
          have h3 := Rp.word_len sn
          have h4 := Ch.decF_length 8 (sn : Int).toNat
          rw [Rp.rest] at e
          unfold Rp.first Rp.h11 at e
          simp only [List.length_append, List.length_cons, List.length_nil] at e
          omega
        clear hre hall hnr hU hB HRe HO2 x0 x1 x2
        have HPl : Hid (pairV (l ++ [pCL body.length]) = pairV l ++ [.string bCL, .string (pCL body.length).2]) := by unfold Hid; simp [pairV, pCL]
        have HTk : Hid ((l ++ [pCL body.length]).take l.length = l) := by unfold Hid; simp
        generalize hll : l ++ [pCL body.length] = ls at *
        clear hll
        have HC : Hid (∀ i, Rp.pos sn ls i + 2 ≤ n ∧ ∀ W ao2 c2, Below w3.heap.size w3 W → c2 = cap - Rp.pos sn ls i → (cap ≠ Rp.pos sn ls i → ao2 = some ⟨g, Rp.pos sn ls i, none⟩) → Calls Tryd.prog 12 #[.slice ao2 (n - Rp.pos sn ls i) c2] W fun e w' => e = .returned (Ln.val (Ln.of (Rp.rest sn ls body i))) ∧ w' = W) := fun i => by
          have h1 := Rp.pos_len sn ls body i
          have h2 := Rp.rest_pos sn ls body i
          rw [← HNr.out] at h1
          refine ⟨by omega, fun W ao2 c2 hW hc ha => ?_⟩
          subst hc
          have h3 := (HU.out.stay hW).cut (ao' := ao2) (Rp.pos sn ls i) n (by omega) (by rw [HNr.out]; exact Nat.le_refl _) (fun e => by rw [ha e]; simp [Addr.add_lit])
          rw [Rp.rest_drop, List.take_of_length_le (by omega)] at h3
          exact lineOf_any _ ao2 _ _ W h3 (by omega) (by omega)
        go_wp2
        go_loopw [5, 6, 7] (fun v5 v6 v7 wr => ∃ (i m : Nat) (gl : Option Addr) (lcap : Nat), i ≤ l.length + 2 ∧ m = i - 1 ∧ v5 = .int .i64 (Rp.pos sn ls i : Nat) ∧ v6 = .slice gl m lcap ∧ v7 = .int .i64 i ∧ RlAt w w3 #[.int .i64 (sn : Int), .slice fo l.length fcap, .slice bo body.length bcap] 25 ls m gl lcap wr) (fun _ _ v7 _ => l.length + 2 - (intOf v7).toNat)
        case atStart => exact ⟨0, 0, none, 0, by omega, rfl, rfl, rfl, rfl, ⟨HO3.out, OwnV.nil _ _ _ _, Below.refl _ _⟩⟩
        case round =>
          obtain ⟨i, m, gl, lcap, hi, hm, rfl, rfl, rfl, hR⟩ := hrel
          have HR := Hid.mk' hR
          clear hR
          obtain ⟨hp2, hline⟩ := HC.out i
          obtain ⟨x0, x1, x2⟩ := HX.out wr HR.out.one
          have hac : cap ≠ Rp.pos sn ls i := by omega
          cases i with
          | zero =>
            subst hm
            have HLi := Hid.mk' (hline wr (some ⟨g, 0, none⟩) cap HR.out.below (by rw [Rp.pos]; omega) (fun _ => rfl))
            have hp1 := (HC.out 1).1
            rw [Rp.rest_first ls body hwd] at HLi
            unfold Ln.val at HLi
            have HNm : Hid (∀ W, Calls Tryd.prog 13 #[.int .i64 (sn : Int)] W fun e w' => e = .returned (.string ⟨(Ch.decF 8 sn).toArray⟩) ∧ ∃ m, w' = W.drewN m) := fun W => num_f 8 sn W (by omega) (by omega) (by omega)
            have HSw : Hid (∀ W, Calls Tryd.prog 10 #[.int .i64 (sn : Int)] W fun e w' => e = .returned (.string ⟨(Rp.word sn).toArray⟩) ∧ w' = W) := fun W => wordR_any sn W
            have hwl := Rp.word_len sn
            have hdl := Ch.decF_length 8 sn
            have hwz : (⟨(Rp.word sn).toArray⟩ : ByteArray).size ≤ 22 := by show (Rp.word sn).toArray.size ≤ 22; rw [List.size_toArray]; exact hwl
            have hdz : (⟨(Ch.decF 8 sn).toArray⟩ : ByteArray).size ≤ 9 := by show (Ch.decF 8 sn).toArray.size ≤ 9; rw [List.size_toArray]; omega
            have heq : ((⟨(Rp.line1 sn).toArray⟩ : ByteArray).toList == (⟨#[72, 84, 84, 80, 47, 49, 46, 49, 32]⟩ ++ (⟨(Ch.decF 8 sn).toArray⟩ : ByteArray) ++ ⟨#[32]⟩ ++ (⟨(Rp.word sn).toArray⟩ : ByteArray)).toList) = true := by
              rw [beq_iff_eq, Lib.toList_data, Lib.toList_data]
              simp only [Ch.data_append]
              rfl
            generalize (⟨(Rp.line1 sn).toArray⟩ : ByteArray) = tb at *
            generalize (⟨(Rp.word sn).toArray⟩ : ByteArray) = wd at *
            generalize (⟨(Ch.decF 8 sn).toArray⟩ : ByteArray) = db at *
            generalize hq1 : Rp.pos sn ls 1 = p1 at *
            have HQ1 := Hid.mk' hq1
            clear hline hwl hdl hq1
            rw [show Rp.pos sn ls 0 = 0 from rfl] at HLi hac hp2 ⊢
            go_wp2_with fail
            refine HLi.out.mono ?_
            rintro e w5 ⟨rfl, hw⟩
            subst hw
            go_wp2
            go_quiet ((first | (go_at_call 13; exact Calls.quiet_of (HNm.out _)) | (go_at_call 10; exact Calls.quiet_of_same (HSw.out _))))
            go_wp2
            go_roundw
            case rel => exact ⟨1, 0, gl, lcap, by omega, rfl, by rw [HQ1.out], rfl, by go_num, HR.out.stay (below_drewN (Below.refl _ _) _)⟩
            case measure => simp [intOf]
          | succ k =>
            obtain rfl : m = k := by omega
            clear hm
            by_cases hk : m < ls.length
            · obtain ⟨e1, e2, e3, e4⟩ := Rp.rest_line sn ls body m hk (HAll.out _ (List.getElem_mem hk))
              have HTk1 : Hid (ls.take (m + 1) = ls.take m ++ [ls[m]]) := List.take_succ_eq_append_getElem hk
              have hp3 := (HC.out (m + 2)).1
              have hkl := HLl.out
              have HLi := Hid.mk' (hline wr (some ⟨g, Rp.pos sn ls (m + 1), none⟩) (cap - Rp.pos sn ls (m + 1)) HR.out.below rfl (fun _ => rfl))
              rw [e1] at HLi
              unfold Ln.val at HLi
              have htl : (Fd.text ls[m].1.data.toList ls[m].2.data.toList).1.length ≤ (Rp.lineT ls[m]).length := by unfold Rp.lineT; rw [List.length_append]; omega
              have hne : ((⟨(Fd.text ls[m].1.data.toList ls[m].2.data.toList).1.toArray⟩ : ByteArray).toList == ([] : List UInt8)) = false := by rw [Lib.toList_data, beq_eq_false_iff_ne]; simpa using e2
              have HFo := Hid.mk' (fieldOf_any ⟨(Fd.text ls[m].1.data.toList ls[m].2.data.toList).1.toArray⟩ wr (by show (Fd.text ls[m].1.data.toList ls[m].2.data.toList).1.toArray.size ≤ _; rw [List.size_toArray]; omega))
              rw [show (⟨(Fd.text ls[m].1.data.toList ls[m].2.data.toList).1.toArray⟩ : ByteArray).data.toList = (Fd.text ls[m].1.data.toList ls[m].2.data.toList).1 from rfl, e3] at HFo
              unfold Fd.val at HFo
              rw [show (⟨ls[m].1.data.toList.toArray⟩ : ByteArray) = ls[m].1 from rfl, show (⟨ls[m].2.data.toList.toArray⟩ : ByteArray) = ls[m].2 from rfl] at HFo
              generalize (⟨(Fd.text ls[m].1.data.toList ls[m].2.data.toList).1.toArray⟩ : ByteArray) = tb at *
              rw [e4] at hp3
              have HE4 := Hid.mk' e4
              clear e1 e2 e3 e4 htl hline
              generalize ls[m] = p at *
              generalize (Rp.lineT p).length = ln at *
              generalize Rp.pos sn ls (m + 1) = at_ at *
              go_wp2_with fail
              refine HLi.out.mono ?_
              rintro e w5 ⟨rfl, hw⟩
              subst hw
              go_wp2_with fail
              refine HFo.out.mono ?_
              rintro e w6 ⟨rfl, hb6⟩
              have HR6 := Hid.mk' (HR.out.stay hb6)
              clear hb6 x0 x1 x2 HFo HLi
              have HOp : Hid (OwnV ((w6.alloc (.cells #[.string p.1, .string p.2] 36)).alloc (.cells #[.string p.1, .string p.2] 36)) w3.heap.size 36 2 gl lcap m (pairV (ls.take m))) := (HR6.out.own.alloc _).alloc _
              have HSr : Hid (IsV ((w6.alloc (.cells #[.string p.1, .string p.2] 36)).alloc (.cells #[.string p.1, .string p.2] 36)) (some ⟨w6.heap.size + 1, 0, none⟩) 1 1 [.string p.1, .string p.2]) := by
                have := IsV.made (w6.alloc (.cells #[.string p.1, .string p.2] 36)) #[.string p.1, .string p.2] 1 36 (0, 0)
                rw [World.size_alloc] at this
                exact this
              have HBe : Hid (Below w6.heap.size w6 ((w6.alloc (.cells #[.string p.1, .string p.2] 36)).alloc (.cells #[.string p.1, .string p.2] 36))) := ((Below.refl _ _).alloc (Nat.le_refl _) _).alloc (by simp) _
              have HZs : Hid (w3.heap.size ≤ ((w6.alloc (.cells #[.string p.1, .string p.2] 36)).alloc (.cells #[.string p.1, .string p.2] 36)).heap.size) := Nat.le_trans HR6.out.below.size HBe.out.size
              go_wp2_with (at_builtin; refine wpList_append_v rfl (.tmp 77) (.tmp 79) 22 rfl w3.heap.size 36 i0 (.agg #[.string ⟨#[]⟩, .string ⟨#[]⟩]) 2 32 Tryd.underlying22 Hi.out Hz0.out Hz1.out Hz2.out rfl (by decide) rfl HOp.out rfl HSr.out rfl (prOnes _ _) (by omega) (by omega) HZs.out ?_; intro ao7 cap7 w7 hO7 hG7 hat7; have HO7 := Hid.mk' hO7; have HG7 := Hid.mk' hG7; have HA7 := Hid.mk' hat7; clear hO7 hG7 hat7)
              go_roundw
              case rel =>
                have hR8 := HR6.out.stay HBe.out
                have hr : ∀ q, blockOf gl = some q → w3.heap.size ≤ q := fun q e => by
                  cases gl with
                  | none => cases e
                  | some a => injection e with e; subst e; exact (HR6.out.own.block a rfl).1
                refine ⟨m + 2, m + 1, ao7, cap7, by omega, by omega, by rw [HE4.out]; go_num, rfl, by go_num, ⟨?_, ?_, ?_⟩⟩
                · refine ⟨(HG7.out.block _ hR8.one.lt (fun e => ?_)).trans hR8.one.one, hR8.one.below.grown HG7.out hR8.one.below.size (fun q e => Nat.le_trans (Nat.le_of_lt HO3.out.lt) (hr q e))⟩
                  have := hr _ e.symm
                  have := HO3.out.lt
                  omega
                · have := HO7.out
                  rw [HTk1.out, pairV_append]
                  exact this
                · exact hR8.below.grown HG7.out hR8.below.size hr
              case measure => simp [intOf]; omega
            · obtain rfl : m = ls.length := by have := HLl.out; omega
              obtain ⟨e1, e2⟩ := Rp.rest_end sn ls body
              have HLi := Hid.mk' (hline wr (some ⟨g, Rp.pos sn ls (ls.length + 1), none⟩) (cap - Rp.pos sn ls (ls.length + 1)) HR.out.below rfl (fun _ => rfl))
              rw [e1] at HLi
              unfold Ln.val at HLi
              have hIb := fun (W : World) (hW : Below w3.heap.size w3 W) (ao2 : Option Addr) (c2 : Nat) (hc : c2 = cap - (Rp.pos sn ls (ls.length + 1) + 2)) (ha : cap ≠ Rp.pos sn ls (ls.length + 1) + 2 → ao2 = some ⟨g, Rp.pos sn ls (ls.length + 1) + 2, none⟩) => (show IsB W ao2 c2 body by
                subst hc
                have h3 := (HU.out.stay hW).cut (ao' := ao2) (Rp.pos sn ls (ls.length + 1) + 2) n hp2 (by rw [HNr.out]; exact Nat.le_refl _) (fun e => by rw [ha e]; simp [Addr.add_lit])
                rw [e2, List.take_of_length_le (by
                  have := congrArg List.length e2
                  rw [List.length_drop, ← HNr.out] at this
                  omega)] at h3
                exact h3)
              have hbl : n - (Rp.pos sn ls (ls.length + 1) + 2) = body.length := by
                have := congrArg List.length e2
                rw [List.length_drop, ← HNr.out] at this
                omega
              have HIb := Hid.mk' hIb
              clear e1 e2 hline hIb
              generalize Rp.pos sn ls (ls.length + 1) = at_ at *
              have hown := HR.out.own
              rw [List.take_length, HPl.out] at hown
              have hL := HLl.out
              have HBw := Hid.mk' HR.out.below; have HOr := Hid.mk' HR.out.one
              clear HR
              generalize ls.length = L at *
              subst hL
              have hrow := hown.isV
              have hlc := hrow.1
              obtain ⟨bf, ofs, rfl, hcs⟩ := hrow.lit (by simp)
              have c0 := hcs (l.length * 2) (.string bCL) (by rw [List.getElem?_append_right (by rw [pairV_length]; omega), pairV_length]; simp)
              have c1 := hcs (l.length * 2 + 1) (.string (pCL body.length).2) (by rw [List.getElem?_append_right (by rw [pairV_length]; omega), pairV_length]; simp)
              rw [← Nat.add_assoc] at c1
              have HSf : Hid (∀ q, Calls Tryd.prog 15 #[.slice (some ⟨bf, ofs, none⟩) l.length lcap, .slice fo l.length fcap] (wr.drewN q) fun e w' => e = .returned (.bool true) ∧ ∃ n, w' = (wr.drewN q).drewN n) := fun q => sameFields_yes l _ _ _ _ _ ((hrow.prefix (by omega)).drewN q) ((HV.out.stay HOr.out.below).drewN q) (by omega)
              have HNm : Hid (∀ W, Calls Tryd.prog 13 #[.int .i64 (body.length : Int)] W fun e w' => e = .returned (.string (pCL body.length).2) ∧ ∃ m, w' = W.drewN m) := fun W => num_f 8 body.length W (by omega) (by omega) (by omega)
              have heq := fun W => eql_field bCL (pCL body.length).2 bCL (pCL body.length).2 W
              rw [beq_self_eq_true, beq_self_eq_true] at heq
              have hgu := guard_field
              unfold bCL at c0 heq
              generalize (pCL body.length).2 = pd at *
              clear hcs hown hrow HPl
              have HSb : Hid (∀ q ao2 c2 n2, n2 = body.length → c2 = cap - (at_ + 2) → (cap ≠ at_ + 2 → ao2 = some ⟨g, at_ + 2, none⟩) → Calls Tryd.prog 9 #[.slice ao2 n2 c2, .slice bo body.length bcap] (wr.drewN q) fun e w' => e = .returned (.bool true) ∧ w' = wr.drewN q) := fun q ao2 c2 n2 h1 h2 h3 => by
                have := sameBytes_any (wr.drewN q) ao2 bo c2 bcap n2 body.length body body h1.symm rfl (HIb.out _ (HBw.out.trans ⟨rfl, rfl, rfl, Nat.le_refl _, fun _ _ => rfl⟩) _ _ h2 h3) ((HBd.out.stay HOr.out.below).drewN q)
                rw [decide_eq_true rfl] at this
                exact this
              have HBl := Hid.mk' hbl
              clear hbl
              have hq1 : (l.length : Int) ≤ (lcap : Int) := by omega
              have hq2 : (at_ : Int) + 2 ≤ (n : Int) := by omega
              have hq3 : l.length ≤ lcap := by omega
              have hq4 : lcap ≠ 0 := by omega
              go_wp2_with fail
              refine HLi.out.mono ?_
              rintro e w5 ⟨rfl, hw⟩
              subst hw
              go_wp2
              by_cases hac2 : cap = at_ + 2
              · subst hac2
                obtain rfl : n = at_ + 2 := by omega
                go_quiet ((first | (go_at_call 13; exact Calls.quiet_of (HNm.out _)) | (go_at_call 15; exact Calls.quiet_of (HSf.out _)) | (go_at_call 9; exact Calls.quiet_of_same (HSb.out _ _ _ _ (by have := HBl.out; omega) (by omega) (fun e => absurd rfl e)))))
                go_wp2
                go_ret
                exact ⟨rfl, HOr.out.below.trans ⟨rfl, rfl, rfl, Nat.le_refl _, fun _ _ => rfl⟩⟩
              · go_quiet ((first | (go_at_call 13; exact Calls.quiet_of (HNm.out _)) | (go_at_call 15; exact Calls.quiet_of (HSf.out _)) | (go_at_call 9; exact Calls.quiet_of_same (HSb.out _ _ _ _ (HBl.out) (rfl) (fun _ => rfl)))))
                go_wp2
                go_ret
                exact ⟨rfl, HOr.out.below.trans ⟨rfl, rfl, rfl, Nat.le_refl _, fun _ _ => rfl⟩⟩
end Go.Proofs.YtjhbiipbmlpgoaaDoor
