/- THE LAW PackBack, walked whole: there and back. -/
import Derived.Test.YtjpenioloeplgadGreatDoorPk27
import Derived.Test.YtjpenioloeplgadGreatDoorPk26
import Derived.Test.YtjpenioloeplgadGreatDoorLwPiec
import Derived.Test.YtjpenioloeplgadGreatDoorRfSamPs
import Derived.Deep.RegionLaw
namespace Go.Proofs.YtjpenioloeplgadGreatDoor
open Go.RowKit

/-- a piece in whatever world that keeps the row -/
theorem PcRel.at3 {w : World} {bo : Option Addr} {l : List UInt8} {b o cap : Nat} {ps : List Pc} {w4 wr : World} {P : Nat → Prop} {fr : Nat} (h : PcRel w bo l fr (some ⟨b, o, none⟩) cap ps w4) (hT : Turns P w4 wr) (hP : ∀ k, P k → k < w.heap.size) (i : Nat) (hi : i < ps.length) : wr.cell? ⟨b, o + i, none⟩ = some (.slice ps[i].ao ps[i].l.length ps[i].cap) := by
  have hv := h.own.isV.turns hT (fun a e => by
    have hb := (h.own.block a e).1
    intro k
    have := hP _ k
    omega)
  have hc := hv.cell (j := i) (u := ps[i].v) (by unfold pcV; rw [List.getElem?_map, List.getElem?_eq_getElem hi]; rfl)
  rw [Addr.add_lit] at hc
  exact hc

set_option maxRecDepth 100000 in
set_option maxHeartbeats 8000000 in
theorem packBack_any (s : ByteArray) (ps : List Fm.Pt) (ao co : Option Addr) (cap n ccap nc : Nat) (cs : List Int) (w : World) (hP : IsPts w ao cap ps) (hn : ps.length = n) (hN : n ≤ 140737488355328) (hz : ∀ p ∈ ps, psz p ≤ 562949953421312) (hC : IsV w co ccap nc (cs.map fun c => Value.int .i64 c)) (hnc : cs.length = nc) (mx : Int) (hm : w.cell? ⟨0, 0, none⟩ = some (.int .i64 mx)) :
    Calls Tryz.prog 5 #[.string s, .slice ao n cap, .slice co nc ccap] w fun e w' => e = .returned (.bool true) ∧ Below w.heap.size w w' := by
  have HP := Hid.mk' hP; have HZ := Hid.mk' hz; have HM := Hid.mk' hm; have HC := Hid.mk' hC; have HNc := Hid.mk' hnc; have HNn := Hid.mk' hn
  clear hP hz hm hC hnc hn
  go_enter Tryz.func5, Tryz.ntmps5
  go_wp2_with fail
  refine (packBegun_any _ mx HM.out).mono ?_
  rintro e w1 ⟨rfl, hb1⟩
  have HB1 := Hid.mk' hb1
  have HM1 := Hid.mk' ((hb1.cell (World.block_lt_of_cell? w _ HM.out)).trans HM.out)
  have HP1 := Hid.mk' (HP.out.stay hb1)
  clear hb1
  go_wp2_with fail
  refine (greatParts_any ps ao cap n w1 HP1.out HNn.out hN HZ.out).mono ?_
  rintro e w2 ⟨b, rfl, hsm, q, rfl⟩
  have hbq : Below w1.heap.size w1 (w1.drewN q) := below_drewN (Below.refl _ _) q
  have HB2 := Hid.mk' (then_ HB1.out hbq)
  have HM2 := Hid.mk' ((hbq.cell (World.block_lt_of_cell? w1 _ HM1.out)).trans HM1.out)
  clear hbq
  generalize w1.drewN q = w2 at *
  cases b with
  | true =>
    clear hsm
    go_wp2
    go_ret
    exact ⟨rfl, HB2.out⟩
  | false =>
  obtain ⟨h40, hall, h6⟩ := hsm rfl
  have HA : Hid (∀ p ∈ ps, PtSmall p) := fun p hp => by have := hall p hp; unfold psz at this; exact ⟨by omega, by omega, by omega, by omega⟩
  have HSum : Hid ((ps.map fun p => p.bytes.length).sum ≤ 6000) := by
    have : ∀ l : List Fm.Pt, (l.map fun p => p.bytes.length).sum ≤ pszs l := fun l => by
      induction l with
      | nil => exact Nat.zero_le _
      | cons p t ih => unfold pszs at ih ⊢; rw [List.map_cons, List.map_cons, List.sum_cons, List.sum_cons]; unfold psz at ih ⊢; omega
    exact Nat.le_trans (this ps) h6
  have H40 : Hid (n ≤ 40) := by have := HNn.out; unfold Hid; omega
  clear hall hsm h6 h40
  by_cases h3 : 300 < s.size
  · have t3 : decide ((s.size : Int) > 300) = true := decide_eq_true (by omega)
    go_wp2
    go_ret
    exact ⟨rfl, HB2.out⟩
  have t3 : decide ((s.size : Int) > 300) = false := decide_eq_false (by omega)
  by_cases h5 : 50 < nc
  · have t5 : decide ((nc : Int) > 50) = true := decide_eq_true (by omega)
    go_wp2
    go_ret
    exact ⟨rfl, HB2.out⟩
  have t5 : decide ((nc : Int) > 50) = false := decide_eq_false (by omega)
  have HW := Hid.mk' (writeK_any s ps ao cap n w2 (HP.out.stay HB2.out) HNn.out (by have := H40.out; omega) HA.out (by omega) mx HM2.out)
  go_wp2_with fail
  refine HW.out.mono ?_
  rintro e w3 hO
  cases hO with
  | bad c hr he hb3 =>
    subst he
    have HB3 := Hid.mk' (then_ HB2.out hb3)
    have hc := Pk.text_code hr
    have tc : ((c : Int) != 0) = true := by rw [bne_iff_ne]; omega
    clear hb3 HW hr
    go_wp2
    go_ret
    exact ⟨rfl, HB3.out⟩
  | good t hr ao3 cap3 n3 he hn3 hO3 hb3 =>
  subst he; subst hn3
  have HTl : Hid (t.length ≤ 12000) := by
    have h1 := Pk.text_len hr
    rw [Pk.pp_sum] at h1
    have := HSum.out
    unfold Hid
    omega
  have hbk := Pk.read_back hr
  rw [Pk.pp_pt] at hbk
  obtain ⟨bk1, bk2, bk3, bk4⟩ := hbk
  have HK1 := Hid.mk' bk1; have HK2 := Hid.mk' bk2; have HK3 := Hid.mk' bk3; have HK4 := Hid.mk' bk4
  have HB3 := Hid.mk' (then_ HB2.out hb3)
  have HI3 := Hid.mk' hO3.isB
  have HRd := Hid.mk' (read_any s t ao3 cap3 t.length w3 hO3.isB rfl (by have := HTl.out; omega))
  clear hb3 HW hr hO3 bk1 bk2 bk3 bk4
  go_wp2_with fail
  refine HRd.out.mono ?_
  rintro e w4 hR
  cases hR with
  | no c hc h he hb =>
    rcases h with ⟨h, _⟩ | ⟨_, h⟩
    · rw [HK1.out] at h; cases h
    · rw [HK2.out] at h; exact absurd h.symm hc
  | yes hm h wx ao4 cap4 n4 he hPt hb4 =>
  subst he
  rw [HK3.out] at hPt
  have hn4 := hPt.len
  subst hn4
  have HB4 := Hid.mk' (then_ HB3.out hb4)
  have HSp := Hid.mk' (sameParts_yes ps ao ao4 cap cap4 w4 (HP.out.stay HB4.out) hPt.isPts (by have := HNn.out; have := H40.out; omega))
  have HI4 := Hid.mk' (HI3.out.stay hb4)
  have hs34 := hb4.size
  rw [HNn.out] at HSp
  clear hb4 hPt h hm HRd
  rw [HNn.out]
  go_wp2_with fail
  refine HSp.out.mono ?_
  rintro e w5 ⟨rfl, hb5⟩
  have HB5 := Hid.mk' (then_ HB4.out hb5)
  have HI5 := Hid.mk' (HI4.out.stay hb5)
  have hs45 := hb5.size
  have HN5 := Hid.mk' (newForm_any s w5)
  clear hb5 HSp
  go_wp2_with fail
  refine HN5.out.mono ?_
  rintro e w6 hN6
  cases hN6 with
  | no h => rw [HK1.out] at h; cases h
  | yes h g he hR hb6 =>
  subst he
  have HOk := Hid.mk' (start_ok h)
  have HB6 := Hid.mk' (then_ HB5.out hb6)
  have HI6 := Hid.mk' (HI5.out.stay hb6)
  have hs56 := hb6.size
  have HR6 := Hid.mk' hR
  clear hb6 hR h HN5 HK1
  generalize Fm.mark s.data.toList = mm at *
  have HPi := Hid.mk' (pieces_any w6 t ao3 co cap3 t.length ccap nc cs HI6.out rfl (by have := HTl.out; omega) (HC.out.stay HB6.out) HNc.out (by omega))
  generalize htn : t.length = tn at *
  have HTn := Hid.mk' htn
  clear htn
  go_wp2_with fail
  refine HPi.out.mono ?_
  rintro e w7 ⟨pcs, ra, rcap, rfl, hPc, hpl⟩
  have HPc := Hid.mk' hPc
  have hp1 : pcs.length ≤ 51 := by omega
  have hp0 : 0 < pcs.length := by omega
  have hs67 := hPc.below.size
  have HB7 := Hid.mk' (then_ HB6.out hPc.below)
  have HG := Hid.mk' (GfAt.start ((HR6.out.mono (S' := fun k => w5.heap.size ≤ k ∧ k < w6.heap.size) (fun k hk e => ⟨e, hk⟩)).stay hPc.below))
  have Hs : Hid (w3.heap.size ≤ w4.heap.size ∧ w4.heap.size ≤ w5.heap.size ∧ w5.heap.size ≤ w6.heap.size ∧ w6.heap.size ≤ w7.heap.size ∧ w.heap.size ≤ w5.heap.size) := ⟨hs34, hs45, hs56, hs67, HB5.out.size⟩
  clear hPc hpl HPi hs34 hs45 hs56 hs67
  have HFl : Hid ((pcs.map Pc.l).flatten = t) := by unfold Hid; rw [HPc.out.flat, ← HTn.out, List.take_length]
  have HAll : Hid (∀ k, (Fm.fed mm Fm.start ((pcs.map Pc.l).take k)).length ≤ 24000 ∧ sumD (Fm.fed mm Fm.start ((pcs.map Pc.l).take k)) ≤ 24002 ∧ ∀ e ∈ Fm.fed mm Fm.start ((pcs.map Pc.l).take k), e.pbytes = []) := fun k => by
    have h1 := Fm.fed_all (by have := HOk.out.long; omega) ((pcs.map Pc.l).take k) HOk.out.good
    have h2 : ((pcs.map Pc.l).take k).flatten.length ≤ t.length := by
      have := congrArg List.length (HFl.out)
      rw [← this]
      conv => rhs; rw [← List.take_append_drop k (pcs.map Pc.l), List.flatten_append, List.length_append]
      omega
    have h3 := HTl.out; have h4 := HTn.out
    have hh0 : Fm.start.held = 2 := rfl
    exact ⟨by omega, by omega, fun e he => (h1.2.2 e he).pbytes⟩
  obtain ⟨rb, ro, rfl, _⟩ := HPc.out.own.isV.lit (by rw [pcV_length]; exact hp0)
  have hcap := HPc.out.own.isV.1
  obtain ⟨i0, hi0, hz0, hz1, hz2⟩ := info_parts info_part
  have Hi := Hid.mk' hi0; have Hz0 := Hid.mk' hz0; have Hz1 := Hid.mk' hz1; have Hz2 := Hid.mk' hz2
  obtain ⟨u0, hu0, hy0, hy1, hy2⟩ := info_parts info_u8
  have Hu := Hid.mk' hu0; have Hy0 := Hid.mk' hy0; have Hy1 := Hid.mk' hy1; have Hy2 := Hid.mk' hy2
  clear hi0 hz0 hz1 hz2 hu0 hy0 hy1 hy2 t3 t5
  go_wp2
  go_loopw [13, 15] (fun vg vi wr => ∃ (i gn : Nat) (ag : Option Addr) (gc : Nat), i ≤ pcs.length ∧ vi = .int .i64 i ∧ vg = .slice ag gn gc ∧ gn = (Pk.gathA (Fm.fed mm Fm.start ((pcs.map Pc.l).take i))).length ∧ GfAt w7 (fun k => w5.heap.size ≤ k ∧ k < w6.heap.size) g mm (Fm.fold mm Fm.start ((pcs.map Pc.l).take i).flatten) [] none 0 (Pk.gathA (Fm.fed mm Fm.start ((pcs.map Pc.l).take i))) ag gc wr) (fun _ vi _ => pcs.length - (intOf vi).toNat)
  case atStart => exact ⟨0, 0, none, 0, Nat.zero_le _, rfl, rfl, rfl, HG.out⟩
  case round =>
    clear HG
    obtain ⟨i, gn, ag, gc, hi, rfl, rfl, hgn, hG⟩ := hrel
    have HG := Hid.mk' hG; have HGn := Hid.mk' hgn
    clear hG hgn
    by_cases hlt : i < pcs.length
    · have hlt' : (i : Int) < pcs.length := by omega
      have ci := HPc.out.at3 HG.out.turns (fun k e => by have := Hs.out; omega) i hlt
      have HPi := Hid.mk' (HPc.out.all pcs[i] (List.getElem_mem hlt))
      have HT : Hid ((pcs.map Pc.l).take (i + 1) = (pcs.map Pc.l).take i ++ [pcs[i].l]) := by
        unfold Hid
        rw [List.take_succ_eq_append_getElem (by rw [List.length_map]; exact hlt), List.getElem_map]
      have hpt : pcs[i].l.length ≤ t.length := by
        have h2 := congrArg List.length HFl.out
        have h3 : pcs[i].l.length ≤ (pcs.map Pc.l).flatten.length := by
          conv => rhs; rw [← List.take_append_drop (i + 1) (pcs.map Pc.l), HT.out, List.flatten_append, List.flatten_append, List.length_append, List.length_append]
          simp; omega
        omega
      have hpl : pcs[i].l.length ≤ 12000 := by have := HTl.out; have := HTn.out; omega
      have HF := Hid.mk' (HG.out.feed (HOk.out.fold _) pcs[i].l pcs[i].ao pcs[i].cap pcs[i].l.length (HPi.out.is.stay HPc.out.below) (fun hne a e k => by
        obtain ⟨a0, e0, hb⟩ := HPi.out.blk hne a e
        have h4 : 0 < pcs[i].l.length := List.length_pos_iff.2 hne
        subst e0
        have := World.block_lt_of_cell? w3 _ (HI3.out.cell 0 (by omega))
        rw [add_block] at this
        have := Hs.out
        omega) rfl (by omega))
      have HT2 : Hid (((pcs.map Pc.l).take (i + 1)).flatten = ((pcs.map Pc.l).take i).flatten ++ pcs[i].l) := by unfold Hid; rw [HT.out, List.flatten_append]; simp
      have HT3 : Hid (Fm.fed mm Fm.start ((pcs.map Pc.l).take (i + 1)) = Fm.fed mm Fm.start ((pcs.map Pc.l).take i) ++ joinD (Fm.outs mm (Fm.fold mm Fm.start ((pcs.map Pc.l).take i).flatten) pcs[i].l)) := by unfold Hid; rw [HT.out, Fm.fed_snoc]
      clear HPi hpt
      generalize pcs[i] = p at *
      generalize hfs : joinD (Fm.outs mm (Fm.fold mm Fm.start ((pcs.map Pc.l).take i).flatten) p.l) = fs at *
      have HFo : Hid (Fm.fold mm (Fm.fold mm Fm.start ((pcs.map Pc.l).take i).flatten) p.l = Fm.fold mm Fm.start ((pcs.map Pc.l).take (i + 1)).flatten) := by unfold Hid; rw [HT2.out, Fm.fold_append]
      rw [HFo.out] at HF
      have HFe : Hid ((∀ e ∈ fs, e.pbytes = [] ∧ e.bytes.length ≤ 50000) ∧ fs.length ≤ 50000) := by
        obtain ⟨a1, a2, a3⟩ := HAll.out (i + 1)
        rw [HT3.out] at a1 a2 a3
        rw [List.length_append] at a1
        rw [sumD_append] at a2
        exact ⟨fun e he => ⟨a3 e (List.mem_append_right _ he), by have := sumD_mem fs e he; omega⟩, by omega⟩
      have HGb : Hid (∀ k, ((fs.take k).foldl Pk.laidA (Pk.gathA (Fm.fed mm Fm.start ((pcs.map Pc.l).take i)))).length ≤ 50000 ∧ ∀ p ∈ (fs.take k).foldl Pk.laidA (Pk.gathA (Fm.fed mm Fm.start ((pcs.map Pc.l).take i))), p.bytes.length ≤ 50000) := fun k => by
        obtain ⟨a1, a2, a3⟩ := HAll.out (i + 1)
        rw [HT3.out] at a1 a2 a3
        rw [List.length_append] at a1
        rw [sumD_append] at a2
        have f0 := Pk.foldA (Fm.fed mm Fm.start ((pcs.map Pc.l).take i)) [] 0 (fun p hp => by cases hp) (fun e he => a3 e (List.mem_append_left _ he))
        have f1 := Pk.foldA (fs.take k) (Pk.gathA (Fm.fed mm Fm.start ((pcs.map Pc.l).take i))) (sumD (Fm.fed mm Fm.start ((pcs.map Pc.l).take i))) (fun p hp => by have := f0.2 p hp; omega) (fun e he => a3 e (List.mem_append_right _ (List.mem_of_mem_take he)))
        have f2 : sumD (fs.take k) ≤ sumD fs := by
          conv => rhs; rw [← List.take_append_drop k fs, sumD_append]
          omega
        have f3 : (Pk.gathA (Fm.fed mm Fm.start ((pcs.map Pc.l).take i))).length ≤ (Fm.fed mm Fm.start ((pcs.map Pc.l).take i)).length := by have := f0.1; rw [List.length_nil, Nat.zero_add] at this; exact this
        have f4 : (fs.take k).length ≤ fs.length := by rw [List.length_take]; omega
        exact ⟨by have := f1.1; omega, fun p hp => by have := f1.2 p hp; omega⟩
      have HT4 : Hid (Pk.gathA (Fm.fed mm Fm.start ((pcs.map Pc.l).take (i + 1))) = fs.foldl Pk.laidA (Pk.gathA (Fm.fed mm Fm.start ((pcs.map Pc.l).take i)))) := by unfold Hid; rw [HT3.out, Pk.gathA_append]
      generalize hg0 : Pk.gathA (Fm.fed mm Fm.start ((pcs.map Pc.l).take i)) = G0 at *
      generalize hst : Fm.fold mm Fm.start ((pcs.map Pc.l).take (i + 1)).flatten = st at *
      have HSt := Hid.mk' hst
      clear hfs hg0 hst HG HT HT2 HT3 HFo
      obtain ⟨fn, hfn⟩ : ∃ fn, fs.length = fn := ⟨_, rfl⟩
      rw [hfn] at HF
      have HFn := Hid.mk' hfn
      have hf5 : fn ≤ 50000 := by have := HFe.out.2; omega
      clear hfn
      go_wp2_with fail
      refine HF.out.mono ?_
      rintro e w8 ⟨fo, fc, rfl, hFd⟩
      have HFd := Hid.mk' hFd
      clear HF hFd ci
      go_wp2
      go_loopw [13, 17] (fun vg vk wr => ∃ (k gn : Nat) (ag : Option Addr) (gc : Nat), k ≤ fn ∧ vk = .int .i64 k ∧ vg = .slice ag gn gc ∧ gn = ((fs.take k).foldl Pk.laidA G0).length ∧ GfAt w7 (fun k => w5.heap.size ≤ k ∧ k < w6.heap.size) g mm st fs fo fc ((fs.take k).foldl Pk.laidA G0) ag gc wr) (fun _ vk _ => fn - (intOf vk).toNat)
      case atStart => exact ⟨0, gn, ag, gc, Nat.zero_le _, rfl, rfl, HGn.out, HFd.out⟩
      case round =>
        clear HFd
        obtain ⟨k, kn, ka, kc, hk, rfl, rfl, hkn, hGk⟩ := hrel
        have HGk := Hid.mk' hGk; have HKn := Hid.mk' hkn
        have hk5 : kn ≤ 50000 := by have := (HGb.out k).1; omega
        clear hGk hkn
        by_cases hkl : k < fn
        · have hkl' : (k : Int) < fn := by omega
          have hkf : k < fs.length := by have := HFn.out; omega
          obtain ⟨b, o, sE, hfo, hE, hpo, hpc⟩ := HGk.out.ev k hkf
          have hfc : fn ≤ fc := by have := HGk.out.isEs.1; have := HFn.out; omega
          subst hfo
          have hpe := (HFe.out.1 fs[k] (List.getElem_mem hkf)).1
          have hbe := (HFe.out.1 fs[k] (List.getElem_mem hkf)).2
          have HTk : Hid ((fs.take (k + 1)).foldl Pk.laidA G0 = Pk.laidA ((fs.take k).foldl Pk.laidA G0) fs[k]) := Pk.foldA_take fs G0 k hkf
          have HEv : Hid (∀ (W : World) (G : List Fm.Pt) (a : Option Addr) (c : Nat), GfAt w7 (fun k => w5.heap.size ≤ k ∧ k < w6.heap.size) g mm st fs (some ⟨b, o, none⟩) fc G a c W → W.cell? ⟨b, o + k * 12, none⟩ = some (.int .i64 fs[k].kind)) := fun W G a c hW => by
            obtain ⟨b', o', s', e', hE', _⟩ := hW.ev k hkf
            injection e' with e'
            injection e' with e1 e2
            subst e1; subst e2
            exact hE'.at_ 0 _ rfl
          have HSm := Hid.mk' (HGb.out k).2
          have c0 : wr.cell? ⟨b, o + k * 12, none⟩ = some (.int .i64 fs[k].kind) := hE.at_ 0 _ rfl
          have c6 : wr.cell? ⟨b, o + k * 12 + 6, none⟩ = some (.slice sE.bo fs[k].bytes.length sE.bcap) := hE.at_ 6 _ rfl
          have c7 : wr.cell? ⟨b, o + k * 12 + 7, none⟩ = some (.string fs[k].pname) := hE.at_ 7 _ rfl
          have c8 : wr.cell? ⟨b, o + k * 12 + 8, none⟩ = some (.string fs[k].pfile) := hE.at_ 8 _ rfl
          have c9 : wr.cell? ⟨b, o + k * 12 + 9, none⟩ = some (.string fs[k].ptype) := hE.at_ 9 _ rfl
          have c10 : wr.cell? ⟨b, o + k * 12 + 10, none⟩ = some (.slice none 0 0) := by
            have := hE.at_ 10 _ rfl
            rw [hpo, hpc, hpe] at this
            exact this
          have HBy := Hid.mk' hE.bytes
          clear hE hpo hpc
          generalize fs[k] = e at *
          generalize hGl : (fs.take k).foldl Pk.laidA G0 = Gk at *
          have HPe := Hid.mk' hpe
          clear hGl hpe
          by_cases h5 : e.kind = 5
          · have t5 : (e.kind == 5) = true := beq_iff_eq.2 h5
            have t2 : (e.kind == 2) = false := by rw [h5]; rfl
            have HLd := Hid.mk' (HTk.out.trans (Pk.laidA_part Gk h5 HPe.out))
            obtain ⟨xs, hO, hpu⟩ := HGk.out.push (.cells #[.string e.pname, .string e.pfile, .string e.ptype, .slice none 0 0] 27)
            rw [← HKn.out] at hO hpu
            have HO := Hid.mk' hO; have HPu := Hid.mk' hpu
            clear h5 hO hpu HTk
            generalize e.kind = ek at *
            go_wp2_with (at_builtin; refine wpList_append_v rfl (.tmp 89) (.tmp 95) 36 rfl 0 27 i0 (.agg #[.string ⟨#[]⟩, .string ⟨#[]⟩, .string ⟨#[]⟩, .slice none 0 0]) 4 72 Tryz.underlying36 Hi.out Hz0.out Hz1.out Hz2.out rfl (by decide) rfl HO.out rfl (IsV.madeAt _ _ 1 _ _ (by simp)) rfl (fun u hu => by simp at hu; rcases hu with rfl | rfl | rfl | rfl <;> rfl) (by omega) (by omega) (Nat.zero_le _) ?_; intro a3 c3 w9 hO3 hG3 hat3; have HPp := Hid.mk' (HPu.out a3 c3 w9 ⟨e.pname, e.pfile, e.ptype, []⟩ rfl hO3 hG3 hat3); have d0 := HEv.out w9 _ _ _ HPp.out; clear hO3 hG3 hat3)
            go_roundw
            case rel => exact ⟨k + 1, kn + 1, a3, c3, by omega, by go_num, rfl, by rw [HLd.out, List.length_append, HKn.out]; rfl, by rw [HLd.out]; exact HPp.out⟩
            case measure => simp [intOf]; omega
          · have t5 : (e.kind == 5) = false := beq_eq_false_iff_ne.2 h5
            by_cases h2 : e.kind = 2
            · have t2 : (e.kind == 2) = true := beq_iff_eq.2 h2
              rcases List.eq_nil_or_concat Gk with hnil | ⟨q, p0, hcat⟩
              · subst hnil
                have HLd := Hid.mk' (HTk.out.trans (Pk.laidA_none h2))
                obtain rfl : kn = 0 := HKn.out
                clear h5 h2 HTk
                generalize e.kind = ek at *
                go_wp2
                go_roundw
                case rel => exact ⟨k + 1, 0, ka, kc, by omega, by go_num, rfl, by rw [HLd.out]; rfl, by rw [HLd.out]; exact HGk.out⟩
                case measure => simp [intOf]; omega
              · rw [List.concat_eq_append] at hcat
                subst hcat
                have HLd := Hid.mk' (HTk.out.trans (Pk.laidA_more q p0 h2))
                obtain ⟨kq, hkq⟩ : ∃ kq, q.length = kq := ⟨_, rfl⟩
                obtain rfl : kn = kq + 1 := by have := HKn.out; rw [List.length_append] at this; simp at this; omega
                obtain ⟨gp, sP, rfl, hc1, x3, ⟨X, hGr⟩, hmr⟩ := HGk.out.more hkq
                have HMr := Hid.mk' hmr
                have HGr : Hid (GrowB wr.drew X 5 sP.bo sP.bcap p0.bytes) := hGr.turns (Turns.of_below (S := fun _ => False) (below_drew _ _)) (fun _ _ e => e)
                have HBe : Hid (IsB wr.drew sE.bo sE.bcap e.bytes) := HBy.out.stay (below_drew _ _)
                have HZz : Hid (p0.bytes.length + e.bytes.length ≤ 140737488355328) := by have := HSm.out p0 (by simp); unfold Hid; omega
                have HKq := Hid.mk' hkq
                have m0 : (0 : Int) ≤ (kq : Int) := by omega
                have m1 : (kq : Int) < (kq : Int) + 1 := by omega
                have m2 : ((kq + 1 : Nat) : Int) - 1 = (kq : Int) := by omega
                have m3 : IntKind.i64.wrap (kq : Int) = (kq : Int) := wrap_id (by omega) (by omega)
                clear h5 h2 HTk hmr hGr hkq
                generalize e.kind = ek at *
                go_wp2
                go_region_law
                  ((refine step_append_grown (by rfl) _ _ _ (by rfl) 5 u0 Tryz.underlying25 Hu.out Hy0.out Hy1.out Hy2.out (by rfl) (by rfl) HGr.out rfl HBe.out rfl HZz.out ?_; intro bo3 cap3 w9 hO3 hT3; have hT4 : Turns (fun k => blkB p0.bytes sP.bo = some k) wr w9 := (Turns.of_below (below_drew _ _)).trans hT3 (fun _ e _ => e); obtain ⟨⟨v0, d0⟩, f0, hput⟩ := HMr.out w9 hT4; have HPt := Hid.mk' (hput (p0.bytes ++ e.bytes) bo3 cap3 (p0.bytes.length + e.bytes.length) hO3 (by rw [List.length_append])); clear hO3 hT3 hT4 hput))
                all_goals
                  go_wp2
                  go_roundw
                  case rel => exact ⟨k + 1, kq + 1, some ⟨gp, 0, none⟩, kc, by omega, by go_num, rfl, by rw [HLd.out, List.length_append, HKq.out]; rfl, by rw [HLd.out]; exact HPt.out⟩
                  case measure => simp [intOf]; omega
            · have t2 : (e.kind == 2) = false := beq_eq_false_iff_ne.2 h2
              have HLd := Hid.mk' (HTk.out.trans (Pk.laidA_other Gk h5 h2))
              clear h5 h2 HTk
              generalize e.kind = ek at *
              go_wp2
              go_roundw
              case rel => exact ⟨k + 1, kn, ka, kc, by omega, by go_num, rfl, by rw [HLd.out]; exact HKn.out, by rw [HLd.out]; exact HGk.out⟩
              case measure => simp [intOf]; omega
        · obtain rfl : k = fn := by omega
          have htk : fs.take k = fs := by rw [List.take_of_length_le]; have := HFn.out; omega
          rw [htk, ← HT4.out] at HGk HKn
          rw [← HSt.out] at HGk
          go_wp2
          go_roundw
          case rel => exact ⟨i + 1, kn, ka, kc, by omega, by go_num, rfl, HKn.out, HGk.out.forget⟩
          case measure => simp [intOf]; omega
    · obtain rfl : i = pcs.length := by omega
      have htk : (pcs.map Pc.l).take pcs.length = pcs.map Pc.l := by rw [List.take_of_length_le]; rw [List.length_map]; omega
      rw [htk, HFl.out, HK4.out _ HFl.out] at HG
      rw [htk, HK4.out _ HFl.out, HNn.out] at HGn
      have hgn := HGn.out
      subst hgn
      obtain ⟨S, So, N, hR, hGt, _, _, _, _, _⟩ := HG.out.all
      have HCl := Hid.mk' (close_any wr S g mm _ hR)
      rw [HK2.out] at HCl
      have hBw : Below w.heap.size w wr := HB7.out.trans (HG.out.turns.below (fun k e => by have := Hs.out; omega) (by have := Hs.out; omega))
      have HSm := Hid.mk' (sameParts_yes ps ag ao gc cap wr hGt.isPts (HP.out.stay hBw) (by have := HNn.out; have := H40.out; omega))
      rw [HNn.out] at HSm
      have HBw := Hid.mk' hBw
      clear hR hGt hBw HG HGn
      go_wp2_with fail
      refine HCl.out.mono ?_
      rintro e w8 ⟨rfl, hw⟩
      subst hw
      go_wp2_with fail
      refine HSm.out.mono ?_
      rintro e w9 ⟨rfl, hb9⟩
      have HB9 := Hid.mk' (then_ HBw.out hb9)
      clear hb9
      go_wp2
      go_ret
      exact ⟨rfl, HB9.out⟩
end Go.Proofs.YtjpenioloeplgadGreatDoor
