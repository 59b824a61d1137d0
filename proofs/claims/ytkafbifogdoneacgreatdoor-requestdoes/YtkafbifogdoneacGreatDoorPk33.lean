/- Small texts, one behind the other: RfRTxt, RfReqA, RfReqN, RfReqR, RfReqBd, RfReqs. -/
import Derived.Test.YtkafbifogdoneacGreatDoorPk32
import Derived.Test.YtkafbifogdoneacGreatDoorPk14
import Derived.Test.YtkafbifogdoneacGreatDoorPk16
import Derived.Test.YtkafbifogdoneacGreatDoorPk15
import Derived.Deep.DeepCutAuto
import Derived.Test.YtkafbifogdoneacGreatDoorPk7
import Derived.Test.YtkafbifogdoneacGreatDoorRqAdd
import Derived.Test.YtkafbifogdoneacGreatDoorJnD
import Derived.Test.YtkafbifogdoneacGreatDoorPk9
import Derived.Test.YtkafbifogdoneacGreatDoorPlainRN
import Derived.Test.YtkafbifogdoneacGreatDoorPk20
import Derived.Test.YtkafbifogdoneacGreatDoorPk18
import Derived.Test.YtkafbifogdoneacGreatDoorPk4
import Derived.Test.YtkafbifogdoneacGreatDoorPk21
/- The document's own answer, walked: RequestText. -/
namespace Go.Proofs.YtkafbifogdoneacGreatDoor
open Go.RowKit

theorem none_in {c : UInt8} {l : List UInt8} (h : Fd.at_ c l = l.length) : c ∉ l := fun h9 => by
  obtain ⟨j, hj, e⟩ := List.getElem_of_mem h9
  exact Fd.at_first (by rw [h]; exact hj) hj e
theorem here_in {c : UInt8} {l : List UInt8} (h : Fd.at_ c l < l.length) : c ∈ l := by
  have := Fd.at_here h
  rw [← this]; exact List.getElem_mem _
/-- what the loop over the fields keeps -/
structure RtRel (w : World) (cs : Array Value) (T : Nat) (l : List (ByteArray × ByteArray)) (sx : List UInt8) (i : Nat) (x : ByteArray) (wr : World) : Prop where
  txt : x.data.toList = sx ++ (l.take i).flatMap Rq.lineT
  zero : ∀ p ∈ l.take i, (Fd.text p.1.data.toList p.2.data.toList).2 = 0
  one : OneAt w cs T wr
set_option maxRecDepth 100000 in
set_option maxHeartbeats 4000000 in
theorem requestText_any (w : World) (m t : ByteArray) (mi ln : Int) (l : List (ByteArray × ByteArray)) (fo bo : Option Addr) (fcap bcap nb : Nat) (body : List UInt8) (hl : IsV w fo fcap l.length (pairV l)) (hN : l.length ≤ 1000000) (hs : ∀ p ∈ l, p.1.size ≤ 2000 ∧ p.2.size ≤ 2000) (hm : m.size + t.size ≤ 10000) (hb : body.length = nb) (hBd : IsB w bo bcap body) (hnb : nb ≤ 100000) :
    Calls Tryz.prog 18 #[.agg #[.string m, .string t, .int .i64 mi, .slice fo l.length fcap, .int .i64 ln], .slice bo nb bcap] w fun e w' => WrOut w (Rq.hdT m t l) body e w' := by
  subst hb
  have htx := Rq.text_by m t l body _ rfl
  have HTx := Hid.mk' htx
  obtain ⟨j0, hj0, hy0, hy1, hy2⟩ := info_parts info_u8
  have Hj := Hid.mk' hj0; have Hy0 := Hid.mk' hy0; have Hy1 := Hid.mk' hy1; have Hy2 := Hid.mk' hy2
  have HV := Hid.mk' hl; have HS := Hid.mk' hs; have HBd := Hid.mk' hBd
  have HX : Hid (∀ W, OneAt w #[.string m, .string t, .int .i64 mi, .slice fo l.length fcap, .int .i64 ln] 25 W → W.cell? ⟨w.heap.size, 0, none⟩ = some (.string m) ∧ W.cell? ⟨w.heap.size, 1, none⟩ = some (.string t) ∧ W.cell? ⟨w.heap.size, 3, none⟩ = some (.slice fo l.length fcap)) := fun W h => ⟨h.cell 0, h.cell 1, h.cell 3⟩
  have HVs : Hid (∀ W name, OneAt w #[.string m, .string t, .int .i64 mi, .slice fo l.length fcap, .int .i64 ln] 25 W → name.size ≤ 2000 → Calls Tryz.prog 24 #[.slice fo l.length fcap, .string name] W fun e w' => ∃ a c, e = .returned (.slice a (Fd.vals name l).length c) ∧ Below W.heap.size W w') := fun W name h hn => (valuesOf_any l name fo fcap l.length W (hl.stay h.below) rfl hN (fun p hp => (hs p hp).1) hn).mono (fun e w' h => by obtain ⟨a, c, he, _, hB⟩ := h; exact ⟨a, c, he, hB⟩)
  have h0 := OneAt.made w #[.string m, .string t, .int .i64 mi, .slice fo l.length fcap, .int .i64 ln] 25
  have H0 := Hid.mk' h0
  clear htx hl hs hBd h0 hj0 hy0 hy1 hy2
  go_enter Tryz.func18, Tryz.ntmps18
  go_wp2_with fail
  refine (tokenText_any m _ (by unfold maxLen; omega)).mono ?_
  rintro e w1 ⟨rfl, hw⟩
  subst hw
  generalize (w.alloc (.cells #[.string m, .string t, .int .i64 mi, .slice fo l.length fcap, .int .i64 ln] 25)) = wb at *
  obtain ⟨x0, x1, x3⟩ := HX.out wb H0.out
  cases htk : Ch.isToken m.data.toList with
  | false =>
    have hF : Rq.text (Rq.hdT m t l) body = ([], 6) := by
      have := HTx.out
      unfold Rq.faultN at this
      rw [htk, if_pos rfl] at this
      exact this.1 (by omega)
    have HF := Hid.mk' hF
    clear hF htk
    go_wp2
    go_ret2
    exact .bad 6 (by omega) rfl HF.out H0.out.below
  | true =>
  rw [htk] at HTx
  clear htk
  go_upto_region 3 with fail
  go_cut [43] (fun v wd => v = .bool (!Rq.isTarget t.data.toList) ∧ OneAt w #[.string m, .string t, .int .i64 mi, .slice fo l.length fcap, .int .i64 ln] 25 wd)
  case first =>
    by_cases hg0 : t.size = 0
    · have tg0 : ((t.size : Int) == 0) = true := by rw [beq_iff_eq]; omega
      have HIt : Hid (Rq.isTarget t.data.toList = false) := (Rq.target_no _).2 (Or.inl (by rw [Ch.empty_eq t hg0]; simp))
      clear hg0
      go_wp2
      go_meet
      exact ⟨by rw [HIt.out]; rfl, H0.out⟩
    · have hgp : 0 < t.size := by omega
      have tg0 : ((t.size : Int) == 0) = false := by rw [beq_eq_false_iff_ne]; omega
      have hgh : t.data.toList.head? = some t[0] := by
        rw [List.head?_eq_getElem?, List.getElem?_eq_getElem (by rw [Ch.len_list]; exact hgp)]
        rfl
      by_cases h47 : t[0] = 47
      · have t47 : ((t[0].toNat : Int) != 47) = false := by rw [h47]; rfl
        obtain ⟨capq, wq, hq, hBq, hzq, hIq⟩ := bytes_of (P := Tryz.prog) wb t 9 22 5 Tryz.underlying9 Tryz.underlying22 Tryz.underlying5
        have HFn := Hid.mk' (find_any wq _ capq t.size _ ⟨#[32]⟩ hIq (by rw [Ch.len_list]) (by decide) (by omega))
        have HOq := Hid.mk' (H0.out.stay hBq)
        have HGh := Hid.mk' hgh; have H47 := Hid.mk' h47
        clear hBq hzq hIq hgh h47
        go_wp2_with fail
        refine HFn.out.mono ?_
        rintro e w5 ⟨r, rfl, hfi, hw⟩
        subst hw
        obtain ⟨z0, z1, z3⟩ := HX.out w5 HOq.out
        have hfo := find_one hfi
        clear HFn hq hfi
        rcases hfo with ⟨rfl, hk⟩ | ⟨hr, hk⟩
        · have HK1 : Hid (32 ∉ t.data.toList) := none_in hk
          clear hk
          obtain ⟨capr, wr2, hq2, hBq2, hzq2, hIq2⟩ := bytes_of (P := Tryz.prog) w5 t 9 22 5 Tryz.underlying9 Tryz.underlying22 Tryz.underlying5
          have HFn2 := Hid.mk' (find_any wr2 _ capr t.size _ ⟨#[9]⟩ hIq2 (by rw [Ch.len_list]) (by decide) (by omega))
          have HOr := Hid.mk' (HOq.out.stay hBq2)
          clear hBq2 hzq2 hIq2
          go_wp2_with fail
          refine HFn2.out.mono ?_
          rintro e w6 ⟨r2, rfl, hfi, hw⟩
          subst hw
          obtain ⟨y0, y1, y3⟩ := HX.out w6 HOr.out
          have hfo := find_one hfi
          clear HFn2 hq2 hfi
          rcases hfo with ⟨rfl, hk⟩ | ⟨hr, hk⟩
          · have HK2 : Hid (9 ∉ t.data.toList) := none_in hk
            clear hk
            have HSn := Hid.mk' (seenText_any t w6 (by unfold maxLen; omega))
            go_wp2_with fail
            refine HSn.out.mono ?_
            rintro e w7 ⟨rfl, hw⟩
            subst hw
            have HIt : Hid (Rq.isTarget t.data.toList = Ch.isVisible t.data.toList) := by
              unfold Hid
              cases hv : Ch.isVisible t.data.toList
              · exact (Rq.target_no _).2 (Or.inr (Or.inr (Or.inr hv)))
              · cases hi : Rq.isTarget t.data.toList
                · rcases (Rq.target_no _).1 hi with e | e | e | e
                  · rw [HGh.out, H47.out] at e; exact absurd rfl e
                  · exact absurd e HK1.out
                  · exact absurd e HK2.out
                  · rw [hv] at e; cases e
                · rfl
            generalize Ch.isVisible t.data.toList = vv at *
            clear HSn
            cases vv
            · go_wp2
              go_meet
              exact ⟨by rw [HIt.out]; rfl, HOr.out⟩
            · go_wp2
              go_meet
              exact ⟨by rw [HIt.out]; rfl, HOr.out⟩
          · have e1 : decide (r2 ≥ 0) = true := decide_eq_true (by omega)
            have e0 : (0 : Int) ≤ r2 := by omega
            have HIt : Hid (Rq.isTarget t.data.toList = false) := (Rq.target_no _).2 (Or.inr (Or.inr (Or.inl (here_in hk))))
            clear hk hr
            go_wp2
            go_meet
            exact ⟨by rw [HIt.out]; rfl, HOr.out⟩
        · have e1 : decide (r ≥ 0) = true := decide_eq_true (by omega)
          have e0 : (0 : Int) ≤ r := by omega
          have HIt : Hid (Rq.isTarget t.data.toList = false) := (Rq.target_no _).2 (Or.inr (Or.inl (here_in hk)))
          clear hk hr
          go_wp2
          go_meet
          exact ⟨by rw [HIt.out]; rfl, HOq.out⟩
      · have t47 : ((t[0].toNat : Int) != 47) = true := byte_ne h47
        have HIt : Hid (Rq.isTarget t.data.toList = false) := (Rq.target_no _).2 (Or.inl (by rw [hgh]; simpa using h47))
        clear hgh h47
        go_wp2
        go_meet
        exact ⟨by rw [HIt.out]; rfl, H0.out⟩
  case rest =>
    obtain ⟨rfl, hO⟩ := hcut
    have HO := Hid.mk' hO
    clear x0 x1 x3 H0
    obtain ⟨x0, x1, x3⟩ := HX.out wc hO
    clear hO
    have HVS := Hid.mk' (fun W h => HVs.out W bSize h (by decide))
    have HVC := Hid.mk' (fun W h => HVs.out W bCode h (by decide))
    have HVH := Hid.mk' (fun W h => HVs.out W bHost h (by decide))
    clear HVs
    have hfz : m.data.toList.length + t.data.toList.length + 10 = m.size + t.size + 10 := by rw [Ch.len_list, Ch.len_list]
    rw [hfz] at HTx
    clear hfz
    generalize Rq.isTarget t.data.toList = tg at *
    generalize (Fd.vals bSize l).length = vs at *
    generalize (Fd.vals bCode l).length = vc at *
    generalize (Fd.vals bHost l).length = vh at *
    simp only [bSize] at HVS
    simp only [bCode] at HVC
    simp only [bHost] at HVH
    cases tg with
    | false =>
      have HF : Hid (Rq.text (Rq.hdT m t l) body = ([], 5)) := HTx.out.1 (show (5 : Nat) ≠ 0 by omega)
      go_wp2
      go_ret2
      exact .bad 5 (by omega) rfl HF.out HO.out.below
    | true =>
    go_upto_region 5 with fail
    go_cut [6] (fun v wd => ∃ s : ByteArray, v = .string s ∧ s.size = m.size + t.size + 10 ∧ s.data.toList = m.data.toList ++ 32 :: (t.data.toList ++ 32 :: Rq.v11) ∧ OneAt w #[.string m, .string t, .int .i64 mi, .slice fo l.length fcap, .int .i64 ln] 25 wd)
    case first =>
      go_wp2
      go_meet
      refine ⟨_, rfl, ?_, ?_, HO.out⟩
      · simp only [ByteArray.size_append]
        show m.size + 1 + t.size + 9 = _
        omega
      · simp only [Ch.data_append]
        simp [Rq.v11]
    case rest =>
      obtain ⟨s, rfl, hsz, hsd, hO⟩ := hcut
      have HO1 := Hid.mk' hO
      have HSd := Hid.mk' hsd
      clear x0 x1 x3 HO
      obtain ⟨x0, x1, x3⟩ := HX.out wc hO
      clear hO hsd
      by_cases h200 : 200 < s.size
      · have t2 : decide ((s.size : Int) > 200) = true := decide_eq_true (by omega)
        have HF : Hid (Rq.text (Rq.hdT m t l) body = ([], 4)) := by
          have := HTx.out
          rw [show Rq.faultN true true (m.size + t.size + 10) body.length l.length vs vc vh = 4 by unfold Rq.faultN; rw [if_neg (by simp), if_neg (by simp), if_pos (by omega)]] at this
          exact this.1 (by omega)
        go_wp2
        go_ret2
        exact .bad 4 (by omega) rfl HF.out HO1.out.below
      have t2 : decide ((s.size : Int) > 200) = false := decide_eq_false (by omega)
      by_cases h4k : 4000 < body.length
      · have t3 : decide ((body.length : Int) > 4000) = true := decide_eq_true (by omega)
        have HF : Hid (Rq.text (Rq.hdT m t l) body = ([], 4)) := by
          have := HTx.out
          rw [show Rq.faultN true true (m.size + t.size + 10) body.length l.length vs vc vh = 4 by unfold Rq.faultN; rw [if_neg (by simp), if_neg (by simp), if_pos (by omega)]] at this
          exact this.1 (by omega)
        go_wp2
        go_ret2
        exact .bad 4 (by omega) rfl HF.out HO1.out.below
      have t3 : decide ((body.length : Int) > 4000) = false := decide_eq_false (by omega)
      by_cases h16 : 15 < l.length
      · have t4 : decide ((l.length : Int) ≥ 16) = true := decide_eq_true (by omega)
        have HF : Hid (Rq.text (Rq.hdT m t l) body = ([], 8)) := by
          have := HTx.out
          rw [show Rq.faultN true true (m.size + t.size + 10) body.length l.length vs vc vh = 8 by unfold Rq.faultN; rw [if_neg (by simp), if_neg (by simp), if_neg (by omega), if_pos h16]] at this
          exact this.1 (by omega)
        go_wp2
        go_ret2
        exact .bad 8 (by omega) rfl HF.out HO1.out.below
      have t4 : decide ((l.length : Int) ≥ 16) = false := decide_eq_false (by omega)
      go_wp2_with fail
      refine (HVS.out _ HO1.out).mono ?_
      rintro e w2 ⟨a2, c2, rfl, hb2⟩
      have HO2 := Hid.mk' (HO1.out.stay hb2)
      clear hb2 x0 x1 x3 HVS
      obtain ⟨x0, x1, x3⟩ := HX.out w2 HO2.out
      by_cases hvs : 0 < vs
      · have HF : Hid (Rq.text (Rq.hdT m t l) body = ([], 12)) := by
          have := HTx.out
          rw [show Rq.faultN true true (m.size + t.size + 10) body.length l.length vs vc vh = 12 by unfold Rq.faultN; rw [if_neg (by simp), if_neg (by simp), if_neg (by omega), if_neg h16, if_pos (by omega)]] at this
          exact this.1 (by omega)
        have t5 : decide ((vs : Int) > 0) = true := decide_eq_true (by omega)
        go_wp2
        go_ret2
        exact .bad 12 (by omega) rfl HF.out HO2.out.below
      have t5 : decide ((vs : Int) > 0) = false := decide_eq_false (by omega)
      go_wp2_with fail
      refine (HVC.out _ HO2.out).mono ?_
      rintro e w3 ⟨a3, c3, rfl, hb3⟩
      have HO3 := Hid.mk' (HO2.out.stay hb3)
      clear hb3 x0 x1 x3 HVC
      obtain ⟨x0, x1, x3⟩ := HX.out w3 HO3.out
      by_cases hvc : 0 < vc
      · have HF : Hid (Rq.text (Rq.hdT m t l) body = ([], 12)) := by
          have := HTx.out
          rw [show Rq.faultN true true (m.size + t.size + 10) body.length l.length vs vc vh = 12 by unfold Rq.faultN; rw [if_neg (by simp), if_neg (by simp), if_neg (by omega), if_neg h16, if_pos (by omega)]] at this
          exact this.1 (by omega)
        have t6 : decide ((vc : Int) > 0) = true := decide_eq_true (by omega)
        go_wp2
        go_ret2
        exact .bad 12 (by omega) rfl HF.out HO3.out.below
      have t6 : decide ((vc : Int) > 0) = false := decide_eq_false (by omega)
      go_wp2_with fail
      refine (HVH.out _ HO3.out).mono ?_
      rintro e w4 ⟨a4, c4, rfl, hb4⟩
      have HO4 := Hid.mk' (HO3.out.stay hb4)
      clear hb4 x0 x1 x3 HVH
      obtain ⟨x0, x1, x3⟩ := HX.out w4 HO4.out
      by_cases hvh : vh = 1
      · subst hvh
        have hT := HTx.out.2 (by unfold Rq.faultN; rw [if_neg (by simp), if_neg (by simp), if_neg (by omega), if_neg h16, if_neg (by omega), if_neg (by omega)])
        obtain ⟨hb4k, h15, hT⟩ := hT
        have HT := Hid.mk' hT
        clear hT HTx
        have HR0 : Hid (RtRel w #[.string m, .string t, .int .i64 mi, .slice fo l.length fcap, .int .i64 ln] 25 l (s.data.toList ++ [13, 10]) 0 (s ++ ⟨#[13, 10]⟩) w4) := ⟨by simp, fun p hp => by simp at hp, HO4.out⟩
        have HSz : Hid ((s.data.toList ++ [13, 10] : List UInt8).length ≤ 10100) := by
          unfold Hid
          rw [List.length_append, Ch.len_list]; show s.size + 2 ≤ _; omega
        clear x0 x1 x3 HO1 HO2 HO3 HO4
        go_wp2
        go_loopw [6, 7] (fun v6 v7 wr => ∃ (i : Nat) (x : ByteArray), i ≤ l.length ∧ v7 = .int .i64 i ∧ v6 = .string x ∧ RtRel w #[.string m, .string t, .int .i64 mi, .slice fo l.length fcap, .int .i64 ln] 25 l (s.data.toList ++ [13, 10]) i x wr) (fun _ v7 _ => l.length - (intOf v7).toNat)
        case atStart => exact ⟨0, _, Nat.zero_le _, rfl, rfl, HR0.out⟩
        case round =>
          obtain ⟨i, x, hi, rfl, rfl, hR⟩ := hrel
          have HR := Hid.mk' hR
          have hxs : x.size ≤ 200000 := by
            have h1 := hR.txt
            have h2 := lines_le (l.take i) (fun p hp => HS.out p (List.mem_of_mem_take hp))
            have h3 : (l.take i).length ≤ 15 := by rw [List.length_take]; omega
            have h4 := congrArg List.length h1
            rw [Ch.len_list, List.length_append] at h4
            have h5 := HSz.out
            omega
          clear hR HR0
          obtain ⟨x0, x1, x3⟩ := HX.out wr HR.out.one
          by_cases hlt : i < l.length
          · have hlt' : (i : Int) < l.length := by omega
            have hpl : 0 < (pairV l).length := by rw [pairV_length]; omega
            obtain ⟨bb, oo, rfl, hcs⟩ := (HV.out.stay HR.out.one.below).lit hpl
            have c1 := hcs _ _ (pairV_at l i hlt).1
            have c2 := hcs _ _ (pairV_at l i hlt).2
            rw [← Nat.add_assoc] at c2
            have hfc := HV.out.1
            clear hcs
            have hps := HS.out l[i] (List.getElem_mem hlt)
            have HTk : Hid (l.take (i + 1) = l.take i ++ [l[i]]) := List.take_succ_eq_append_getElem hlt
            have HBad : Hid ((Fd.text l[i].1.data.toList l[i].2.data.toList).2 ≠ 0 → Rq.lines (Rq.flB l) = .inl (Fd.text l[i].1.data.toList l[i].2.data.toList).2) := fun hc => Rq.lines_bad l i hlt HR.out.zero hc
            generalize l[i] = p at *
            have HFt := Hid.mk' (fieldText_any p.1 p.2 wr (by omega) (by omega))
            have hll := line_le p hps
            have HLt : Hid (Rq.lineT p = (Fd.text p.1.data.toList p.2.data.toList).1 ++ [13, 10]) := rfl
            unfold txVal at HFt
            generalize hcd : (Fd.text p.1.data.toList p.2.data.toList).2 = cd at *
            generalize (Fd.text p.1.data.toList p.2.data.toList).1 = tx at *
            have HCd := Hid.mk' hcd
            clear hcd hps
            by_cases hc0 : cd = 0
            · subst hc0
              have hxl : tx.length + 2 ≤ 4004 := by
                have := HLt.out
                rw [this, List.length_append] at hll; simpa using hll
              have htz : (⟨tx.toArray⟩ : ByteArray).size = tx.length := by show tx.toArray.size = _; rw [List.size_toArray]
              have htd : (⟨tx.toArray⟩ : ByteArray).data.toList = tx := rfl
              generalize (⟨tx.toArray⟩ : ByteArray) = tb at *
              have HTd := Hid.mk' htd
              clear hll htd
              go_wp2_with fail
              refine HFt.out.mono ?_
              rintro e w5 ⟨rfl, hb5⟩
              have HO5 := Hid.mk' (HR.out.one.stay hb5)
              clear hb5
              go_wp2
              go_roundw
              case rel =>
                refine ⟨i + 1, _, by omega, by go_num, rfl, ⟨?_, ?_, HO5.out⟩⟩
                · rw [Ch.data_append, Ch.data_append, HR.out.txt, HTk.out, List.flatMap_append, HTd.out, List.append_assoc]
                  congr 2
                  simp [HLt.out]
                · intro q hq
                  rw [HTk.out] at hq
                  rcases List.mem_append.1 hq with hq | hq
                  · exact HR.out.zero q hq
                  · simp at hq; subst hq; exact HCd.out
              case measure => simp [intOf]; omega
            · have tc : ((cd : Int) != 0) = true := by rw [bne_iff_ne]; omega
              have HLb := Hid.mk' (HBad.out hc0); have HCn := Hid.mk' hc0
              clear hc0 hll
              go_wp2_with fail
              refine HFt.out.mono ?_
              rintro e w5 ⟨rfl, hb5⟩
              have HO5 := Hid.mk' (HR.out.one.stay hb5)
              clear hb5
              go_wp2
              (try simp only [Exit.inBlock, Exit.then])
              go_ret2
              refine .bad cd HCn.out rfl ?_ HO5.out.below
              rw [HT.out, HLb.out]
          · obtain rfl : i = l.length := by omega
            have HXe : Hid (Rq.text (Rq.hdT m t l) body = (x.data.toList ++ Rq.nCL ++ [58, 32] ++ Ch.decF 8 body.length ++ [13, 10, 13, 10] ++ body, 0)) := by
              have htl : l.take l.length = l := List.take_length
              have hz := HR.out.zero
              rw [htl] at hz
              have hx := HR.out.txt
              rw [htl, HSd.out] at hx
              unfold Hid
              rw [HT.out, Rq.lines_zero l hz, hx]
              simp
            have HNm := Hid.mk' (num_f 8 body.length wr (by omega) (by omega) (by omega))
            have hdl := Ch.decF_length 8 body.length
            have hdz : (⟨(Ch.decF 8 body.length).toArray⟩ : ByteArray).size = (Ch.decF 8 body.length).length := by show (Ch.decF 8 body.length).toArray.size = _; rw [List.size_toArray]
            have hdd : (⟨(Ch.decF 8 body.length).toArray⟩ : ByteArray).data.toList = Ch.decF 8 body.length := rfl
            generalize Ch.decF 8 body.length = dl at *
            generalize (⟨dl.toArray⟩ : ByteArray) = db at *
            have HDd := Hid.mk' hdd
            clear hdd
            go_upto_region 22 with fail
            go_cut [6] (fun v wd => ∃ y : ByteArray, v = .string y ∧ y.data.toList = x.data.toList ++ Rq.nCL ++ [58, 32] ++ dl ++ [13, 10, 13, 10] ∧ Below w.heap.size w wd)
            case first =>
              go_wp2_with fail
              refine HNm.out.mono ?_
              rintro e w5 ⟨rfl, n5, hw⟩
              have HB5 : Hid (Below w.heap.size w w5) := by rw [hw]; exact HR.out.one.below.trans ⟨rfl, rfl, rfl, Nat.le_refl _, fun _ _ => rfl⟩
              clear hw
              go_wp2
              go_meet
              refine ⟨_, rfl, ?_, HB5.out⟩
              simp only [Ch.data_append, HDd.out]
              simp [Rq.nCL]
            case rest =>
              obtain ⟨y, rfl, hyd, hB⟩ := hcut
              have hyz : y.size ≤ 300000 := by
                have := congrArg List.length hyd
                rw [Ch.len_list] at this
                simp [Rq.nCL] at this
                have e : x.data.size = x.size := rfl
                omega
              obtain ⟨capb, wb, hconv, hbb, hbuf⟩ := buf_of (P := Tryz.prog) wc y 9 22 5 (by unfold maxLen; omega) Tryz.underlying9 Tryz.underlying22 Tryz.underlying5
              have HBw := Hid.mk' hB
              have HBb := Hid.mk' (hB.trans (hbb.mono hB.size))
              have HBd2 := Hid.mk' (HBd.out.stay (hB.trans (hbb.mono hB.size)))
              have HBf := Hid.mk' hbuf
              have HYd := Hid.mk' hyd
              clear hB hbb hbuf hyd
              go_wp2_with (at_builtin; refine wpList_append_buf rfl (.tmp 113) (.tmp 114) 22 22 rfl 5 j0 Tryz.underlying22 Hj.out Hy0.out Hy1.out Hy2.out rfl HBf.out (Ch.len_list _) _ _ rfl (src_bytes Tryz.underlying22 HBd2.out rfl) (by omega) ?_; intro g8 cap8 w8 hU8 hT8; have HU8 := Hid.mk' hU8; have HT8 := Hid.mk' hT8; clear hU8 hT8)
              go_ret2
              have h8 := HBb.out.trans (HT8.out.below (B := w.heap.size) (fun k e => by rw [e]; exact HBw.out.size) HBb.out.size)
              have hX : Rq.text (Rq.hdT m t l) body = (y.data.toList ++ body, 0) := by rw [HXe.out, HYd.out]
              have hU := HU8.out
              refine .ok g8 cap8 _ rfl ?_ (by rw [hX]) (by rw [hX]; exact ⟨Nat.le_trans HBw.out.size hU.base_, hU.lt, hU.le, hU.max, hU.holds, hU.there⟩) h8
              rw [hX]
              show _ = (y.data.toList ++ body).length
              rw [List.length_append, Ch.len_list]
      · have HF : Hid (Rq.text (Rq.hdT m t l) body = ([], 13)) := by
          have := HTx.out
          rw [show Rq.faultN true true (m.size + t.size + 10) body.length l.length vs vc vh = 13 by unfold Rq.faultN; rw [if_neg (by simp), if_neg (by simp), if_neg (by omega), if_neg h16, if_neg (by omega), if_pos hvh]] at this
          exact this.1 (by omega)
        have t7 : ((vh : Int) != 1) = true := by rw [bne_iff_ne]; omega
        go_wp2
        go_ret2
        exact .bad 13 (by omega) rfl HF.out HO4.out.below
end Go.Proofs.YtkafbifogdoneacGreatDoor

/- The document's own answer for requests: what its walk keeps in memory; its closure that fails. -/
namespace Go.Proofs.YtkafbifogdoneacGreatDoor
open Go.RowKit

theorem IsV.made_at (W : World) (cs : Array Value) (n t : Nat) (fr : Nat × Nat) {k : Nat} (hk : W.heap.size = k) : IsV (W.alloc (.cells cs t fr)) (some ⟨k, 0, none⟩) n n cs.toList := by
  subst hk; exact IsV.made W cs n t fr
/-- the cell that holds what was told, and what it holds -/
structure RsAt (w : World) (ao : Option Addr) (cap n : Nat) (es : List Rq.Ev) (W : World) : Prop where
  cell : OneAt w #[.slice ao n cap] 26 W
  want : WantIn W (w.heap.size + 1) 32 ao cap (es.map Rq.Ev.d)
  len : n = es.length
section
variable {w W W' : World} {ao : Option Addr} {cap n : Nat} {es : List Rq.Ev}
theorem RsAt.start (w : World) : RsAt w none 0 0 [] (w.alloc (.cells #[.slice none 0 0] 26)) := ⟨OneAt.made w _ _, WantIn.nil _ _ _, rfl⟩
theorem RsAt.stay (h : RsAt w ao cap n es W) (hb : Below W.heap.size W W') : RsAt w ao cap n es W' := ⟨h.cell.stay hb, h.want.stay hb, h.len⟩
/-- one event more, its cells in a block just made; ahead of its being laid into the cell -/
theorem RsAt.push (h : RsAt w ao cap n es W) (ob : Obj) : ∃ xs, OwnV (W.alloc ob) (w.heap.size + 1) 32 12 ao cap n xs ∧
    ∀ ao' cap' w' (e : Rq.Ev) s ys, e.d.cells s = ys → InE W (fun k => w.heap.size + 1 ≤ k ∧ blockOf ao ≠ some k) e.d s → OwnV w' (w.heap.size + 1) 32 12 ao' cap' (n + 1) (xs ++ ys) → (W.alloc ob).grownBy w' (blockOf ao) → (blockOf ao' = blockOf ao ∨ blockOf ao' = some (W.alloc ob).heap.size) →
      WantIn w' (w.heap.size + 1) 32 ao' cap' ((es ++ [e]).map Rq.Ev.d) ∧ OneAt w #[.slice ao n cap] 26 w' ∧ Below w.heap.size w w' ∧ RsAt w ao' cap' (n + 1) (es ++ [e]) (w'.setCell ⟨w.heap.size, 0, none⟩ (.slice ao' (n + 1) cap')) := by
  have hn := h.len
  obtain ⟨ps, hO, hq⟩ := h.want.push ob
  have hl : (es.map Rq.Ev.d).length = n := by rw [List.length_map]; exact hn.symm
  rw [hl] at hO hq
  refine ⟨rowsV ps, hO, fun ao' cap' w' e s ys hy hE hO' hG hat => ?_⟩
  subst hy
  obtain ⟨h1, h2⟩ := hq ao' cap' w' e.d s hE hO' hG hat
  have hb : Below W.heap.size W (W.alloc ob) := (Below.refl _ _).alloc (Nat.le_refl _) _
  have h3 : OneAt w #[.slice ao n cap] 26 w' := (h.cell.stay hb).turns h2 (fun k e => by omega)
  have h4 := h3.put 0 (.slice ao' (n + 1) cap')
  have hT : Turns (fun k => k = w.heap.size) w' (w'.setCell ⟨w.heap.size, 0, none⟩ (.slice ao' (n + 1) cap')) := setCells_turns w.heap.size [.slice ao' (n + 1) cap'] 0 w'
  have h1' : WantIn w' (w.heap.size + 1) 32 ao' cap' ((es ++ [e]).map Rq.Ev.d) := by rw [List.map_append]; exact h1
  refine ⟨h1', h3, h3.below, ⟨h4, ?_, by rw [List.length_append, hn]; rfl⟩⟩
  obtain ⟨qs, g1, g2, g3⟩ := h1'
  have hr : ∀ a, ao' = some a → ¬ a.block = w.heap.size := fun a e k => by have := (g2.block a e).1; omega
  refine ⟨qs, g1, g2.turns hT hr, fun p hp => ?_⟩
  exact ((g3 p hp).turns hT (fun k f g => by omega))
/-- what is told at the end: nothing more -/
theorem RsAt.done (h : RsAt w ao cap n es W) : WantIn W (w.heap.size + 1) 32 ao cap (es.map Rq.Ev.d) := h.want
end
set_option maxHeartbeats 1000000 in
/-- the closure that fails -/
theorem reqFail_any (w W : World) (ao : Option Addr) (cap n c : Nat) (es : List Rq.Ev) (h : RsAt w ao cap n es W) (hn : n ≤ 1000000) :
    Calls Tryz.prog 39 #[.int .i64 (c : Int), .pointer (some ⟨w.heap.size, 0, none⟩)] W fun e w' => ∃ a2 c2, e = .returned (.tuple #[.slice a2 (n + 1) c2, .bool false]) ∧ WantIn w' (w.heap.size + 1) 32 a2 c2 ((es ++ [Rq.Ev.fail c]).map Rq.Ev.d) ∧ Below w.heap.size w w' := by
  obtain ⟨xs, hO, hp⟩ := h.push (.cells #[.int .i64 4, .string ⟨#[]⟩, .string ⟨#[]⟩, .int .i64 0, .slice none 0 0, .int .i64 0, .slice none 0 0, .string ⟨#[]⟩, .string ⟨#[]⟩, .string ⟨#[]⟩, .slice none 0 0, .int .i64 (c : Int)] 32)
  have HO := Hid.mk' hO; have HP := Hid.mk' hp
  have c0 : W.cell? ⟨w.heap.size, 0, none⟩ = some (.slice ao n cap) := h.cell.cell 0
  have HZ : Hid (w.heap.size + 1 ≤ W.heap.size) := h.cell.lt
  obtain ⟨i0, hi0, hz0, hz1, hz2⟩ := info_parts info_ev
  have Hi := Hid.mk' hi0; have Hz0 := Hid.mk' hz0; have Hz1 := Hid.mk' hz1; have Hz2 := Hid.mk' hz2
  clear hi0 hz0 hz1 hz2 hO hp h
  go_enter Tryz.func39, Tryz.ntmps39
  go_wp2_with (at_builtin; refine wpList_append_v rfl (.tmp 5) (.tmp 8) 26 rfl (w.heap.size + 1) 32 i0 (.agg #[.int .i64 0, .string ⟨#[]⟩, .string ⟨#[]⟩, .int .i64 0, .slice none 0 0, .int .i64 0, .slice none 0 0, .string ⟨#[]⟩, .string ⟨#[]⟩, .string ⟨#[]⟩, .slice none 0 0, .int .i64 0]) 12 184 Tryz.underlying26 Hi.out Hz0.out Hz1.out Hz2.out rfl (by decide) rfl HO.out rfl (IsV.made _ _ 1 _ _) rfl (one_cells (Rq.Ev.fail c).d ⟨none, 0, none, 0, none, 0⟩ _ rfl) (by omega) (by omega) (by rw [World.size_alloc]; have := HZ.out; omega) ?_; intro a3 c3 w3 hO hG hat; have HQ := Hid.mk' (HP.out a3 c3 w3 (.fail c) ⟨none, 0, none, 0, none, 0⟩ _ rfl ⟨IsVS.nil _ _, IsBS.nil _ _, IsBS.nil _ _⟩ hO hG hat); clear hO hG hat)
  go_ret2
  exact ⟨a3, c3, rfl, HQ.out.1, HQ.out.2.2.1⟩
end Go.Proofs.YtkafbifogdoneacGreatDoor

/- The document's own answer, walked: Requests of no bytes. -/
namespace Go.Proofs.YtkafbifogdoneacGreatDoor
open Go.RowKit

set_option maxRecDepth 100000 in
set_option maxHeartbeats 1600000 in
theorem requests_none (ab : Option Addr) (cap : Nat) (w : World) (hb : IsB w ab cap []) :
    Calls Tryz.prog 13 #[.slice ab 0 cap] w fun e w' => ∃ a2 c2, e = .returned (.tuple #[.slice a2 (Rq.of []).1.length c2, .bool (Rq.of []).2]) ∧ IsEs w' a2 c2 ((Rq.of []).1.map Rq.Ev.d) ∧ Below w.heap.size w w' := by
  have hn := hb.2.1
  clear hb
  have HB : Hid (Below w.heap.size w (w.alloc (.cells #[.slice none 0 0] 26))) := (Below.refl _ _).alloc (Nat.le_refl _) _
  have x0 : (w.alloc (.cells #[.slice none 0 0] 26)).cell? ⟨w.heap.size, 0, none⟩ = some (.slice none 0 0) := World.cell?_alloc_mark w _ _ _ 0
  by_cases hc : cap = 0
  · subst hc
    go_enter Tryz.func13, Tryz.ntmps13
    go_wp2
    refine wp_loop_rounds 1 ?_
    rw [rounds_succ]
    go_wp2_with fail
    refine (lineNone _ _ (fun _ => rfl) _).mono ?_
    rintro e w1 ⟨rfl, hw⟩
    subst hw
    go_wp2
    (try simp only [Exit.inBlock, Exit.then])
    go_ret2
    exact ⟨none, 0, rfl, IsEs.nil _, HB.out⟩
  · obtain ⟨a, rfl⟩ : ∃ a, ab = some a := by
      cases ab with
      | none => exact absurd (hn rfl) hc
      | some a => exact ⟨a, rfl⟩
    clear hn
    go_enter Tryz.func13, Tryz.ntmps13
    go_wp2
    refine wp_loop_rounds 1 ?_
    rw [rounds_succ]
    go_wp2_with fail
    refine (lineNone _ _ (fun e => by cases e) _).mono ?_
    rintro e w1 ⟨rfl, hw⟩
    subst hw
    go_wp2
    (try simp only [Exit.inBlock, Exit.then])
    go_ret2
    exact ⟨none, 0, rfl, IsEs.nil _, HB.out⟩
end Go.Proofs.YtkafbifogdoneacGreatDoor

/- The document's own answer for requests: what the walk of Requests keeps. -/
namespace Go.Proofs.YtkafbifogdoneacGreatDoor
open Go.RowKit

/-- what is answered -/
def RsOut (w : World) (b : List UInt8) (e : Ending) (w' : World) : Prop := ∃ a2 c2, e = .returned (.tuple #[.slice a2 (Rq.of b).1.length c2, .bool (Rq.of b).2]) ∧ WantIn w' (w.heap.size + 1) 32 a2 c2 ((Rq.of b).1.map Rq.Ev.d) ∧ Below w.heap.size w w'
theorem RsOut.of {w : World} {b : List UInt8} {e : Ending} {w' : World} {es : List Rq.Ev} {bz : Bool} {a2 : Option Addr} {c2 n : Nat} (hof : Rq.of b = (es, bz)) (hn : n = es.length) (he : e = .returned (.tuple #[.slice a2 n c2, .bool bz])) (hw : WantIn w' (w.heap.size + 1) 32 a2 c2 (es.map Rq.Ev.d)) (hB : Below w.heap.size w w') : RsOut w b e w' := by
  refine ⟨a2, c2, ?_, by rw [hof]; exact hw, hB⟩
  rw [hof, he, hn]
/-- what the loop over requests keeps -/
structure R1Rel (w : World) (b : List UInt8) (p : Nat) (ao : Option Addr) (ca n : Nat) (es : List Rq.Ev) (f : Nat) (wr : World) : Prop where
  rs : RsAt w ao ca n es wr
  f_ : (b.drop p).length < f + 1
  of_ : Rq.of b = (es ++ (Rq.go (f + 1) (b.drop p)).1, (Rq.go (f + 1) (b.drop p)).2)
  few : n ≤ 3 * p
/-- a head that grows -/
structure HbAt (wH : World) (h : Rq.Hd) (fo : Option Addr) (fcap nf : Nat) (W : World) : Prop where
  one : OneAt wH #[.string ⟨h.method.toArray⟩, .string ⟨h.target.toArray⟩, .int .i64 (h.minor : Int), .slice fo nf fcap, .int .i64 0] 25 W
  row : OwnV W (wH.heap.size + 1) 51 2 fo fcap nf (pairV (Rq.flT h.fields))
  len : nf = h.fields.length
/-- what the loop over fields keeps -/
structure R2Rel (w wH : World) (b : List UInt8) (p : Nat) (ao : Option Addr) (ca n : Nat) (es : List Rq.Ev) (f f2 : Nat) (h : Rq.Hd) (fo : Option Addr) (fcap nf : Nat) (wr : World) : Prop where
  hb : HbAt wH h fo fcap nf wr
  f_ : (b.drop p).length < f2 + 1
  of_ : Rq.of b = (es ++ (Rq.goH f h (Rq.flds (f2 + 1) (b.drop p) h.fields)).1, (Rq.goH f h (Rq.flds (f2 + 1) (b.drop p) h.fields)).2)
  good : Rq.HGood h
/-- a field more -/
theorem HbAt.more {wH W w4 : World} {h : Rq.Hd} {fo a4 : Option Addr} {fcap nf c4 : Nat} {nm vl : ByteArray} (hh : HbAt wH h fo fcap nf W) {W3 : World} (hb : Below W.heap.size W W3) (hO : OwnV w4 (wH.heap.size + 1) 51 2 a4 c4 (nf + 1) (pairV (Rq.flT h.fields) ++ [.string nm, .string vl])) (hG : W3.grownBy w4 (blockOf fo)) :
    OneAt wH #[.string ⟨h.method.toArray⟩, .string ⟨h.target.toArray⟩, .int .i64 (h.minor : Int), .slice fo nf fcap, .int .i64 0] 25 w4 ∧
    HbAt wH { h with fields := h.fields ++ [(nm.data.toList, vl.data.toList)] } a4 c4 (nf + 1) (w4.setCell ⟨wH.heap.size, 3, none⟩ (.slice a4 (nf + 1) c4)) := by
  have h1 : OneAt wH #[.string ⟨h.method.toArray⟩, .string ⟨h.target.toArray⟩, .int .i64 (h.minor : Int), .slice fo nf fcap, .int .i64 0] 25 w4 := (hh.one.stay hb).turns (S := fun k => blockOf fo = some k) (Turns.of_grown hG (fun k e => e)) (fun k e => by
    cases fo with
    | none => cases e
    | some a => injection e with e; subst e; exact (hh.row.block a rfl).1)
  have hT : Turns (fun k => k = wH.heap.size) w4 (w4.setCell ⟨wH.heap.size, 3, none⟩ (.slice a4 (nf + 1) c4)) := setCells_turns wH.heap.size [.slice a4 (nf + 1) c4] 3 w4
  refine ⟨h1, ⟨h1.put 3 _, ?_, by show nf + 1 = (h.fields ++ [(nm.data.toList, vl.data.toList)]).length; rw [List.length_append, hh.len]; rfl⟩⟩
  have h2 := hO.turns hT (fun a e k => by have := (hO.block a e).1; omega)
  have e1 : pairV (Rq.flT (h.fields ++ [(nm.data.toList, vl.data.toList)])) = pairV (Rq.flT h.fields) ++ [.string nm, .string vl] := by
    rw [Rq.flT_append, pairV_append]; rfl
  show OwnV _ _ _ _ _ _ _ (pairV (Rq.flT (h.fields ++ [(nm.data.toList, vl.data.toList)])))
  rw [e1]; exact h2
/-- behind a body -/
structure R3Rel (w w5 : World) (b : List UInt8) (f : Nat) (a3 : Option Addr) (c3 n3 : Nat) (es3 : List Rq.Ev) (p3 : Nat) (body : List UInt8) (bo : Option Addr) (bc : Nat) (over : Bool) (c : Nat) (wd : World) : Prop where
  rs : RsAt w a3 c3 n3 es3 wd
  bytes : IsBS wd (fun k => w5.heap.size ≤ k) bo bc body
  below : Below w5.heap.size w5 wd
  of_ : Rq.of b = (es3 ++ Rq.some_ body ++ (Rq.rest f (b.drop p3) over c).1, (Rq.rest f (b.drop p3) over c).2)
theorem r3_own {w w5 w6 : World} {b : List UInt8} {f : Nat} {a3 : Option Addr} {c3 n3 : Nat} {es3 : List Rq.Ev} {p3 : Nat} {body : List UInt8} {bo : Option Addr} {bc : Nat} {ov : Bool} {c : Nat} (hr : RsAt w a3 c3 n3 es3 w5) (hO : OwnB w6 w5.heap.size 5 bo bc body) (hb : Below w5.heap.size w5 w6) (hof : Rq.of b = (es3 ++ Rq.some_ body ++ (Rq.rest f (b.drop p3) ov c).1, (Rq.rest f (b.drop p3) ov c).2)) : R3Rel w w5 b f a3 c3 n3 es3 p3 body bo bc ov c w6 :=
  ⟨hr.stay hb, ⟨hO.isB, fun _ a e => (hO.block a e).1⟩, hb, hof⟩
theorem grown_none {w5 w6 : World} (h : w5.grownBy w6 (blockOf none)) : Below w5.heap.size w5 w6 := (Below.refl _ _).grown h (Nat.le_refl _) (fun q e => by simp [blockOf] at e)
end Go.Proofs.YtkafbifogdoneacGreatDoor

/- The document's own answer for requests: Requests' piece that reads a body. -/
namespace Go.Proofs.YtkafbifogdoneacGreatDoor
open Go.RowKit

noncomputable def reqBody : Code := subAt [1, 1, 1, 1, 1, 1, 1, 1, 1, 1, 1, 1, 1, 1, 1, 1, 1, 1, 1, 1, 1, 0, 1] (Tryz.f13.body.getD .skip)
set_option maxRecDepth 100000 in
set_option maxHeartbeats 6000000 in
theorem reqBody_any (b : List UInt8) (bb oo cap : Nat) (w w5 : World) (q sz2 f' n : Nat) (k : Int) (a3 : Option Addr) (c3 : Nat) (es : List Rq.Ev) (h : Rq.Hd) (hb : IsB w (some ⟨bb, oo, none⟩) cap b) (h9 : b.length ≤ 20000) (hlo : q + sz2 ≤ b.length) (hB5 : Below w.heap.size w w5) (hR5 : RsAt w a3 c3 (n + 1) (es ++ [.head { h with length := k }]) w5) (hln : Rq.len h = .inr k) (hof : Rq.of b = (es ++ (Rq.goB (f' + 1) h (b.drop (q + sz2))).1, (Rq.goB (f' + 1) h (b.drop (q + sz2))).2)) (Q0 : Exit → Act → World → Prop)
    (x1 x2 x3 x4 x5 x7 x8 x9 x11 x12 x13 x17 x18 x19 x20 x21 x22 x23 x24 x25 x26 x27 x28 x29 x30 x31 x32 x33 x34 x35 x36 x37 x38 x39 x40 x41 x42 x43 x44 x45 x46 x47 x48 x49 x50 x51 x52 x53 x54 x55 x56 x57 x58 x59 x60 x61 x62 x63 x64 x65 x66 x67 x68 x69 x70 x71 x72 x73 x74 x75 x76 x77 x78 x79 x80 x81 x82 x83 x84 x85 x86 x87 x88 x89 x90 x91 x92 x93 x94 x95 x96 x97 x98 x99 x100 x101 x102 x103 x104 x105 x106 x107 x108 x109 x110 x111 x112 x113 x114 x115 x116 x117 x118 x119 x120 x121 x122 x123 x124 x125 x126 x127 x129 x130 x131 x132 x133 x134 x135 x136 x137 x138 x139 x140 x141 x142 x143 x144 x145 x146 x147 x148 x149 x150 x151 x152 x153 x154 x155 x156 x157 x158 x159 x160 x161 x162 x163 x164 x165 x166 x167 x168 x169 x170 x171 x172 x173 x174 x175 x176 x177 x178 x179 x180 x181 x182 x183 x184 x185 x186 x187 : Value)
    (hexit : ∀ (w' : World) (y6 y8 y10 y15 y16 y129 y130 y131 y132 y133 y134 y135 y136 y137 y138 y139 y140 y141 y142 y143 y144 y145 y146 y147 y148 y149 y150 y151 y152 y153 y154 y155 y156 y157 y158 y159 y160 y161 y162 y163 y164 y165 : Value), (∃ (p3 : Nat) (body : List UInt8) (bo : Option Addr) (bc : Nat) (ov : Bool) (c nb : Nat), y6 = .int .i64 p3 ∧ y10 = .int .i64 (c : Int) ∧ y15 = .slice bo nb bc ∧ y16 = .bool ov ∧ nb = body.length ∧ q + sz2 ≤ p3 ∧ (ov = true → c = 0 → p3 ≤ b.length) ∧ R3Rel w w5 b (f' + 1) a3 c3 (n + 1) (es ++ [.head { h with length := k }]) p3 body bo bc ov c w') → Q0 .normal ⟨(List.toArray ((.slice (some ⟨bb, oo, none⟩) b.length cap) :: x1 :: x2 :: x3 :: x4 :: x5 :: (y6) :: x7 :: (y8) :: x9 :: (y10) :: x11 :: x12 :: x13 :: (.int .i64 k) :: (y15) :: (y16) :: x17 :: x18 :: x19 :: x20 :: x21 :: x22 :: x23 :: x24 :: x25 :: x26 :: x27 :: x28 :: x29 :: x30 :: x31 :: x32 :: x33 :: x34 :: x35 :: x36 :: x37 :: x38 :: x39 :: x40 :: x41 :: x42 :: x43 :: x44 :: x45 :: x46 :: x47 :: x48 :: x49 :: x50 :: x51 :: x52 :: x53 :: x54 :: x55 :: x56 :: x57 :: x58 :: x59 :: x60 :: x61 :: x62 :: x63 :: x64 :: x65 :: x66 :: x67 :: x68 :: x69 :: x70 :: x71 :: x72 :: x73 :: x74 :: x75 :: x76 :: x77 :: x78 :: x79 :: x80 :: x81 :: x82 :: x83 :: x84 :: x85 :: x86 :: x87 :: x88 :: x89 :: x90 :: x91 :: x92 :: x93 :: x94 :: x95 :: x96 :: x97 :: x98 :: x99 :: x100 :: x101 :: x102 :: x103 :: x104 :: x105 :: x106 :: x107 :: x108 :: x109 :: x110 :: x111 :: x112 :: x113 :: x114 :: x115 :: x116 :: x117 :: x118 :: x119 :: x120 :: x121 :: x122 :: x123 :: x124 :: x125 :: x126 :: x127 :: (.bool (decide (k ≥ 0))) :: (y129) :: (y130) :: (y131) :: (y132) :: (y133) :: (y134) :: (y135) :: (y136) :: (y137) :: (y138) :: (y139) :: (y140) :: (y141) :: (y142) :: (y143) :: (y144) :: (y145) :: (y146) :: (y147) :: (y148) :: (y149) :: (y150) :: (y151) :: (y152) :: (y153) :: (y154) :: (y155) :: (y156) :: (y157) :: (y158) :: (y159) :: (y160) :: (y161) :: (y162) :: (y163) :: (y164) :: (y165) :: x166 :: x167 :: x168 :: x169 :: x170 :: x171 :: x172 :: x173 :: x174 :: x175 :: x176 :: x177 :: x178 :: x179 :: x180 :: x181 :: x182 :: x183 :: x184 :: x185 :: x186 :: x187 :: [])), []⟩ w') :
    Code.wp Tryz.prog reqBody Q0 ⟨(List.toArray ((.slice (some ⟨bb, oo, none⟩) b.length cap) :: x1 :: x2 :: x3 :: x4 :: x5 :: (.int .i64 ((q : Int) + sz2)) :: x7 :: x8 :: x9 :: (.int .i64 0) :: x11 :: x12 :: x13 :: (.int .i64 k) :: (.slice none 0 0) :: (.bool true) :: x17 :: x18 :: x19 :: x20 :: x21 :: x22 :: x23 :: x24 :: x25 :: x26 :: x27 :: x28 :: x29 :: x30 :: x31 :: x32 :: x33 :: x34 :: x35 :: x36 :: x37 :: x38 :: x39 :: x40 :: x41 :: x42 :: x43 :: x44 :: x45 :: x46 :: x47 :: x48 :: x49 :: x50 :: x51 :: x52 :: x53 :: x54 :: x55 :: x56 :: x57 :: x58 :: x59 :: x60 :: x61 :: x62 :: x63 :: x64 :: x65 :: x66 :: x67 :: x68 :: x69 :: x70 :: x71 :: x72 :: x73 :: x74 :: x75 :: x76 :: x77 :: x78 :: x79 :: x80 :: x81 :: x82 :: x83 :: x84 :: x85 :: x86 :: x87 :: x88 :: x89 :: x90 :: x91 :: x92 :: x93 :: x94 :: x95 :: x96 :: x97 :: x98 :: x99 :: x100 :: x101 :: x102 :: x103 :: x104 :: x105 :: x106 :: x107 :: x108 :: x109 :: x110 :: x111 :: x112 :: x113 :: x114 :: x115 :: x116 :: x117 :: x118 :: x119 :: x120 :: x121 :: x122 :: x123 :: x124 :: x125 :: x126 :: x127 :: (.bool (decide (k ≥ 0))) :: x129 :: x130 :: x131 :: x132 :: x133 :: x134 :: x135 :: x136 :: x137 :: x138 :: x139 :: x140 :: x141 :: x142 :: x143 :: x144 :: x145 :: x146 :: x147 :: x148 :: x149 :: x150 :: x151 :: x152 :: x153 :: x154 :: x155 :: x156 :: x157 :: x158 :: x159 :: x160 :: x161 :: x162 :: x163 :: x164 :: x165 :: x166 :: x167 :: x168 :: x169 :: x170 :: x171 :: x172 :: x173 :: x174 :: x175 :: x176 :: x177 :: x178 :: x179 :: x180 :: x181 :: x182 :: x183 :: x184 :: x185 :: x186 :: x187 :: [])), []⟩ w5 := by
  have HB := Hid.mk' hb
  have hcap := hb.1
  have HB5w := Hid.mk' hB5
  have HRs5 := Hid.mk' hR5
  have HKr := Hid.mk' (Rq.len_range hln)
  have HX := Hid.mk' hexit
  unfold Rq.goB at hof
  rw [hln] at hof
  simp only at hof
  have HOfB := Hid.mk' hof
  have HLb : Hid ((b.drop (q + sz2)).length = b.length - (q + sz2)) := List.length_drop
  obtain ⟨j0, hj0, hy0, hy1, hy2⟩ := info_parts info_u8
  have Hj := Hid.mk' hj0; have Hy0 := Hid.mk' hy0; have Hy1 := Hid.mk' hy1; have Hy2 := Hid.mk' hy2
  clear hj0 hy0 hy1 hy2 hb hB5 hR5 hln hexit hof
  conv => arg 2; whnf
  by_cases hk0 : 0 ≤ k
  · obtain ⟨kk, rfl⟩ := Int.eq_ofNat_of_zero_le hk0
    have t1 : decide ((kk : Int) ≥ 0) = true := decide_eq_true (by omega)
    have hk4 : kk ≤ 4000 := by rcases HKr.out with e | e <;> omega
    have hof2 := HOfB.out
    rw [if_pos hk0] at hof2
    by_cases hen : kk ≤ b.length - (q + sz2)
    · have t2 : decide ((b.length : Int) - ((q : Int) + sz2) ≥ kk) = true := decide_eq_true (by omega)
      rw [if_pos (by rw [HLb.out]; simpa using hen)] at hof2
      simp only [Int.toNat_natCast, List.drop_drop] at hof2
      have HOf3 : Hid (Rq.of b = ((es ++ [.head { h with length := (kk : Int) }]) ++ Rq.some_ ((b.drop (q + sz2)).take kk) ++ (Rq.rest (f' + 1) (b.drop (q + sz2 + kk)) true 0).1, (Rq.rest (f' + 1) (b.drop (q + sz2 + kk)) true 0).2)) := by
        unfold Hid
        rw [hof2]; simp
      clear hof2 HOfB hk0
      have HIs : Hid (∀ ao2 c2, c2 = cap - (q + sz2) → (cap ≠ q + sz2 → ao2 = some ⟨bb, oo + (q + sz2), none⟩) → IsB w5 ao2 c2 (((b.drop (q + sz2)).take kk))) := fun ao2 c2 hc ha => by
        subst hc
        have := (HB.out.stay HB5w.out).cut (ao' := ao2) (q + sz2) (q + sz2 + kk) (by omega) (by omega) (fun e => by rw [ha e]; simp [Addr.add_lit])
        rw [show q + sz2 + kk - (q + sz2) = kk by omega] at this
        exact this
      by_cases hac : cap = q + sz2
      · obtain rfl : kk = 0 := by omega
        subst hac
        go_wp2_with (at_builtin; refine wpList_append_b rfl (.tmp 136) (.tmp 142) 22 rfl w5.heap.size 5 j0 Tryz.underlying22 Hj.out Hy0.out Hy1.out Hy2.out (l := []) rfl rfl (OwnB.nil _ _ _) (l2 := (b.drop (q + sz2)).take 0) rfl (by rw [List.length_take, HLb.out]; omega) (HIs.out _ _ (by omega) (fun e => absurd rfl e)) (by omega) (Nat.le_refl _) ?_; intro bo6 bc6 w6 hO6 hG6; have HO6 := Hid.mk' hO6; have HG6 := Hid.mk' hG6; clear hO6 hG6)
        exact HX.out _ _ _ _ _ _ _ _ _ _ _ _ _ _ _ _ _ _ _ _ _ _ _ _ _ _ _ _ _ _ _ _ _ _ _ _ _ _ _ _ _ _ _ ⟨q + sz2 + 0, (b.drop (q + sz2)).take 0, bo6, bc6, true, 0, 0, by go_num, rfl, by simp, rfl, by simp, by omega, (fun _ _ => by omega), r3_own HRs5.out (by simpa using HO6.out) (grown_none HG6.out) HOf3.out⟩
      · go_wp2_with (at_builtin; refine wpList_append_b rfl (.tmp 136) (.tmp 142) 22 rfl w5.heap.size 5 j0 Tryz.underlying22 Hj.out Hy0.out Hy1.out Hy2.out (l := []) rfl rfl (OwnB.nil _ _ _) (l2 := (b.drop (q + sz2)).take kk) rfl (by rw [List.length_take, HLb.out]; omega) (HIs.out _ _ (by omega) (fun _ => by simp)) (by omega) (Nat.le_refl _) ?_; intro bo6 bc6 w6 hO6 hG6; have HO6 := Hid.mk' hO6; have HG6 := Hid.mk' hG6; clear hO6 hG6)
        exact HX.out _ _ _ _ _ _ _ _ _ _ _ _ _ _ _ _ _ _ _ _ _ _ _ _ _ _ _ _ _ _ _ _ _ _ _ _ _ _ _ _ _ _ _ ⟨q + sz2 + kk, (b.drop (q + sz2)).take kk, bo6, bc6, true, 0, kk, by go_num, rfl, by simp, rfl, by rw [List.length_take, HLb.out]; omega, by omega, (fun _ _ => by omega), r3_own HRs5.out (by simpa using HO6.out) (grown_none HG6.out) HOf3.out⟩
    · have t2 : decide ((b.length : Int) - ((q : Int) + sz2) ≥ kk) = false := decide_eq_false (by omega)
      rw [if_neg (by rw [HLb.out]; simpa using hen)] at hof2
      have HOf3 : Hid (Rq.of b = ((es ++ [.head { h with length := (kk : Int) }]) ++ Rq.some_ (b.drop (q + sz2)) ++ (Rq.rest (f' + 1) (b.drop b.length) false 0).1, (Rq.rest (f' + 1) (b.drop b.length) false 0).2)) := by
        unfold Hid
        rw [hof2, List.drop_length]; simp
      clear hof2 HOfB hk0
      have HIs : Hid (∀ ao2 c2, c2 = cap - (q + sz2) → (cap ≠ q + sz2 → ao2 = some ⟨bb, oo + (q + sz2), none⟩) → IsB w5 ao2 c2 (b.drop (q + sz2))) := fun ao2 c2 hc ha => by
        subst hc
        have := (HB.out.stay HB5w.out).cut (ao' := ao2) (q + sz2) b.length (by omega) (by omega) (fun e => by rw [ha e]; simp [Addr.add_lit])
        rw [List.take_of_length_le (by rw [HLb.out]; omega)] at this
        exact this
      by_cases hac : cap = q + sz2
      · have e1 : b.length = q + sz2 := by omega
        have e3 : b.length - (q + sz2) = 0 := by omega
        have hnil : b.drop (q + sz2) = [] := List.drop_eq_nil_of_le (by omega)
        have HOf4 := Hid.mk' HOf3.out
        rw [hnil] at HOf4
        have HE1 := Hid.mk' e1
        clear e1 hnil
        subst hac
        go_wp2
        exact HX.out _ _ _ _ _ _ _ _ _ _ _ _ _ _ _ _ _ _ _ _ _ _ _ _ _ _ _ _ _ _ _ _ _ _ _ _ _ _ _ _ _ _ _ ⟨b.length, [], none, 0, false, 0, 0, rfl, rfl, rfl, rfl, rfl, by have := HE1.out; omega, (fun _ _ => Nat.le_refl _), r3_own HRs5.out (OwnB.nil _ _ _) (Below.refl _ _) HOf4.out⟩
      · go_wp2_with (at_builtin; refine wpList_append_b rfl (.tmp 147) (.tmp 150) 22 rfl w5.heap.size 5 j0 Tryz.underlying22 Hj.out Hy0.out Hy1.out Hy2.out (l := []) rfl rfl (OwnB.nil _ _ _) (l2 := b.drop (q + sz2)) rfl HLb.out (HIs.out _ _ (by omega) (fun _ => by simp)) (by omega) (Nat.le_refl _) ?_; intro bo6 bc6 w6 hO6 hG6; have HO6 := Hid.mk' hO6; have HG6 := Hid.mk' hG6; clear hO6 hG6)
        exact HX.out _ _ _ _ _ _ _ _ _ _ _ _ _ _ _ _ _ _ _ _ _ _ _ _ _ _ _ _ _ _ _ _ _ _ _ _ _ _ _ _ _ _ _ ⟨b.length, b.drop (q + sz2), bo6, bc6, false, 0, b.length - (q + sz2), rfl, rfl, by simp, rfl, HLb.out.symm, by omega, (fun _ _ => Nat.le_refl _), r3_own HRs5.out (by simpa using HO6.out) (grown_none HG6.out) HOf3.out⟩
  · obtain rfl : k = -1 := by rcases HKr.out with e | e <;> omega
    have t1 : decide ((-1 : Int) ≥ 0) = false := by decide
    have hof2 := HOfB.out
    rw [if_neg hk0, List.drop_drop] at hof2
    have HOf3 : Hid (Rq.of b = ((es ++ [.head { h with length := -1 }]) ++ Rq.some_ (Ck.of (b.drop (q + sz2))).body ++ (Rq.rest (f' + 1) (b.drop (q + sz2 + (Ck.of (b.drop (q + sz2))).used)) (Ck.of (b.drop (q + sz2))).over (Ck.of (b.drop (q + sz2))).code).1, (Rq.rest (f' + 1) (b.drop (q + sz2 + (Ck.of (b.drop (q + sz2))).used)) (Ck.of (b.drop (q + sz2))).over (Ck.of (b.drop (q + sz2))).code).2)) := by
      unfold Hid
      rw [hof2]; simp
    have HUs : Hid ((Ck.of (b.drop (q + sz2))).over = true → (Ck.of (b.drop (q + sz2))).code = 0 → q + sz2 + (Ck.of (b.drop (q + sz2))).used ≤ b.length) := fun _ _ => by
      have := Ck.used_of (b.drop (q + sz2))
      rw [HLb.out] at this
      omega
    have hus := Ck.used_of (b.drop (q + sz2))
    rw [HLb.out] at hus
    have HCh : Hid (∀ ao2 c2, c2 = cap - (q + sz2) → (cap ≠ q + sz2 → ao2 = some ⟨bb, oo + (q + sz2), none⟩) → Calls Tryz.prog 44 #[.slice ao2 (b.length - (q + sz2)) c2] w5 fun e w' => ChOwn w5 (b.drop (q + sz2)) e w') := fun ao2 c2 hc ha => by
      subst hc
      have := (HB.out.stay HB5w.out).cut (ao' := ao2) (q + sz2) b.length (by omega) (by omega) (fun e => by rw [ha e]; simp [Addr.add_lit])
      rw [List.take_of_length_le (by rw [HLb.out]; omega)] at this
      have h2 := chunksOf_own (b.drop (q + sz2)) ao2 (cap - (q + sz2)) w5 this (by rw [HLb.out]; omega)
      rw [HLb.out] at h2
      exact h2
    clear hof2 HOfB hk0
    by_cases hac : cap = q + sz2
    · have e3 : b.length - (q + sz2) = 0 := by omega
      have HC1 := Hid.mk' (HCh.out (some ⟨bb, oo, none⟩) 0 (by omega) (fun e => absurd hac e))
      rw [e3] at HC1
      unfold ChOwn at HC1
      generalize Ck.of (b.drop (q + sz2)) = C at *
      subst hac
      go_wp2_with fail
      refine HC1.out.mono ?_
      rintro e w6 ⟨bo6, bc6, rfl, hO6, hb6⟩
      have HO6 := Hid.mk' hO6; have HB6 := Hid.mk' hb6
      clear hO6 hb6
      go_wp2
      exact HX.out _ _ _ _ _ _ _ _ _ _ _ _ _ _ _ _ _ _ _ _ _ _ _ _ _ _ _ _ _ _ _ _ _ _ _ _ _ _ _ _ _ _ _ ⟨q + sz2 + C.used, C.body, bo6, bc6, C.over, C.code, C.body.length, by go_num, rfl, rfl, rfl, rfl, by omega, HUs.out, r3_own HRs5.out HO6.out HB6.out HOf3.out⟩
    · have HC1 := Hid.mk' (HCh.out (some ⟨bb, oo + (q + sz2), none⟩) (cap - (q + sz2)) rfl (fun _ => rfl))
      unfold ChOwn at HC1
      generalize Ck.of (b.drop (q + sz2)) = C at *
      go_wp2_with fail
      refine HC1.out.mono ?_
      rintro e w6 ⟨bo6, bc6, rfl, hO6, hb6⟩
      have HO6 := Hid.mk' hO6; have HB6 := Hid.mk' hb6
      clear hO6 hb6
      go_wp2
      exact HX.out _ _ _ _ _ _ _ _ _ _ _ _ _ _ _ _ _ _ _ _ _ _ _ _ _ _ _ _ _ _ _ _ _ _ _ _ _ _ _ _ _ _ _ ⟨q + sz2 + C.used, C.body, bo6, bc6, C.over, C.code, C.body.length, by go_num, rfl, rfl, rfl, rfl, by omega, HUs.out, r3_own HRs5.out HO6.out HB6.out HOf3.out⟩
end Go.Proofs.YtkafbifogdoneacGreatDoor

/- The document's own answer for requests, walked: Requests. -/
namespace Go.Proofs.YtkafbifogdoneacGreatDoor
open Go.RowKit

set_option maxRecDepth 100000 in
set_option maxHeartbeats 6000000 in
theorem requests_some (b : List UInt8) (bb oo cap : Nat) (w : World) (hb : IsB w (some ⟨bb, oo, none⟩) cap b) (h9 : b.length ≤ 20000) :
    Calls Tryz.prog 13 #[.slice (some ⟨bb, oo, none⟩) b.length cap] w fun e w' => RsOut w b e w' := by
  have HB := Hid.mk' hb
  have HLn := Hid.mk' (fun k n c ao hk hn hc ha W hW => lineFrom hb h9 k n c ao hk hn hc ha W hW)
  have hcap := hb.1
  clear hb
  go_enter Tryz.func13, Tryz.ntmps13
  go_wp2
  go_loopw [6] (fun va wr => ∃ (p n : Nat) (ao : Option Addr) (ca : Nat) (es : List Rq.Ev) (f : Nat), p ≤ b.length ∧ va = .int .i64 p ∧ R1Rel w b p ao ca n es f wr) (fun va _ => b.length + 1 - (intOf va).toNat)
  case atStart => exact ⟨0, 0, none, 0, [], b.length, Nat.zero_le _, rfl, ⟨RsAt.start w, by simp, by simp [Rq.of], Nat.zero_le _⟩⟩
  case round =>
    obtain ⟨p, n, ao, ca, es, f, hp, rfl, hR⟩ := hrel
    have HR := Hid.mk' hR
    have hn6 : n ≤ 60000 := by have := hR.few; omega
    have c0 : wr.cell? ⟨w.heap.size, 0, none⟩ = some (.slice ao n ca) := hR.rs.cell.cell 0
    clear hR
    go_upto_region 4 with fail
    go_cut [7, 8, 9, 10] from 18 to 187 (fun v7 v8 v9 v10 wd => v7 = .string ⟨(Ln.of (b.drop p)).text.toArray⟩ ∧ v8 = .int .i64 ((Ln.of (b.drop p)).size : Int) ∧ v9 = .bool (Ln.of (b.drop p)).ended ∧ v10 = .int .i64 ((Ln.of (b.drop p)).code : Int) ∧ wd = wr)
    case first =>
      by_cases hac : cap = p
      · have HL1 := Hid.mk' (fun W hW => HLn.out p 0 0 (some ⟨bb, oo, none⟩) hp (by omega) (by omega) (fun e => absurd hac e) W hW)
        have e1 : b.length - p = 0 := by omega
        have e2 : cap - p = 0 := by omega
        generalize Ln.of (b.drop p) = L at *
        subst hac
        go_wp2_with fail
        refine (HL1.out _ HR.out.rs.cell.below).mono ?_
        rintro e w1 ⟨rfl, hw⟩
        subst hw
        go_wp2
        go_meet
        exact ⟨rfl, rfl, rfl, rfl, rfl⟩
      · have HL1 := Hid.mk' (fun W hW => HLn.out p (b.length - p) (cap - p) (some ⟨bb, oo + p, none⟩) hp rfl rfl (fun _ => rfl) W hW)
        generalize Ln.of (b.drop p) = L at *
        go_wp2_with fail
        refine (HL1.out _ HR.out.rs.cell.below).mono ?_
        rintro e w1 ⟨rfl, hw⟩
        subst hw
        go_wp2
        go_meet
        exact ⟨rfl, rfl, rfl, rfl, rfl⟩
    case rest =>
      obtain ⟨rfl, rfl, rfl, rfl, hw⟩ := hcut
      subst hw
      have hle := Ln.of_le (b.drop p)
      have htl := Ln.of_text_le (b.drop p)
      rw [List.length_drop] at hle htl
      have HOf := Hid.mk' HR.out.of_
      by_cases hlc : (Ln.of (b.drop p)).code = 0
      · have HT2 := Hid.mk' (Ln.of_text_200 (b.drop p))
        by_cases hen : (Ln.of (b.drop p)).ended = true
        · have hsz : 0 < (Ln.of (b.drop p)).size := by
            rcases Nat.eq_zero_or_pos (Ln.of (b.drop p)).size with h | h
            · have := Ck.open_of h; rw [hen] at this; cases this.2
            · exact h
          have HDD : Hid (∀ k, (b.drop p).drop k = b.drop (p + k)) := fun k => List.drop_drop
          have hfu := HR.out.f_
          rw [List.length_drop] at hfu
          obtain ⟨f', rfl⟩ : ∃ f', f = f' + 1 := ⟨f - 1, by omega⟩
          by_cases htx : (Ln.of (b.drop p)).text = []
          · rw [Rq.go_empty hlc hen htx, HDD.out] at HOf
            rw [hlc, hen, htx]
            generalize (Ln.of (b.drop p)).size = sz at *
            clear hlc hen htx htl HT2 HDD
            go_wp2
            go_roundw
            case rel => exact ⟨p + sz, n, ao, ca, es, f', by omega, by go_num, ⟨HR.out.rs, by rw [List.length_drop]; omega, HOf.out, by have := HR.out.few; omega⟩⟩
            case measure => simp [intOf]; omega
          · have ttx : ((⟨(Ln.of (b.drop p)).text.toArray⟩ : ByteArray).toList == []) = false := by rw [beq_eq_false_iff_ne, Lib.toList_data]; exact htx
            have HFl := Hid.mk' (fun W => firstLine_any ⟨(Ln.of (b.drop p)).text.toArray⟩ W (by show (Ln.of (b.drop p)).text.toArray.size ≤ _; rw [List.size_toArray]; have := HT2.out; omega))
            have hdat : (⟨(Ln.of (b.drop p)).text.toArray⟩ : ByteArray).data.toList = (Ln.of (b.drop p)).text := rfl
            rw [hdat] at HFl
            cases hfi : Rq.first (Ln.of (b.drop p)).text with
            | inl c =>
              rw [Rq.go_bad hlc hen htx hfi] at HOf
              rw [hfi] at HFl
              unfold Rq.firstVal at HFl
              simp only at HFl
              have hcz : c ≠ 0 := Rq.first_code hfi
              have tc : ((c : Int) != 0) = true := by rw [bne_iff_ne]; omega
              rw [hlc, hen]
              clear hfi hdat htx hlc hen htl HT2 HDD hcz
              generalize (Ln.of (b.drop p)).size = sz at *
              generalize (⟨(Ln.of (b.drop p)).text.toArray⟩ : ByteArray) = tb at *
              go_wp2_with fail
              refine (HFl.out _).mono ?_
              rintro e w1 ⟨rfl, hb1⟩
              have HRs1 := Hid.mk' (HR.out.rs.stay hb1)
              have HF := Hid.mk' (fun ob => reqFail_any w (w1.alloc ob) ao ca n c es (HRs1.out.stay ((Below.refl _ _).alloc (Nat.le_refl _) _)) (by omega))
              clear hb1 HFl c0
              go_wp2_with fail
              refine (HF.out _).mono ?_
              rintro e w2 ⟨a2, c2, rfl, hW, hB⟩
              have HW := Hid.mk' hW; have HBw := Hid.mk' hB
              clear hW hB
              go_wp2
              go_ret2
              exact RsOut.of HOf.out (by rw [List.length_append, ← HR.out.rs.len]; rfl) rfl HW.out HBw.out
            | inr h =>
              rw [Rq.go_first hlc hen htx hfi, HDD.out] at HOf
              rw [hfi] at HFl
              unfold Rq.firstVal at HFl
              simp only at HFl
              have hgd := Rq.first_good HT2.out hfi
              have hf0 := Rq.first_fields hfi
              rw [hlc, hen]
              have HDs : Hid (p + (Ln.of (b.drop p)).size ≤ b.length ∧ 0 < (Ln.of (b.drop p)).size) := ⟨by omega, hsz⟩
              clear hfi hdat htx hlc hen htl HT2 HDD
              generalize (Ln.of (b.drop p)).size = sz at *
              generalize (⟨(Ln.of (b.drop p)).text.toArray⟩ : ByteArray) = tb at *
              go_wp2_with fail
              refine (HFl.out _).mono ?_
              rintro e w1 ⟨rfl, hb1⟩
              have HRs1 := Hid.mk' (HR.out.rs.stay hb1)
              have HFew := Hid.mk' HR.out.few
              have HR2 : Hid (R2Rel w w1 b (p + sz) ao ca n es (f' + 1) (f' + 1) h none 0 0 (w1.alloc (.cells #[.string ⟨h.method.toArray⟩, .string ⟨h.target.toArray⟩, .int .i64 (h.minor : Int), .slice none 0 0, .int .i64 0] 25))) := ⟨⟨OneAt.made _ _ _, (by rw [hf0]; exact OwnV.nil _ _ _ _), by rw [hf0]; rfl⟩, by rw [List.length_drop]; omega, by rw [hf0]; exact HOf.out, hgd.1⟩
              clear hb1 HFl c0 HOf hgd hf0 HR ttx
              go_wp2
              go_loopw [6] (fun va wr => ∃ (q f2 nf : Nat) (hd : Rq.Hd) (fo : Option Addr) (fcap : Nat), p + sz ≤ q ∧ q ≤ b.length ∧ va = .int .i64 q ∧ R2Rel w w1 b q ao ca n es (f' + 1) f2 hd fo fcap nf wr) (fun va _ => b.length + 1 - (intOf va).toNat)
              case atStart => exact ⟨p + sz, f' + 1, 0, h, none, 0, Nat.le_refl _, HDs.out.1, by go_num, HR2.out⟩
              case round =>
                clear HR2
                obtain ⟨q, f2, nf, hd, fo, fcap, hpq, hq, rfl, hR2⟩ := hrel
                have HR2 := Hid.mk' hR2
                clear hR2
                generalize hd = h at *
                have c0 : wr.cell? ⟨w.heap.size, 0, none⟩ = some (.slice ao n ca) := (HRs1.out.stay HR2.out.hb.one.below).cell.cell 0
                have b3 : wr.cell? ⟨w1.heap.size, 3, none⟩ = some (.slice fo nf fcap) := HR2.out.hb.one.cell 3
                have HRs : Hid (RsAt w ao ca n es wr) := HRs1.out.stay HR2.out.hb.one.below
                go_upto_region 14 with fail
                go_cut [7, 8, 9, 10] from 58 to 107 (fun v7 v8 v9 v10 wd => v7 = .string ⟨(Ln.of (b.drop q)).text.toArray⟩ ∧ v8 = .int .i64 ((Ln.of (b.drop q)).size : Int) ∧ v9 = .bool (Ln.of (b.drop q)).ended ∧ v10 = .int .i64 ((Ln.of (b.drop q)).code : Int) ∧ wd = wr)
                case first =>
                  by_cases hac : cap = q
                  · have HL1 := Hid.mk' (fun W hW => HLn.out q 0 0 (some ⟨bb, oo, none⟩) hq (by omega) (by omega) (fun e => absurd hac e) W hW)
                    have e1 : b.length - q = 0 := by omega
                    have e2 : cap - q = 0 := by omega
                    generalize Ln.of (b.drop q) = L at *
                    subst hac
                    go_wp2_with fail
                    refine (HL1.out _ HRs.out.cell.below).mono ?_
                    rintro e w2 ⟨rfl, hw⟩
                    subst hw
                    go_wp2
                    go_meet
                    exact ⟨rfl, rfl, rfl, rfl, rfl⟩
                  · have HL1 := Hid.mk' (fun W hW => HLn.out q (b.length - q) (cap - q) (some ⟨bb, oo + q, none⟩) hq rfl rfl (fun _ => rfl) W hW)
                    generalize Ln.of (b.drop q) = L at *
                    go_wp2_with fail
                    refine (HL1.out _ HRs.out.cell.below).mono ?_
                    rintro e w2 ⟨rfl, hw⟩
                    subst hw
                    go_wp2
                    go_meet
                    exact ⟨rfl, rfl, rfl, rfl, rfl⟩
                case rest =>
                  obtain ⟨rfl, rfl, rfl, rfl, hw⟩ := hcut
                  subst hw
                  have hle2 := Ln.of_le (b.drop q)
                  rw [List.length_drop] at hle2
                  have HOf := Hid.mk' HR2.out.of_
                  have HT2 := Hid.mk' (Ln.of_text_200 (b.drop q))
                  by_cases hlc : (Ln.of (b.drop q)).code = 0
                  · by_cases hen : (Ln.of (b.drop q)).ended = true
                    · have hsz2 : 0 < (Ln.of (b.drop q)).size := by
                        rcases Nat.eq_zero_or_pos (Ln.of (b.drop q)).size with h | h
                        · have := Ck.open_of h; rw [hen] at this; cases this.2
                        · exact h
                      have HDD : Hid (∀ k, (b.drop q).drop k = b.drop (q + k)) := fun k => List.drop_drop
                      have hfu2 := HR2.out.f_
                      rw [List.length_drop] at hfu2
                      obtain ⟨f3, rfl⟩ : ∃ f3, f2 = f3 + 1 := ⟨f2 - 1, by omega⟩
                      by_cases htx : (Ln.of (b.drop q)).text = []
                      · rw [Rq.flds_end hlc hen htx, HDD.out] at HOf
                        have hlo := lengthOf_any ⟨h.method.toArray⟩ ⟨h.target.toArray⟩ h.minor 0 (Rq.flT h.fields) fo fcap wc (by have := HR2.out.hb.row.isV; rw [HR2.out.hb.len] at this; rw [Rq.flT_length]; exact this) (by rw [Rq.flT_length]; exact HR2.out.good.many) (fun x hx => by
                          unfold Rq.flT at hx
                          obtain ⟨y, hy, rfl⟩ := List.mem_map.1 hx
                          have := HR2.out.good.fields y hy
                          refine ⟨?_, ?_⟩
                          · show y.1.toArray.size ≤ _; rw [List.size_toArray]; omega
                          · show y.2.toArray.size ≤ _; rw [List.size_toArray]; omega)
                        rw [Rq.flB_flT, Rq.flT_length, ← HR2.out.hb.len] at hlo
                        have HLo : Hid (Calls Tryz.prog 43 #[.agg #[.string ⟨h.method.toArray⟩, .string ⟨h.target.toArray⟩, .int .i64 (h.minor : Int), .slice fo nf fcap, .int .i64 0]] wc fun e w' => e = .returned (Rq.lenVal (Rq.len h)) ∧ Below wc.heap.size wc w') := hlo
                        have g0 : wc.cell? ⟨w1.heap.size, 0, none⟩ = some (.string ⟨h.method.toArray⟩) := HR2.out.hb.one.cell 0
                        have g1 : wc.cell? ⟨w1.heap.size, 1, none⟩ = some (.string ⟨h.target.toArray⟩) := HR2.out.hb.one.cell 1
                        have g2 : wc.cell? ⟨w1.heap.size, 2, none⟩ = some (.int .i64 (h.minor : Int)) := HR2.out.hb.one.cell 2
                        have g4 : wc.cell? ⟨w1.heap.size, 4, none⟩ = some (.int .i64 0) := HR2.out.hb.one.cell 4
                        rw [hlc, hen, htx]
                        clear hlo htx hlc hen HT2 HDD
                        generalize (Ln.of (b.drop q)).size = sz2 at *
                        cases hln : Rq.len h with
                        | inl c =>
                          have hof2 : Rq.of b = (es ++ [.fail c], false) := by
                            rw [HOf.out]
                            show (es ++ (Rq.goB _ h _).1, (Rq.goB _ h _).2) = _
                            unfold Rq.goB; rw [hln]
                          have HOf2 := Hid.mk' hof2
                          have tc : ((c : Int) != 0) = true := by rw [bne_iff_ne]; have := Rq.len_code hln; omega
                          rw [hln] at HLo
                          unfold Rq.lenVal at HLo
                          simp only at HLo
                          clear HOf hof2 hln
                          go_wp2_with fail
                          refine HLo.out.mono ?_
                          rintro e w2 ⟨rfl, hb2⟩
                          have HF := Hid.mk' (reqFail_any w w2 ao ca n c es (HRs.out.stay hb2) (by omega))
                          clear hb2 HLo
                          go_wp2_with fail
                          refine HF.out.mono ?_
                          rintro e w9 ⟨a9, c9, rfl, hW, hB⟩
                          have HW := Hid.mk' hW; have HBw := Hid.mk' hB
                          clear hW hB
                          go_wp2
                          go_ret2
                          exact RsOut.of HOf2.out (by rw [List.length_append, ← HRs1.out.len]; rfl) rfl HW.out HBw.out
                        | inr k =>
                          rw [hln] at HLo
                          unfold Rq.lenVal at HLo
                          simp only at HLo
                          have HKr := Hid.mk' (Rq.len_range hln)
                          have HLn2 := Hid.mk' hln
                          clear hln
                          go_wp2_with fail
                          refine HLo.out.mono ?_
                          rintro e w2 ⟨rfl, hb2⟩
                          have hO2 := HR2.out.hb.one.stay hb2
                          have k0 : w2.cell? ⟨w1.heap.size, 0, none⟩ = some (.string ⟨h.method.toArray⟩) := hO2.cell 0
                          have k1 : w2.cell? ⟨w1.heap.size, 1, none⟩ = some (.string ⟨h.target.toArray⟩) := hO2.cell 1
                          have k2 : w2.cell? ⟨w1.heap.size, 2, none⟩ = some (.int .i64 (h.minor : Int)) := hO2.cell 2
                          have k3 : w2.cell? ⟨w1.heap.size, 3, none⟩ = some (.slice fo nf fcap) := hO2.cell 3
                          have k4 : w2.cell? ⟨w1.heap.size, 4, none⟩ = some (.int .i64 0) := hO2.cell 4
                          have k4f := hO2.fz 4
                          go_upto_region 31 with fail
                          have hO3 := hO2.put 4 (.int .i64 k)
                          have hRw : OwnV (w2.setCell ⟨w1.heap.size, 4, none⟩ (.int .i64 k)) (w1.heap.size + 1) 51 2 fo fcap nf (pairV (Rq.flT h.fields)) := (HR2.out.hb.row.stay hb2).turns (S := fun x => x = w1.heap.size) (setCells_turns w1.heap.size [.int .i64 k] 4 w2) (fun a e x => by have := (HR2.out.hb.row.block a e).1; omega)
                          have hHl := HR2.out.hb.len
                          have HGd := Hid.mk' HR2.out.good
                          clear hO2 hb2 k0 k1 k2 k3 k4 k4f HLo g0 g1 g2 g4 b3 c0 HRs HR2
                          generalize (w2.setCell ⟨w1.heap.size, 4, none⟩ (Value.int .i64 k)) = w3 at *
                          have hRs3 := HRs1.out.stay hO3.below
                          obtain ⟨xs, hOx, hpx⟩ := hRs3.push (.cells #[.int .i64 1, .string ⟨h.method.toArray⟩, .string ⟨h.target.toArray⟩, .int .i64 (h.minor : Int), .slice fo nf fcap, .int .i64 k, .slice none 0 0, .string ⟨#[]⟩, .string ⟨#[]⟩, .string ⟨#[]⟩, .slice none 0 0, .int .i64 0] 32)
                          have HOx := Hid.mk' hOx; have HPx := Hid.mk' hpx
                          have HIn : Hid (InE w3 (fun x => w.heap.size + 1 ≤ x ∧ blockOf ao ≠ some x) (Rq.Ev.head { h with length := k }).d ⟨fo, fcap, none, 0, none, 0⟩) := ⟨⟨by
                            have := hRw.isV
                            rw [hHl, ← Rq.flT_length] at this
                            exact this, fun _ a e => ⟨by have h1 := (hRw.block a e).1; have h2 := HRs1.out.cell.lt; omega, fun f => by have h1 := (hRw.block a e).1; have h2 := (HRs1.out.want.row a.block f).2; omega⟩⟩, IsBS.nil _ _, IsBS.nil _ _⟩
                          have HCe : Hid ((Rq.Ev.head { h with length := k }).d.cells ⟨fo, fcap, none, 0, none, 0⟩ = #[.int .i64 1, .string ⟨h.method.toArray⟩, .string ⟨h.target.toArray⟩, .int .i64 (h.minor : Int), .slice fo nf fcap, .int .i64 k, .slice none 0 0, .string ⟨#[]⟩, .string ⟨#[]⟩, .string ⟨#[]⟩, .slice none 0 0, .int .i64 0].toList) := by
                            unfold Hid
                            simp [Rq.Ev.d, EvD.cells, Rq.flT_length, hHl]
                          have HLt3 : Hid (w.heap.size + 1 ≤ w3.heap.size) := hRs3.cell.lt
                          have x0 : w3.cell? ⟨w.heap.size, 0, none⟩ = some (.slice ao n ca) := hRs3.cell.cell 0
                          have k0 : w3.cell? ⟨w1.heap.size, 0, none⟩ = some (.string ⟨h.method.toArray⟩) := hO3.cell 0
                          have k1 : w3.cell? ⟨w1.heap.size, 1, none⟩ = some (.string ⟨h.target.toArray⟩) := hO3.cell 1
                          have k2 : w3.cell? ⟨w1.heap.size, 2, none⟩ = some (.int .i64 (h.minor : Int)) := hO3.cell 2
                          have k3 : w3.cell? ⟨w1.heap.size, 3, none⟩ = some (.slice fo nf fcap) := hO3.cell 3
                          have k4 : w3.cell? ⟨w1.heap.size, 4, none⟩ = some (.int .i64 k) := hO3.cell 4
                          have HNe : Hid (n = es.length) := HRs1.out.len
                          clear hHl
                          obtain ⟨i0, hi0, hz0, hz1, hz2⟩ := info_parts info_ev
                          have Hi := Hid.mk' hi0; have Hz0 := Hid.mk' hz0; have Hz1 := Hid.mk' hz1; have Hz2 := Hid.mk' hz2
                          clear hi0 hz0 hz1 hz2 hOx hpx hRs3 hO3 hRw HRs1
                          go_upto_if 128 with (at_builtin; refine wpList_append_v rfl (.tmp 122) (.tmp 125) 26 rfl (w.heap.size + 1) 32 i0 (.agg #[.int .i64 0, .string ⟨#[]⟩, .string ⟨#[]⟩, .int .i64 0, .slice none 0 0, .int .i64 0, .slice none 0 0, .string ⟨#[]⟩, .string ⟨#[]⟩, .string ⟨#[]⟩, .slice none 0 0, .int .i64 0]) 12 184 Tryz.underlying26 Hi.out Hz0.out Hz1.out Hz2.out rfl (by decide) rfl HOx.out rfl (IsV.made _ _ 1 _ _) rfl (one_cells _ _ _ HCe.out) (by omega) (by omega) (by rw [World.size_alloc]; have := HLt3.out; omega) ?_; intro a3 c3 w4 hO hG hat; have HQ := Hid.mk' (HPx.out a3 c3 w4 (.head { h with length := k }) _ _ HCe.out HIn.out hO hG hat); have q0 := HQ.out.2.1.cell 0; have q1 := HQ.out.2.1.fz 0; clear hO hG hat)
                          have HRs5 := Hid.mk' HQ.out.2.2.2
                          have HB5w : Hid (Below w.heap.size w (w4.setCell ⟨w.heap.size, 0, none⟩ (.slice a3 (n + 1) c3))) := HQ.out.2.2.2.cell.below
                          clear HOx HPx HIn HCe x0 k0 k1 k2 k3 k4 q0 q1 HLt3 HQ
                          generalize (w4.setCell ⟨w.heap.size, 0, none⟩ (Value.slice a3 (n + 1) c3)) = w5 at *
                          have hlo : q + sz2 ≤ b.length := by omega
                          have hlb : (b.drop (q + sz2)).length = b.length - (q + sz2) := List.length_drop
                          clear hlb
                          obtain ⟨j0, hj0, hy0, hy1, hy2⟩ := info_parts info_u8
                          have Hj := Hid.mk' hj0; have Hy0 := Hid.mk' hy0; have Hy1 := Hid.mk' hy1; have Hy2 := Hid.mk' hy2
                          clear hj0 hy0 hy1 hy2
                          go_cut [6, 10, 15, 16] from 18 to 187 (fun v6 v10 v15 v16 wd => ∃ (p3 : Nat) (body : List UInt8) (bo : Option Addr) (bc : Nat) (ov : Bool) (c nb : Nat), v6 = .int .i64 p3 ∧ v10 = .int .i64 (c : Int) ∧ v15 = .slice bo nb bc ∧ v16 = .bool ov ∧ nb = body.length ∧ q + sz2 ≤ p3 ∧ (ov = true → c = 0 → p3 ≤ b.length) ∧ R3Rel w w5 b (f' + 1) a3 c3 (n + 1) (es ++ [.head { h with length := k }]) p3 body bo bc ov c wd)
                          case first =>
                            refine reqBody_any b bb oo cap w w5 q sz2 f' n k a3 c3 es h HB.out h9 hlo HB5w.out HRs5.out HLn2.out HOf.out _ _ _ _ _ _ _ _ _ _ _ _ _ _ _ _ _ _ _ _ _ _ _ _ _ _ _ _ _ _ _ _ _ _ _ _ _ _ _ _ _ _ _ _ _ _ _ _ _ _ _ _ _ _ _ _ _ _ _ _ _ _ _ _ _ _ _ _ _ _ _ _ _ _ _ _ _ _ _ _ _ _ _ _ _ _ _ _ _ _ _ _ _ _ _ _ _ _ _ _ _ _ _ _ _ _ _ _ _ _ _ _ _ _ _ _ _ _ _ _ _ _ _ _ _ _ _ _ _ _ _ _ _ _ _ _ _ _ _ _ _ _ _ _ _ _ _ _ _ _ _ _ _ _ _ _ _ _ _ _ _ _ _ _ _ _ _ _ _ _ _ _ _ _ _ _ _ _ _ _ _ _ ?_
                            intro w6 y6 y8 y10 y15 y16 y129 y130 y131 y132 y133 y134 y135 y136 y137 y138 y139 y140 y141 y142 y143 y144 y145 y146 y147 y148 y149 y150 y151 y152 y153 y154 y155 y156 y157 y158 y159 y160 y161 y162 y163 y164 y165 hy
                            simp only [Exit.then]
                            first
                              | (go_step; go_meet; exact hy)
                              | (apply_assumption; go_meet; exact hy)
                              | (rename_i hK; refine hK _ _ ?_; go_meet; exact hy)
                          case rest =>
                            obtain ⟨p3, body, bo, bc, ov, c, nb, rfl, rfl, rfl, rfl, hnb, hp3, hp3b, hR3⟩ := hcut
                            have HR3 := Hid.mk' hR3
                            have x0 : wc.cell? ⟨w.heap.size, 0, none⟩ = some (.slice a3 (n + 1) c3) := hR3.rs.cell.cell 0
                            have x0f := hR3.rs.cell.fz 0
                            have HNb := Hid.mk' hnb
                            have HInB : Hid (body ≠ [] → InE wc (fun x => w.heap.size + 1 ≤ x ∧ blockOf a3 ≠ some x) (Rq.Ev.body body).d ⟨none, 0, bo, bc, none, 0⟩) := fun _ => ⟨IsVS.nil _ _, hR3.bytes.mono (fun x _ e => ⟨by have := HRs5.out.cell.lt; omega, fun f => by have := (HRs5.out.want.row x f).2; omega⟩), IsBS.nil _ _⟩
                            obtain ⟨xs7, hO7, hp7⟩ := hR3.rs.push (.cells #[.int .i64 2, .string ⟨#[]⟩, .string ⟨#[]⟩, .int .i64 0, .slice none 0 0, .int .i64 0, .slice bo nb bc, .string ⟨#[]⟩, .string ⟨#[]⟩, .string ⟨#[]⟩, .slice none 0 0, .int .i64 0] 32)
                            have HO7 := Hid.mk' hO7; have HP7 := Hid.mk' hp7
                            have HLt7 : Hid (w.heap.size + 1 ≤ wc.heap.size) := hR3.rs.cell.lt
                            clear hR3 hnb hO7 hp7 HRs5
                            go_upto_if 168 with fail
                            go_cut [166] from 18 to 187 (fun _ wd => ∃ a4 c4 n4, n4 ≤ n + 2 ∧ RsAt w a4 c4 n4 (es ++ [.head { h with length := k }] ++ Rq.some_ body) wd)
                            case first =>
                              by_cases hbe : body = []
                              · have hcz : ¬ 0 < nb := by rw [HNb.out, hbe]; simp
                                have tb0 : decide ((nb : Int) > 0) = false := decide_eq_false (by omega)
                                have HBe := Hid.mk' hbe
                                clear hbe
                                go_wp2
                                go_meet
                                exact ⟨a3, c3, n + 1, by omega, by rw [HBe.out]; show RsAt _ _ _ _ (_ ++ []) _; rw [List.append_nil]; exact HR3.out.rs⟩
                              · have hcp : 0 < nb := by rw [HNb.out]; exact List.length_pos_iff.2 hbe
                                have tb0 : decide ((nb : Int) > 0) = true := decide_eq_true (by omega)
                                have HIn7 := Hid.mk' (HInB.out hbe)
                                have HCe7 : Hid ((Rq.Ev.body body).d.cells ⟨none, 0, bo, bc, none, 0⟩ = (#[.int .i64 2, .string ⟨#[]⟩, .string ⟨#[]⟩, .int .i64 0, .slice none 0 0, .int .i64 0, .slice bo nb bc, .string ⟨#[]⟩, .string ⟨#[]⟩, .string ⟨#[]⟩, .slice none 0 0, .int .i64 0] : Array Value).toList) := by
                                  unfold Hid; rw [HNb.out]; rfl
                                have HSm : Hid (Rq.some_ body = [.body body]) := by unfold Hid Rq.some_; rw [if_neg hbe]
                                clear hbe
                                go_wp2_with (at_builtin; refine wpList_append_v rfl (.tmp 169) (.tmp 172) 26 rfl (w.heap.size + 1) 32 i0 (.agg #[.int .i64 0, .string ⟨#[]⟩, .string ⟨#[]⟩, .int .i64 0, .slice none 0 0, .int .i64 0, .slice none 0 0, .string ⟨#[]⟩, .string ⟨#[]⟩, .string ⟨#[]⟩, .slice none 0 0, .int .i64 0]) 12 184 Tryz.underlying26 Hi.out Hz0.out Hz1.out Hz2.out rfl (by decide) rfl HO7.out rfl (IsV.made _ _ 1 _ _) rfl (one_cells _ _ _ HCe7.out) (by omega) (by omega) (by rw [World.size_alloc]; have := HLt7.out; omega) ?_; intro a4 c4 w8 hO hG hat; have HQ8 := Hid.mk' (HP7.out a4 c4 w8 (.body body) _ _ HCe7.out HIn7.out hO hG hat); have q0 := HQ8.out.2.1.cell 0; have q1 := HQ8.out.2.1.fz 0; clear hO hG hat)
                                go_meet
                                exact ⟨a4, c4, n + 1 + 1, by omega, by rw [HSm.out]; exact HQ8.out.2.2.2⟩
                            case rest =>
                              obtain ⟨a4, c4, n4, hn4, hR4⟩ := hcut
                              have HOf5 := Hid.mk' HR3.out.of_
                              have HR4 := Hid.mk' hR4
                              have y0 : wc.cell? ⟨w.heap.size, 0, none⟩ = some (.slice a4 n4 c4) := hR4.cell.cell 0
                              clear hR4 HR3 HInB HO7 HP7 x0 x0f
                              generalize es ++ [Rq.Ev.head { h with length := k }] ++ Rq.some_ body = es4 at *
                              by_cases hc : c = 0
                              · subst hc
                                cases ov with
                                | false =>
                                  have hof6 : Rq.of b = (es4, true) := by rw [HOf5.out]; simp [Rq.rest]
                                  have HOf6 := Hid.mk' hof6
                                  clear hof6
                                  go_wp2
                                  go_ret2
                                  exact RsOut.of HOf6.out HR4.out.len rfl HR4.out.want HR4.out.cell.below
                                | true =>
                                  have hp3' := hp3b rfl rfl
                                  have hof6 : Rq.of b = (es4 ++ [.fin] ++ (Rq.go (f' + 1) (b.drop p3)).1, (Rq.go (f' + 1) (b.drop p3)).2) := by rw [HOf5.out]; simp [Rq.rest]
                                  have HOf6 := Hid.mk' hof6
                                  obtain ⟨xs9, hO9, hp9⟩ := HR4.out.push (.cells #[.int .i64 3, .string ⟨#[]⟩, .string ⟨#[]⟩, .int .i64 0, .slice none 0 0, .int .i64 0, .slice none 0 0, .string ⟨#[]⟩, .string ⟨#[]⟩, .string ⟨#[]⟩, .slice none 0 0, .int .i64 0] 32)
                                  have HO9 := Hid.mk' hO9; have HP9 := Hid.mk' hp9
                                  have HLt9 : Hid (w.heap.size + 1 ≤ wc.heap.size) := HR4.out.cell.lt
                                  clear hof6 hO9 hp9
                                  go_wp2_with (at_builtin; refine wpList_append_v rfl (.tmp 184) (.tmp 186) 26 rfl (w.heap.size + 1) 32 i0 (.agg #[.int .i64 0, .string ⟨#[]⟩, .string ⟨#[]⟩, .int .i64 0, .slice none 0 0, .int .i64 0, .slice none 0 0, .string ⟨#[]⟩, .string ⟨#[]⟩, .string ⟨#[]⟩, .slice none 0 0, .int .i64 0]) 12 184 Tryz.underlying26 Hi.out Hz0.out Hz1.out Hz2.out rfl (by decide) rfl HO9.out rfl (IsV.made _ _ 1 _ _) rfl (one_cells Rq.Ev.fin.d ⟨none, 0, none, 0, none, 0⟩ _ rfl) (by omega) (by omega) (by rw [World.size_alloc]; have := HLt9.out; omega) ?_; intro a5 c5 w10 hO hG hat; have HQ10 := Hid.mk' (HP9.out a5 c5 w10 .fin ⟨none, 0, none, 0, none, 0⟩ _ rfl ⟨IsVS.nil _ _, IsBS.nil _ _, IsBS.nil _ _⟩ hO hG hat); have q0 := HQ10.out.2.1.cell 0; have q1 := HQ10.out.2.1.fz 0; clear hO hG hat)
                                  go_roundw
                                  case rel => exact ⟨p3, n4 + 1, a5, c5, es4 ++ [.fin], f', by omega, rfl, ⟨HQ10.out.2.2.2, by rw [List.length_drop]; omega, HOf6.out, by have := HFew.out; omega⟩⟩
                                  case measure => simp [intOf]; omega
                              · have hof6 : Rq.of b = (es4 ++ [.fail c], false) := by rw [HOf5.out]; simp [Rq.rest, hc]
                                have HOf6 := Hid.mk' hof6
                                have tc : ((c : Int) != 0) = true := by rw [bne_iff_ne]; omega
                                have HF := Hid.mk' (reqFail_any w wc a4 c4 n4 c es4 HR4.out (by omega))
                                clear hof6 hc
                                go_wp2_with fail
                                refine HF.out.mono ?_
                                rintro e w9 ⟨a9, c9, rfl, hW, hB⟩
                                have HW := Hid.mk' hW; have HBw := Hid.mk' hB
                                clear hW hB
                                go_wp2
                                go_ret2
                                exact RsOut.of HOf6.out (by rw [List.length_append, ← HR4.out.len]; rfl) rfl HW.out HBw.out
                      · have ttx : ((⟨(Ln.of (b.drop q)).text.toArray⟩ : ByteArray).toList == []) = false := by rw [beq_eq_false_iff_ne, Lib.toList_data]; exact htx
                        by_cases h16 : h.fields.length = 16
                        · rw [Rq.flds_many hlc hen htx h16] at HOf
                          have t16 : ((nf : Int) == 16) = true := by rw [beq_iff_eq]; have := HR2.out.hb.len; omega
                          rw [hlc, hen]
                          have HF := Hid.mk' (reqFail_any w wc ao ca n 8 es HRs.out (by omega))
                          clear htx hlc hen h16 HT2 HDD
                          generalize (Ln.of (b.drop q)).size = sz2 at *
                          generalize (⟨(Ln.of (b.drop q)).text.toArray⟩ : ByteArray) = tb2 at *
                          go_wp2_with fail
                          refine HF.out.mono ?_
                          rintro e w9 ⟨a9, c9, rfl, hW, hB⟩
                          have HW := Hid.mk' hW; have HBw := Hid.mk' hB
                          clear hW hB
                          go_wp2
                          go_ret2
                          exact RsOut.of HOf.out (by rw [List.length_append, ← HRs1.out.len]; rfl) rfl HW.out HBw.out
                        · have t16 : ((nf : Int) == 16) = false := by rw [beq_eq_false_iff_ne]; have := HR2.out.hb.len; omega
                          have HFd := Hid.mk' (fun W => fieldOf_any ⟨(Ln.of (b.drop q)).text.toArray⟩ W (by show (Ln.of (b.drop q)).text.toArray.size ≤ _; rw [List.size_toArray]; have := HT2.out; omega))
                          have hdat : (⟨(Ln.of (b.drop q)).text.toArray⟩ : ByteArray).data.toList = (Ln.of (b.drop q)).text := rfl
                          rw [hdat] at HFd
                          unfold Fd.val at HFd
                          by_cases hfc : (Fd.of (Ln.of (b.drop q)).text).code = 0
                          · rw [Rq.flds_more hlc hen htx h16 hfc, HDD.out] at HOf
                            have HGd := Hid.mk' (HR2.out.good.more _ HT2.out h16)
                            rw [hlc, hen]
                            rw [hfc] at HFd
                            clear htx hlc hen h16 HT2 HDD hdat hfc
                            generalize (Ln.of (b.drop q)).size = sz2 at *
                            generalize (Fd.of (Ln.of (b.drop q)).text) = fd at *
                            generalize (⟨(Ln.of (b.drop q)).text.toArray⟩ : ByteArray) = tb2 at *
                            go_wp2_with fail
                            refine (HFd.out _).mono ?_
                            rintro e w2 ⟨rfl, hb2⟩
                            have hnf16 : nf ≤ 16 := by have h1 := HR2.out.hb.len; have h2 := HR2.out.good.many; omega
                            have hbA : Below wc.heap.size wc ((w2.alloc (.cells #[.string ⟨fd.name.toArray⟩, .string ⟨fd.value.toArray⟩] 51)).alloc (.cells #[.string ⟨fd.name.toArray⟩, .string ⟨fd.value.toArray⟩] 51)) := then_ (then_ hb2 ((Below.refl _ _).alloc (Nat.le_refl _) _)) ((Below.refl _ _).alloc (Nat.le_refl _) _)
                            have HBA := Hid.mk' hbA
                            have b3' : (w2.alloc (.cells #[.string ⟨fd.name.toArray⟩, .string ⟨fd.value.toArray⟩] 51)).cell? ⟨w1.heap.size, 3, none⟩ = some (.slice fo nf fcap) := ((HR2.out.hb.one.stay hb2).stay ((Below.refl _ _).alloc (Nat.le_refl _) _)).cell 3
                            have HRow := Hid.mk' ((HR2.out.hb.row.stay hb2).stay ((Below.refl _ _).alloc (Nat.le_refl _) (.cells #[.string ⟨fd.name.toArray⟩, .string ⟨fd.value.toArray⟩] 51)))
                            have HLt : Hid (w1.heap.size + 1 ≤ w2.heap.size) := (HR2.out.hb.one.stay hb2).lt
                            obtain ⟨i1, hi1, hw0, hw1, hw2⟩ := info_parts info_fld
                            have Hi1 := Hid.mk' hi1; have Hw0 := Hid.mk' hw0; have Hw1 := Hid.mk' hw1; have Hw2 := Hid.mk' hw2
                            clear hi1 hw0 hw1 hw2 hb2 hbA b3 HFd c0
                            go_wp2_with (at_builtin; refine wpList_append_v rfl (.tmp 103) (.tmp 105) 23 rfl (w1.heap.size + 1) 51 i1 (.agg #[.string ⟨#[]⟩, .string ⟨#[]⟩]) 2 32 Tryz.underlying23 Hi1.out Hw0.out Hw1.out Hw2.out rfl (by decide) rfl (HRow.out.alloc _) rfl (IsV.made_at _ _ 1 _ _ (by simp)) rfl (fun u hu => by simp at hu; rcases hu with rfl | rfl <;> rfl) (by omega) (by omega) (by rw [World.size_alloc, World.size_alloc]; have := HLt.out; omega) ?_; intro a4 c4 w4 hO4 hG4 hat4; have HM := Hid.mk' (HR2.out.hb.more HBA.out hO4 hG4); have m3 := HM.out.1.cell 3; have m3f := HM.out.1.fz 3; clear hO4 hG4 hat4)
                            go_roundw
                            case rel => exact ⟨q + sz2, f3, nf + 1, _, a4, c4, by omega, by omega, by go_num, ⟨HM.out.2, by rw [List.length_drop]; omega, by rw [Rq.goH_fields]; exact HOf.out, HGd.out⟩⟩
                            case measure => simp [intOf]; omega
                          · rw [Rq.flds_bad hlc hen htx h16 hfc] at HOf
                            have tfc : (((Fd.of (Ln.of (b.drop q)).text).code : Int) != 0) = true := by rw [bne_iff_ne]; omega
                            rw [hlc, hen]
                            clear htx hlc hen h16 HT2 HDD hdat hfc
                            generalize (Ln.of (b.drop q)).size = sz2 at *
                            generalize (Fd.of (Ln.of (b.drop q)).text) = fd at *
                            generalize (⟨(Ln.of (b.drop q)).text.toArray⟩ : ByteArray) = tb2 at *
                            go_wp2_with fail
                            refine (HFd.out _).mono ?_
                            rintro e w2 ⟨rfl, hb2⟩
                            have HF := Hid.mk' (fun ob => reqFail_any w (w2.alloc ob) ao ca n fd.code es ((HRs.out.stay hb2).stay ((Below.refl _ _).alloc (Nat.le_refl _) _)) (by omega))
                            clear hb2 HFd
                            go_wp2_with fail
                            refine (HF.out _).mono ?_
                            rintro e w9 ⟨a9, c9, rfl, hW, hB⟩
                            have HW := Hid.mk' hW; have HBw := Hid.mk' hB
                            clear hW hB
                            go_wp2
                            go_ret2
                            exact RsOut.of HOf.out (by rw [List.length_append, ← HRs1.out.len]; rfl) rfl HW.out HBw.out
                    · have hen' : (Ln.of (b.drop q)).ended = false := by simpa using hen
                      rw [Rq.flds_open hlc hen'] at HOf
                      rw [hlc, hen']
                      clear hen hen' hlc HT2
                      generalize (Ln.of (b.drop q)).size = sz2 at *
                      generalize (⟨(Ln.of (b.drop q)).text.toArray⟩ : ByteArray) = tb2 at *
                      go_wp2
                      go_ret2
                      have hof2 : Rq.of b = (es, true) := by rw [HOf.out, Rq.goH, List.append_nil]
                      exact RsOut.of hof2 HRs.out.len rfl HRs.out.want HRs.out.cell.below
                  · rw [Rq.flds_code hlc] at HOf
                    have tlc : (((Ln.of (b.drop q)).code : Int) != 0) = true := by rw [bne_iff_ne]; omega
                    generalize Ln.of (b.drop q) = L at *
                    obtain ⟨t2, sz2, en2, lc2⟩ := L
                    simp only at *
                    generalize (⟨t2.toArray⟩ : ByteArray) = tb2 at *
                    have HF := Hid.mk' (reqFail_any w wc ao ca n lc2 es HRs.out (by omega))
                    clear hlc
                    go_wp2_with fail
                    refine HF.out.mono ?_
                    rintro e w9 ⟨a9, c9, rfl, hW, hB⟩
                    have HW := Hid.mk' hW; have HBw := Hid.mk' hB
                    clear hW hB
                    go_wp2
                    go_ret2
                    exact RsOut.of HOf.out (by rw [List.length_append, ← HRs1.out.len]; rfl) rfl HW.out HBw.out
        · have hen' : (Ln.of (b.drop p)).ended = false := by simpa using hen
          rw [Rq.go_open hlc hen'] at HOf
          rw [hlc, hen']
          have tb : decide (b.drop p ≠ []) = decide (p < b.length) := by
            rw [decide_eq_decide]
            constructor
            · intro h; have := List.length_pos_iff.2 h; rw [List.length_drop] at this; omega
            · intro h e; have := congrArg List.length e; rw [List.length_drop] at this; simp at this; omega
          have HTb := Hid.mk' tb
          clear hen hen' hlc HT2 tb
          generalize (Ln.of (b.drop p)).size = sz at *
          generalize (⟨(Ln.of (b.drop p)).text.toArray⟩ : ByteArray) = tb at *
          go_wp2
          go_ret2
          have hof2 : Rq.of b = (es, decide (p < b.length)) := by rw [HOf.out, List.append_nil, HTb.out]
          exact RsOut.of hof2 HR.out.rs.len rfl HR.out.rs.want HR.out.rs.cell.below
      · rw [Rq.go_code hlc] at HOf
        have tlc : (((Ln.of (b.drop p)).code : Int) != 0) = true := by rw [bne_iff_ne]; omega
        generalize Ln.of (b.drop p) = L at *
        obtain ⟨t, sz, en, lc⟩ := L
        simp only at *
        generalize (⟨t.toArray⟩ : ByteArray) = tb at *
        have HF := Hid.mk' (reqFail_any w wc ao ca n lc es HR.out.rs (by omega))
        clear hlc
        go_wp2_with fail
        refine HF.out.mono ?_
        rintro e w1 ⟨a2, c2, rfl, hW, hB⟩
        have HW := Hid.mk' hW; have HBw := Hid.mk' hB
        clear hW hB
        go_wp2
        go_ret2
        exact RsOut.of HOf.out (by rw [List.length_append, ← HR.out.rs.len]; rfl) rfl HW.out HBw.out
end Go.Proofs.YtkafbifogdoneacGreatDoor
