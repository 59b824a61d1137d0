/- The document's own answer, walked: ReplyText. -/
import Derived.Test.YtjhbiipbmlpgoaaDoorRfWord
import Derived.Test.YtjhbiipbmlpgoaaDoorPk13
import Derived.Test.YtjhbiipbmlpgoaaDoorPk12
import Derived.Test.YtjhbiipbmlpgoaaDoorPk6
import Derived.Test.YtjhbiipbmlpgoaaDoorMemK
import Derived.Test.YtjhbiipbmlpgoaaDoorPk9
import Derived.Deep.DeepCutAuto
import Derived.Deep.RegionHeld
import Derived.Deep.RegionHeldLaw
namespace Go.Proofs.YtjhbiipbmlpgoaaDoor
open Go.RowKit

/-- content-length, in small letters -/
def bLen : ByteArray := ⟨#[99, 111, 110, 116, 101, 110, 116, 45, 108, 101, 110, 103, 116, 104]⟩
/-- a reply's text -/
def Rp.out (st : Int) (l : List (ByteArray × ByteArray)) (body : List UInt8) : List UInt8 × Nat := Rp.text st l (Fd.vals bLen l).length body
/-- what was written -/
inductive RpOut (w : World) (r : List UInt8 × Nat) (e : Ending) (w' : World) : Prop
  | bad (c : Nat) (hc : c ≠ 0) (he : e = .returned (.tuple #[.slice none 0 0, .int .i64 (c : Int)])) (ht : r = ([], c)) (hB : Below w.heap.size w w')
  | ok (g cap n : Nat) (he : e = .returned (.tuple #[.slice (some ⟨g, 0, none⟩) n cap, .int .i64 0])) (hn : n = r.1.length) (ht : r.2 = 0) (hO : Buf w' w.heap.size g cap r.1) (hB : Below w.heap.size w w')
structure RpRel (w : World) (cs : Array Value) (T : Nat) (l : List (ByteArray × ByteArray)) (sx : List UInt8) (i : Nat) (x : ByteArray) (wr : World) : Prop where
  txt : x.data.toList = sx ++ (l.take i).flatMap Rp.lineT
  zero : ∀ p ∈ l.take i, (Fd.text p.1.data.toList p.2.data.toList).2 = 0
  one : OneAt w cs T wr
theorem rp_line_le (p : ByteArray × ByteArray) (h : p.1.size ≤ 2000 ∧ p.2.size ≤ 2000) : (Rp.lineT p).length ≤ 4004 := by
  have e1 : p.1.data.toList.length = p.1.size := by rw [Array.length_toList]; rfl
  have e2 : p.2.data.toList.length = p.2.size := by rw [Array.length_toList]; rfl
  have h3 : (Fd.text p.1.data.toList p.2.data.toList).1.length ≤ p.1.data.toList.length + 2 + p.2.data.toList.length := by
    unfold Fd.text
    split
    · simp
    · split
      · simp
      · split
        · simp
        · simp; omega
  unfold Rp.lineT
  rw [List.length_append]
  simp only [List.length_cons, List.length_nil]
  omega
theorem rp_lines_le : ∀ (l : List (ByteArray × ByteArray)), (∀ p ∈ l, p.1.size ≤ 2000 ∧ p.2.size ≤ 2000) → (l.flatMap Rp.lineT).length ≤ l.length * 4004
  | [], _ => by simp
  | p :: t, h => by
    have h1 := rp_lines_le t (fun q hq => h q (by simp [hq]))
    have h2 := rp_line_le p (h p (by simp))
    rw [List.flatMap_cons, List.length_append, List.length_cons]; omega
set_option maxRecDepth 100000 in
set_option maxHeartbeats 4000000 in
theorem replyText_any (w : World) (st : Int) (l : List (ByteArray × ByteArray)) (fo bo : Option Addr) (fcap bcap nb : Nat) (body : List UInt8) (hl : IsV w fo fcap l.length (pairV l)) (hN : l.length ≤ 1000000) (hs : ∀ p ∈ l, p.1.size ≤ 2000 ∧ p.2.size ≤ 2000) (hb : body.length = nb) (hBd : IsB w bo bcap body) (hnb : nb ≤ 100000) :
    Calls Tryd.prog 8 #[.agg #[.int .i64 st, .slice fo l.length fcap, .slice bo nb bcap]] w fun e w' => RpOut w (Rp.out st l body) e w' := by
  subst hb
  obtain ⟨j0, hj0, hy0, hy1, hy2⟩ := info_parts info_u8
  have Hj := Hid.mk' hj0; have Hy0 := Hid.mk' hy0; have Hy1 := Hid.mk' hy1; have Hy2 := Hid.mk' hy2
  have HV := Hid.mk' hl; have HS := Hid.mk' hs; have HBd := Hid.mk' hBd
  have HX : Hid (∀ W, OneAt w #[.int .i64 st, .slice fo l.length fcap, .slice bo body.length bcap] 25 W → W.cell? ⟨w.heap.size, 0, none⟩ = some (.int .i64 st) ∧ W.cell? ⟨w.heap.size, 1, none⟩ = some (.slice fo l.length fcap) ∧ W.cell? ⟨w.heap.size, 2, none⟩ = some (.slice bo body.length bcap)) := fun W h => ⟨h.cell 0, h.cell 1, h.cell 2⟩
  have HVs : Hid (∀ W, OneAt w #[.int .i64 st, .slice fo l.length fcap, .slice bo body.length bcap] 25 W → Calls Tryd.prog 20 #[.slice fo l.length fcap, .string bLen] W fun e w' => ∃ a c, e = .returned (.slice a (Fd.vals bLen l).length c) ∧ Below W.heap.size W w') := fun W h => (valuesOf_any l bLen fo fcap l.length W (hl.stay h.below) rfl hN (fun p hp => (hs p hp).1) (by decide)).mono fun e w' ⟨a, c, h1, _, h3⟩ => ⟨a, c, h1, h3⟩
  have H0 := Hid.mk' (OneAt.made w #[.int .i64 st, .slice fo l.length fcap, .slice bo body.length bcap] 25)
  have hwl := Rp.word_len st
  clear hl hs hBd hj0 hy0 hy1 hy2
  have HSw := Hid.mk' (fun W => statusWord_any st W)
  go_enter Tryd.func8, Tryd.ntmps8
  go_wp2_with fail
  refine (HSw.out _).mono ?_
  rintro e w1 ⟨rfl, hb1⟩
  have HO1 := Hid.mk' (H0.out.stay hb1)
  obtain ⟨x0, x1, x2⟩ := HX.out w1 HO1.out
  clear hb1 H0
  by_cases hwd : Rp.word st = []
  · have HF : Hid (Rp.out st l body = ([], 11)) := by unfold Hid Rp.out Rp.text; rw [if_pos hwd]
    have tw : ((⟨(Rp.word st).toArray⟩ : ByteArray).toList == ([] : List UInt8)) = true := by rw [Lib.toList_data, hwd]; rfl
    generalize (⟨(Rp.word st).toArray⟩ : ByteArray) = wd at *
    clear hwd
    go_wp2
    go_ret2
    exact .bad 11 (by omega) rfl HF.out HO1.out.below
  · obtain ⟨hs1, hs2⟩ := Rp.word_has hwd
    obtain ⟨sn, rfl⟩ : ∃ sn : Nat, st = (sn : Int) := ⟨st.toNat, by omega⟩
    have tw : ((⟨(Rp.word sn).toArray⟩ : ByteArray).toList == ([] : List UInt8)) = false := by rw [Lib.toList_data, beq_eq_false_iff_ne]; simpa using hwd
    have hwz : (⟨(Rp.word sn).toArray⟩ : ByteArray).size ≤ 22 := by show (Rp.word sn).toArray.size ≤ 22; rw [List.size_toArray]; exact hwl
    have HWd : Hid ((⟨(Rp.word sn).toArray⟩ : ByteArray).data.toList = Rp.word sn) := rfl
    have HT : Hid (Rp.out sn l body = if 16 ≤ l.length then ([], 8) else if (Fd.vals bLen l).length ≠ 0 then ([], 12) else if Rp.code l ≠ 0 then ([], Rp.code l) else (Rp.first sn ++ l.flatMap Rp.lineT ++ Rp.cl ++ Ch.decF 8 body.length ++ [13, 10, 13, 10] ++ body, 0)) := by
      unfold Hid Rp.out Rp.text; rw [if_neg hwd]
    generalize hwb : (⟨(Rp.word sn).toArray⟩ : ByteArray) = wd at *
    clear hwb hwd hwl
    by_cases h16 : 16 ≤ l.length
    · have HF : Hid (Rp.out sn l body = ([], 8)) := by unfold Hid; rw [HT.out, if_pos h16]
      have t16 : decide ((l.length : Int) ≥ 16) = true := by rw [decide_eq_true_eq]; omega
      clear HT
      go_wp2
      go_ret2
      exact .bad 8 (by omega) rfl HF.out HO1.out.below
    · have t16 : decide ((l.length : Int) ≥ 16) = false := by rw [decide_eq_false_iff_not]; omega
      rw [if_neg h16] at HT
      have HV1 := Hid.mk' (HVs.out w1 HO1.out)
      unfold bLen at HV1
      go_wp2_with fail
      refine HV1.out.mono ?_
      rintro e w2 ⟨a2, c2, rfl, hb2⟩
      have HO2 := Hid.mk' (HO1.out.stay hb2)
      clear hb2 x0 x1 x2 HV1 HVs HO1
      obtain ⟨x0, x1, x2⟩ := HX.out w2 HO2.out
      rw [show (⟨#[99, 111, 110, 116, 101, 110, 116, 45, 108, 101, 110, 103, 116, 104]⟩ : ByteArray) = bLen from rfl]
      generalize (Fd.vals bLen l).length = nv at *
      by_cases hnv : 0 < nv
      · have HF : Hid (Rp.out sn l body = ([], 12)) := by unfold Hid; rw [HT.out, if_pos (by omega)]
        have tn : decide ((nv : Int) > 0) = true := by rw [decide_eq_true_eq]; omega
        clear HT
        go_wp2
        go_ret2
        exact .bad 12 (by omega) rfl HF.out HO2.out.below
      · have tn : decide ((nv : Int) > 0) = false := by rw [decide_eq_false_iff_not]; omega
        rw [if_neg (show ¬ nv ≠ 0 by omega)] at HT
        have HNm : Hid (∀ W, Calls Tryd.prog 13 #[.int .i64 (sn : Int)] W fun e w' => e = .returned (.string ⟨(Ch.decF 8 sn).toArray⟩) ∧ Below W.heap.size W w') := fun W => (num_f 8 sn W (by omega) (by omega) (by omega)).mono fun e w' ⟨h1, m, h2⟩ => ⟨h1, by rw [h2]; exact ⟨rfl, rfl, rfl, Nat.le_refl _, fun _ _ => rfl⟩⟩
        have hdl := Ch.decF_length 8 sn
        have hdz : (⟨(Ch.decF 8 sn).toArray⟩ : ByteArray).size ≤ 9 := by show (Ch.decF 8 sn).toArray.size ≤ 9; rw [List.size_toArray]; omega
        have HDd : Hid ((⟨(Ch.decF 8 sn).toArray⟩ : ByteArray).data.toList = Ch.decF 8 sn) := rfl
        generalize hdb : (⟨(Ch.decF 8 sn).toArray⟩ : ByteArray) = db at *
        clear hdb hdl
        have HFi : Hid (∀ y : ByteArray, y = ⟨#[72, 84, 84, 80, 47, 49, 46, 49, 32]⟩ ++ db ++ ⟨#[32]⟩ ++ wd ++ ⟨#[13, 10]⟩ → y.data.toList = Rp.first sn ∧ y.size ≤ 60) := fun y hy => by
          refine ⟨?_, ?_⟩
          · rw [hy]; simp only [Ch.data_append, HDd.out, HWd.out]; rfl
          · rw [hy]; simp only [ByteArray.size_append]; show 9 + db.size + 1 + wd.size + 2 ≤ 60; omega
        go_upto_region 7 with fail
        go_cut [4] (fun v wc => ∃ y : ByteArray, v = .string y ∧ y.data.toList = Rp.first sn ∧ y.size ≤ 60 ∧ OneAt w #[.int .i64 (sn : Int), .slice fo l.length fcap, .slice bo body.length bcap] 25 wc)
        case first =>
          have HOd := Hid.mk' (HO2.out.stay (below_drew _ _))
          go_region_held (fun W => W.cell? ⟨w.heap.size, 0, none⟩ = some (.int .i64 (sn : Int))) (go_keep) (first
            | (go_at_call 13; refine (HNm.out _).mono ?_; rintro e v1 ⟨rfl, hb1⟩; have hOd := HOd.out.stay hb1; clear HOd; have HOd := Hid.mk' hOd; have q0 := (HX.out v1 hOd).1; clear hOd hb1)
            | (go_at_call 11; refine (HSw.out _).mono ?_; rintro e v1 ⟨rfl, hb1⟩; have hOd := HOd.out.stay hb1; clear HOd; have HOd := Hid.mk' hOd; have q0 := (HX.out v1 hOd).1; clear hOd hb1))
          all_goals
            (try go_wp2)
            go_meet
            obtain ⟨f1, f2⟩ := HFi.out _ rfl
            exact ⟨_, rfl, f1, f2, HOd.out⟩
        case rest =>
          obtain ⟨y, rfl, hy1, hy2, hOc⟩ := hcut
          have HR0 : Hid (RpRel w #[.int .i64 (sn : Int), .slice fo l.length fcap, .slice bo body.length bcap] 25 l (Rp.first sn) 0 y wc) := ⟨by simp [hy1], fun p hp => by simp at hp, hOc⟩
          have HSz : Hid ((Rp.first sn).length ≤ 60) := by
            unfold Hid
            rw [← hy1, Array.length_toList]; exact hy2
          clear x0 x1 x2 HO2 hOc hy1 hy2 HFi HNm HSw HDd HWd hdz hwz tw
          go_wp2
          go_loopw [4, 5] (fun v4 v5 wr => ∃ (i : Nat) (x : ByteArray), i ≤ l.length ∧ v5 = .int .i64 i ∧ v4 = .string x ∧ RpRel w #[.int .i64 (sn : Int), .slice fo l.length fcap, .slice bo body.length bcap] 25 l (Rp.first sn) i x wr) (fun _ v5 _ => l.length - (intOf v5).toNat)
          case atStart => exact ⟨0, _, Nat.zero_le _, rfl, rfl, HR0.out⟩
          case round =>
            obtain ⟨i, x, hi, rfl, rfl, hR⟩ := hrel
            have HR := Hid.mk' hR
            have hxs : x.size ≤ 200000 := by
              have h1 := hR.txt
              have h2 := rp_lines_le (l.take i) (fun p hp => HS.out p (List.mem_of_mem_take hp))
              have h3 : (l.take i).length ≤ 15 := by rw [List.length_take]; omega
              have h4 := congrArg List.length h1
              rw [Array.length_toList, List.length_append] at h4
              have h5 := HSz.out
              have h6 : x.data.size = x.size := rfl
              omega
            clear hR HR0
            obtain ⟨x0, x1, x2⟩ := HX.out wr HR.out.one
            by_cases hlt : i < l.length
            · have hlt' : (i : Int) < l.length := by omega
              have hpl : 0 < (pairV l).length := by rw [pairV_length]; omega
              obtain ⟨bb, oo, rfl, hcs⟩ := (HV.out.stay HR.out.one.below).lit hpl
              have c1 := hcs _ _ (pairV_at l i hlt).1
              have c2 := hcs _ _ (pairV_at l i hlt).2
              rw [← Nat.add_assoc] at c2
              have hfc := HV.out.1
              clear hcs
              have hps := HS.out l[i] (List.getElem_mem hlt)
              have HTk : Hid (l.take (i + 1) = l.take i ++ [l[i]]) := List.take_succ_eq_append_getElem hlt
              have HBad : Hid ((Fd.text l[i].1.data.toList l[i].2.data.toList).2 ≠ 0 → Rp.code l = (Fd.text l[i].1.data.toList l[i].2.data.toList).2) := fun hc => Rp.code_bad l i hlt HR.out.zero hc
              generalize l[i] = p at *
              have HFt := Hid.mk' (fieldText_any p.1 p.2 wr (by omega) (by omega))
              have hll := rp_line_le p hps
              have HLt : Hid (Rp.lineT p = (Fd.text p.1.data.toList p.2.data.toList).1 ++ [13, 10]) := rfl
              unfold txVal at HFt
              generalize hcd : (Fd.text p.1.data.toList p.2.data.toList).2 = cd at *
              generalize (Fd.text p.1.data.toList p.2.data.toList).1 = tx at *
              have HCd := Hid.mk' hcd
              clear hcd hps
              by_cases hc0 : cd = 0
              · subst hc0
                have hxl : tx.length + 2 ≤ 4004 := by
                  have := HLt.out
                  rw [this, List.length_append] at hll; simpa using hll
                have htz : (⟨tx.toArray⟩ : ByteArray).size = tx.length := by show tx.toArray.size = _; rw [List.size_toArray]
                have htd : (⟨tx.toArray⟩ : ByteArray).data.toList = tx := rfl
                generalize (⟨tx.toArray⟩ : ByteArray) = tb at *
                have HTd := Hid.mk' htd
                clear hll htd
                go_wp2_with fail
                refine HFt.out.mono ?_
                rintro e w5 ⟨rfl, hb5⟩
                have HO5 := Hid.mk' (HR.out.one.stay hb5)
                clear hb5
                go_wp2
                go_roundw
                case rel =>
                  refine ⟨i + 1, _, by omega, by go_num, rfl, ⟨?_, ?_, HO5.out⟩⟩
                  · rw [Ch.data_append, Ch.data_append, HR.out.txt, HTk.out, List.flatMap_append, HTd.out, List.append_assoc]
                    congr 2
                    simp [HLt.out]
                  · intro q hq
                    rw [HTk.out] at hq
                    rcases List.mem_append.1 hq with hq | hq
                    · exact HR.out.zero q hq
                    · simp at hq; subst hq; exact HCd.out
                case measure => simp [intOf]; omega
              · have tc : ((cd : Int) != 0) = true := by rw [bne_iff_ne]; omega
                have HLb := Hid.mk' (HBad.out hc0); have HCn := Hid.mk' hc0
                clear hc0 hll
                go_wp2_with fail
                refine HFt.out.mono ?_
                rintro e w5 ⟨rfl, hb5⟩
                have HO5 := Hid.mk' (HR.out.one.stay hb5)
                clear hb5
                go_wp2
                (try simp only [Exit.inBlock, Exit.then])
                go_ret2
                refine .bad cd HCn.out rfl ?_ HO5.out.below
                rw [HT.out, HLb.out, if_pos HCn.out]
            · obtain rfl : i = l.length := by omega
              have HXe : Hid (Rp.out sn l body = (x.data.toList ++ Rp.cl ++ Ch.decF 8 body.length ++ [13, 10, 13, 10] ++ body, 0)) := by
                have htl : l.take l.length = l := List.take_length
                have hz := HR.out.zero
                rw [htl] at hz
                have hx := HR.out.txt
                rw [htl] at hx
                unfold Hid
                rw [HT.out, Rp.code_zero l hz, if_neg (by simp), hx]
              have HNm : Hid (∀ W, Calls Tryd.prog 13 #[.int .i64 (body.length : Int)] W fun e w' => e = .returned (.string ⟨(Ch.decF 8 body.length).toArray⟩) ∧ Below W.heap.size W w') := fun W => (num_f 8 body.length W (by omega) (by omega) (by omega)).mono fun e w' ⟨h1, m, h2⟩ => ⟨h1, by rw [h2]; exact ⟨rfl, rfl, rfl, Nat.le_refl _, fun _ _ => rfl⟩⟩
              have hdl := Ch.decF_length 8 body.length
              have hdz : (⟨(Ch.decF 8 body.length).toArray⟩ : ByteArray).size ≤ 9 := by show (Ch.decF 8 body.length).toArray.size ≤ 9; rw [List.size_toArray]; omega
              have HDd : Hid ((⟨(Ch.decF 8 body.length).toArray⟩ : ByteArray).data.toList = Ch.decF 8 body.length) := rfl
              generalize Ch.decF 8 body.length = dl at *
              generalize (⟨dl.toArray⟩ : ByteArray) = db at *
              clear hdl
              obtain ⟨z, hz⟩ : ∃ z : ByteArray, z = x ++ ⟨#[67, 111, 110, 116, 101, 110, 116, 45, 76, 101, 110, 103, 116, 104, 58, 32]⟩ ++ db ++ ⟨#[13, 10, 13, 10]⟩ := ⟨_, rfl⟩
              have hzs : z.size = x.size + 16 + db.size + 4 := by rw [hz]; simp only [ByteArray.size_append]; rfl
              have hzd : z.data.toList = x.data.toList ++ Rp.cl ++ dl ++ [13, 10, 13, 10] := by rw [hz]; simp only [Ch.data_append, HDd.out]; rfl
              have hsk := fun W => buf_of (P := Tryd.prog) W z 9 23 5 (by unfold maxLen; omega) Tryd.underlying9 Tryd.underlying23 Tryd.underlying5
              obtain ⟨capF, hsk⟩ := Classical.skolem.1 hsk
              obtain ⟨wF, hsk⟩ := Classical.skolem.1 hsk
              have hcv := fun W => (hsk W).1
              rw [hzs] at hcv
              have HBf : Hid (∀ W, Below W.heap.size W (wF W) ∧ Buf (wF W) W.heap.size W.heap.size (capF W) z.data.toList) := fun W => (hsk W).2
              have HZl : Hid (z.data.toList.length = x.size + 16 + db.size + 4) := by unfold Hid; rw [Array.length_toList]; exact hzs
              have HZd := Hid.mk' hzd
              rw [hz] at hcv
              clear hsk hzs hzd hz
              have g1 : ¬ (9223372036854775807 < x.size + 16) := by omega
              have g2 : ¬ (9223372036854775807 < x.size + 16 + db.size) := by omega
              have g3 : ¬ (9223372036854775807 < x.size + 16 + db.size + 4) := by omega
              have HOd := Hid.mk' (HR.out.one.stay (below_drew _ _))
              have HK2 : Hid (∀ W, OneAt w #[.int .i64 (sn : Int), .slice fo l.length fcap, .slice bo body.length bcap] 25 W → (wF W).cell? ⟨w.heap.size, 2, none⟩ = some (.slice bo body.length bcap)) := fun W h => (HX.out _ (h.stay (HBf.out W).1)).2.2
              have HIb : Hid (∀ W, OneAt w #[.int .i64 (sn : Int), .slice fo l.length fcap, .slice bo body.length bcap] 25 W → IsB (wF W) bo bcap body) := fun W h => HBd.out.stay (h.stay (HBf.out W).1).below
              have HFin : Hid (∀ W g8 cap8 w8, OneAt w #[.int .i64 (sn : Int), .slice fo l.length fcap, .slice bo body.length bcap] 25 W → Buf w8 W.heap.size g8 cap8 (z.data.toList ++ body) → Turns (fun k => k = W.heap.size) (wF W) w8 → w8.cell? ⟨w.heap.size, 2, none⟩ = some (.slice bo body.length bcap) ∧ RpOut w (Rp.out sn l body) (.returned (.tuple #[.slice (some ⟨g8, 0, none⟩) (x.size + 16 + db.size + 4 + body.length) cap8, .int .i64 0])) w8) := fun W g8 cap8 w8 hO hU hT => by
                have hO2 := hO.stay (HBf.out W).1
                have hlt2 := hO.lt
                have hO3 := hO2.turns hT (fun k e => by rw [e]; exact hlt2)
                have hX : Rp.out sn l body = (z.data.toList ++ body, 0) := by rw [HXe.out, HZd.out]
                refine ⟨(HX.out _ hO3).2.2, .ok g8 cap8 _ rfl ?_ (by rw [hX]) (by rw [hX]; exact ⟨Nat.le_trans (Nat.le_of_lt hlt2) hU.base_, hU.lt, hU.le, hU.max, hU.holds, hU.there⟩) hO3.below⟩
                rw [hX]
                show _ = (z.data.toList ++ body).length
                rw [List.length_append, HZl.out]
              clear HT HXe HZd x0 HR
              go_wp2_with fail
              go_region_held_law (fun W => W.cell? ⟨w.heap.size, 2, none⟩ = some (.slice bo body.length bcap)) (first | exact HK2.out _ HOd.out | go_keep) (first
                | (go_at_call 13; refine (HNm.out _).mono ?_; rintro e v1 ⟨rfl, hb1⟩; have hOd := HOd.out.stay hb1; clear HOd; have HOd := Hid.mk' hOd; have q0 := (HX.out v1 hOd).2.2; clear hOd hb1)
                | (refine step_append_buf (by rfl) (.tmp 62) (.tmp 64) 23 23 (by rfl) 5 j0 Tryd.underlying23 Hj.out Hy0.out Hy1.out Hy2.out (by rfl) (HBf.out _).2 HZl.out _ _ (by rfl) (src_bytesR Tryd.underlying23 (HIb.out _ HOd.out) rfl) (by omega) ?_; intro g8 cap8 w8 hU8 hT8; obtain ⟨q8, hfin⟩ := HFin.out _ g8 cap8 w8 HOd.out hU8 hT8; have HFn := Hid.mk' hfin; clear hU8 hT8 hfin; (try simp only [Act.put, List.getElem_toArray, List.getElem_cons_succ, List.getElem_cons_zero, List.setIfInBounds_toArray, List.set_cons_zero, List.set_cons_succ])))
              all_goals
                go_wp2
                go_ret2
                exact HFn.out
end Go.Proofs.YtjhbiipbmlpgoaaDoor
