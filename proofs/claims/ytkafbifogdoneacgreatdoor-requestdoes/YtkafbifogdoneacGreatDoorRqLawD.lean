/- RequestDoes, walked; what R.Requests comes to is a hypothesis here. -/
import Derived.Test.YtkafbifogdoneacGreatDoorRqBegun
import Derived.Test.YtkafbifogdoneacGreatDoorRqWrE
import Derived.Test.YtkafbifogdoneacGreatDoorPk21
import Derived.Test.YtkafbifogdoneacGreatDoorPk23
import Derived.Test.YtkafbifogdoneacGreatDoorPk28
import Derived.Test.YtkafbifogdoneacGreatDoorPk9
import Derived.Test.YtkafbifogdoneacGreatDoorRfSameE
import Derived.Deep.DeepCutAuto
namespace Go.Proofs.YtkafbifogdoneacGreatDoor
open Go.RowKit

theorem sumD_le (K : Nat) : ∀ (l : List EvD), (∀ e ∈ l, e.bytes.length ≤ K) → sumD l ≤ K * l.length
  | [], _ => by simp [sumD]
  | e :: r, h => by
    have h1 := h e (List.mem_cons_self ..)
    have h2 := sumD_le K r (fun x hx => h x (List.mem_cons_of_mem _ hx))
    show e.bytes.length + sumD r ≤ _
    rw [List.length_cons, Nat.mul_add]; omega
theorem SmallF.each2 {l : List (ByteArray × ByteArray)} (h : SmallF l) : ∀ p ∈ l, p.1.size ≤ 2000 ∧ p.2.size ≤ 2000 := fun p hp => by have := h.2 p hp; omega
/-- Feed of all bytes at once, and how the parser stands -/
theorem feed_does (w w1 w2 : World) (g : Nat) (l : List UInt8) (bo : Option Addr) (bcap n : Nat) (hB : IsB w bo bcap l) (hn : l.length = n) (hl : n ≤ 20000) (h1 : Below w.heap.size w w1) (hR : ReqAt w2 (fun i => w1.heap.size ≤ i) g Rq.start) (h2 : Below w1.heap.size w1 w2) :
    Calls Tryz.prog 12 #[.pointer (some ⟨g, 0, none⟩), .slice bo n bcap] w2 fun e w' => ∃ ao cap S', e = .returned (.slice ao (Rq.of l).1.length cap) ∧ IsEs w' ao cap ((Rq.of l).1.map Rq.Ev.d) ∧ ReqAt w' S' g (Rq.fold Rq.start l) ∧ Below w1.heap.size w1 w' := by
  have hs1 := h1.size
  refine (feedReq_any w2 _ g Rq.start l bo bcap n hR Rq.Good.start (hB.stay (then_ h1 h2)) (fun hne a e => ?_) hn (by omega)).mono ?_
  · subst e
    have hp : 0 < l.length := by cases l with | nil => exact absurd rfl hne | cons _ _ => simp
    have := World.block_lt_of_cell? w _ (hB.cell 0 hp)
    rw [add_block] at this
    omega
  · rintro e w' ⟨ao, cap, m, S', So', he, hm, hR', hO, _, _, _, hT⟩
    rw [(Rq.of_run l).ev] at hm hO
    subst hm
    exact ⟨ao, cap, S', he, hO.isEs, hR', h2.trans (hT.below (fun i e => by omega) h2.size)⟩
theorem failed_snoc (q : List Rq.Ev) (x : Rq.Ev) : Rq.failed (q ++ [x]) = decide (x.d.kind = 4) := by
  unfold Rq.failed
  rw [List.getLast?_append]
  cases x <;> simp [Rq.Ev.d]

theorem WrOut.flat {w : World} {h : Rq.Hd} {body : List UInt8} {e : Ending} {w' : World} (o : WrOut w h body e w') : ∃ a n c, e = .returned (.tuple #[.slice a n c, .int .i64 ((Rq.text h body).2 : Int)]) ∧ (Rq.text h body).1.length = n ∧ IsB w' a c (Rq.text h body).1 ∧ Below w.heap.size w w' := by
  cases o with
  | bad c hc he ht hB => rw [ht]; exact ⟨none, 0, 0, he, rfl, IsB.nil _, hB⟩
  | ok g cap n he hn ht hO hB => rw [ht]; exact ⟨_, n, cap, he, hn.symm, hO.isB, hB⟩
set_option maxRecDepth 100000 in
set_option maxHeartbeats 4000000 in
theorem requestDoes_of (w : World) (b body : List UInt8) (m t : ByteArray) (mi ln : Int) (l : List (ByteArray × ByteArray)) (es : List EvD) (bo yo fo eo : Option Addr) (bcap ycap fcap ecap nb ny ne : Nat)
    (hB : IsB w bo bcap b) (hnb : b.length = nb) (hY : IsB w yo ycap body) (hny : body.length = ny) (hF : IsV w fo fcap l.length (pairV l)) (hE : IsEs w eo ecap es) (hne : es.length = ne)
    (z1 : ∀ p ∈ l, p.1.size + p.2.size ≤ maxLen) (q1 : m.size ≤ 281474976710656) (q2 : t.size ≤ 281474976710656) (qb : nb ≤ 281474976710656) (qy : ny ≤ 281474976710656) (qe : ne ≤ 281474976710656) (hS : ∀ e ∈ es, e.Small) (hP : PowAt w)
    (hR : ∀ W, Below w.heap.size w W → b.length ≤ 20000 → Calls Tryz.prog 13 #[.slice bo nb bcap] W fun e w' => ∃ a2 c2, e = .returned (.tuple #[.slice a2 (Rq.of b).1.length c2, .bool (Rq.of b).2]) ∧ IsEs w' a2 c2 ((Rq.of b).1.map Rq.Ev.d) ∧ Below W.heap.size W w') :
    Calls Tryz.prog 3 #[.slice bo nb bcap, .agg #[.string m, .string t, .int .i64 mi, .slice fo l.length fcap, .int .i64 ln], .slice yo ny ycap, .slice eo ne ecap] w fun e w' => e = .returned (.bool true) ∧ Below w.heap.size w w' := by
  have HB := Hid.mk' hB; have HNb := Hid.mk' hnb; have HY := Hid.mk' hY; have HNy := Hid.mk' hny; have HF := Hid.mk' hF; have HE := Hid.mk' hE; have HNe := Hid.mk' hne; have HZ := Hid.mk' z1; have HS := Hid.mk' hS; have HP := Hid.mk' hP; have HR := Hid.mk' hR
  clear hB hnb hY hny hF hE hne z1 hS hP hR
  have HX : Hid (∀ W, OneAt w #[.string m, .string t, .int .i64 mi, .slice fo l.length fcap, .int .i64 ln] 25 W → W.cell? ⟨w.heap.size, 0, none⟩ = some (.string m) ∧ W.cell? ⟨w.heap.size, 1, none⟩ = some (.string t) ∧ W.cell? ⟨w.heap.size, 2, none⟩ = some (.int .i64 mi) ∧ W.cell? ⟨w.heap.size, 3, none⟩ = some (.slice fo l.length fcap) ∧ W.cell? ⟨w.heap.size, 4, none⟩ = some (.int .i64 ln)) := fun W h => ⟨h.cell 0, h.cell 1, h.cell 2, h.cell 3, h.cell 4⟩
  have H0 := Hid.mk' (OneAt.made w #[.string m, .string t, .int .i64 mi, .slice fo l.length fcap, .int .i64 ln] 25)
  go_enter Tryz.func3, Tryz.ntmps3
  go_wp2_with fail
  refine (requestBegun_any _).mono ?_
  rintro e w1 ⟨rfl, hb1⟩
  have H1 := Hid.mk' (H0.out.stay hb1)
  clear hb1 H0
  obtain ⟨x0, x1, x2, x3, x4⟩ := HX.out w1 H1.out
  by_cases hbig : 20000 < nb
  · have t1 : decide ((nb : Int) > 20000) = true := decide_eq_true (by omega)
    go_wp2
    go_ret
    exact ⟨rfl, H1.out.below⟩
  have t1 : decide ((nb : Int) > 20000) = false := decide_eq_false (by omega)
  by_cases hbg2 : 9000 < ny
  · have t2 : decide ((ny : Int) > 9000) = true := decide_eq_true (by omega)
    go_wp2
    go_ret
    exact ⟨rfl, H1.out.below⟩
  have t2 : decide ((ny : Int) > 9000) = false := decide_eq_false (by omega)
  go_wp2_with fail
  refine (greatFields_any l fo fcap _ w1 (HF.out.stay H1.out.below) rfl HZ.out).mono ?_
  rintro e w2 ⟨g1, rfl, hs1, hw⟩
  have H2 := Hid.mk' (H1.out.stay (drewN_below hw))
  have HS1 := Hid.mk' hs1
  clear x0 x1 x2 x3 x4 hw hs1 H1
  obtain ⟨x0, x1, x2, x3, x4⟩ := HX.out w2 H2.out
  cases g1 with
  | true =>
    go_wp2
    go_ret
    exact ⟨rfl, H2.out.below⟩
  | false =>
  have HSf : Hid (SmallF l) := HS1.out rfl
  clear HS1
  by_cases hbg3 : 2000 < m.size + t.size
  · have t3 : decide ((m.size : Int) + t.size > 2000) = true := decide_eq_true (by omega)
    go_wp2
    go_ret
    exact ⟨rfl, H2.out.below⟩
  have t3 : decide ((m.size : Int) + t.size > 2000) = false := decide_eq_false (by omega)
  by_cases hbg4 : 60 < ne
  · have t4 : decide ((ne : Int) > 60) = true := decide_eq_true (by omega)
    go_wp2
    go_ret
    exact ⟨rfl, H2.out.below⟩
  have t4 : decide ((ne : Int) > 60) = false := decide_eq_false (by omega)
  go_wp2
  clear t1 t2 t3 t4 x0 x1 x2 x3 x4
  go_loopw [9, 10] (fun v9 v10 wr => ∃ i : Nat, i ≤ ne ∧ v10 = .int .i64 i ∧ v9 = .int .i64 (sumD (es.take i) : Nat) ∧ OneAt w #[.string m, .string t, .int .i64 mi, .slice fo l.length fcap, .int .i64 ln] 25 wr) (fun _ v10 _ => ne - (intOf v10).toNat)
  case atStart => exact ⟨0, Nat.zero_le _, rfl, rfl, H2.out⟩
  case round =>
    obtain ⟨i, hi, rfl, rfl, hO⟩ := hrel
    have HO := Hid.mk' hO
    clear hO
    have hsl : sumD (es.take i) ≤ 140737488355328 * 60 := by
      have h1 := sumD_le 140737488355328 (es.take i) (fun e he => (HS.out e (List.mem_of_mem_take he)).bytes)
      have h2 : (es.take i).length ≤ 60 := by rw [List.length_take]; omega
      have h3 := Nat.mul_le_mul_left 140737488355328 h2
      omega
    by_cases hlt : i < ne
    · have hie : i < es.length := by rw [HNe.out]; exact hlt
      have hlt' : (i : Int) < ne := by omega
      obtain ⟨eb, eo2, rfl, hcs⟩ := (HE.out.stay HO.out.below).lit (by omega)
      obtain ⟨s, hev⟩ := hcs i hie
      have c6 : wr.cell? ⟨eb, eo2 + i * 12 + 6, none⟩ = some (.slice s.bo es[i].bytes.length s.bcap) := hev.at_ 6 _ rfl
      have hec := HE.out.1
      rw [HNe.out] at hec
      have HTk : Hid (sumD (es.take (i + 1)) = sumD (es.take i) + es[i].bytes.length) := by
        unfold Hid
        rw [List.take_succ_eq_append_getElem hie, sumD_append]; rfl
      have hel := (HS.out es[i] (List.getElem_mem hie)).bytes
      clear hcs hev
      generalize es[i] = ev at *
      generalize sumD (es.take i) = sm at *
      generalize ev.bytes.length = eln at *
      go_wp2
      go_roundw
      case rel => exact ⟨i + 1, by omega, by go_num, by rw [HTk.out]; go_num, HO.out⟩
      case measure => simp [intOf]; omega
    · obtain rfl : i = ne := by omega
      have htk : es.take i = es := by rw [List.take_of_length_le]; rw [HNe.out]; omega
      rw [htk] at hsl ⊢
      clear htk
      by_cases hbg5 : 5000 < sumD es
      · have t5 : decide ((sumD es : Int) > 5000) = true := decide_eq_true (by omega)
        generalize sumD es = sm at *
        go_wp2
        go_ret
        exact ⟨rfl, HO.out.below⟩
      have HZs : Hid (sumD es ≤ 140737488355328) := by unfold Hid; omega
      have t5 : decide ((sumD es : Int) > 5000) = false := decide_eq_false (by omega)
      generalize sumD es = sm at hsl hbg5 t5 ⊢
      go_wp2_with fail
      refine (newReq_any wr).mono ?_
      rintro e w3 ⟨g, rfl, hRq, hb3⟩
      have HFd := Hid.mk' (feed_does w wr w3 g b bo bcap nb HB.out HNb.out (by omega) HO.out.below hRq hb3)
      have HT := Hid.mk' (Rq.of_run b)
      have HFi : Hid (∀ e ∈ (Rq.of b).1, e.Fine) := by
        have := Rq.fine_join _ (Rq.fine_outs b Rq.Good.start)
        rw [(Rq.of_run b).ev] at this
        exact this
      have hfew : (Rq.of b).1.length ≤ 60000 := by
        have := (Rq.fed_few Rq.start b).1
        rw [(Rq.of_run b).ev] at this
        have h2 := HNb.out
        omega
      clear hRq hb3
      go_wp2_with fail
      refine HFd.out.mono ?_
      rintro e w4 ⟨a4, c4, S4, rfl, hE4, hR4, hb4⟩
      have HE4 := Hid.mk' hE4; have HR4 := Hid.mk' hR4; have H4 := Hid.mk' (HO.out.stay hb4)
      clear hE4 hR4 hb4 HFd HO
      have HRs := Hid.mk' (HR.out w4 H4.out.below (by have := HNb.out; omega))
      go_wp2_with fail
      refine HRs.out.mono ?_
      rintro e w5 ⟨a5, c5, rfl, hE5, hb5⟩
      have HE45 := Hid.mk' (HE4.out.stay hb5); have HE5 := Hid.mk' hE5; have HR5 := Hid.mk' (HR4.out.stay hb5); have H5 := Hid.mk' (H4.out.stay hb5)
      clear hE5 hb5 HRs HR4 HE4 H4 HR
      obtain ⟨x0, x1, x2, x3, x4⟩ := HX.out w5 H5.out
      have HDd : Hid (decide ((Rq.fold Rq.start b).ph = 4) = Rq.failed (Rq.of b).1) := HT.out.dead
      have HBs : Hid (Rq.busy (Rq.fold Rq.start b) = (Rq.of b).2) := HT.out.busy
      have HBu := Hid.mk' (fun W (hW : Below w5.heap.size w5 W) => busy_any W S4 g _ (HR5.out.stay hW))
      have HDe := Hid.mk' (fun W (hW : Below w5.heap.size w5 W) => dead_any W S4 g _ (HR5.out.stay hW))
      rw [HBs.out] at HBu
      rw [HDd.out] at HDe
      have HSm := Hid.mk' (fun W (hW : Below w5.heap.size w5 W) => sameEvents_yes ((Rq.of b).1.map Rq.Ev.d) a4 a5 c4 c5 W (HE45.out.stay hW) (HE5.out.stay hW) (by rw [List.length_map]; omega) (fun e he => by
        obtain ⟨x, hx, rfl⟩ := List.mem_map.1 he
        have h1 := HFi.out x hx
        cases x with
        | head hd => show (Rq.flT hd.fields).length ≤ _; rw [Rq.flT_length]; have := Rq.HGood.many h1; omega
        | body _ => exact Nat.zero_le _
        | fin => exact Nat.zero_le _
        | fail _ => exact Nat.zero_le _))
      rw [List.length_map] at HSm
      have hc5 := HE5.out.1
      rw [List.length_map] at hc5
      clear HDd HBs HT HFi HR5 HE45
      generalize (Rq.of b).2 = bz at *
      generalize (Rq.of b).1 = rs at *
      have HWr := Hid.mk' (fun W (hW : Below w.heap.size w W) => write_any W m t mi ln l fo yo fcap l.length ycap ny body (HF.out.stay hW) rfl (by have := HSf.out.1; omega) HSf.out.each2 (by omega) HNy.out (HY.out.stay hW) (by omega) (HP.out.stay hW))
      have HRt := Hid.mk' (fun W (hW : Below w.heap.size w W) => requestText_any W m t mi ln l fo yo fcap ycap ny body (HF.out.stay hW) (by have := HSf.out.1; omega) HSf.out.each2 (by omega) HNy.out (HY.out.stay hW) (by omega))
      have HJn := Hid.mk' (fun W (hW : Below w.heap.size w W) => joinAny W eo ecap i es (HE.out.stay hW) HNe.out (by omega) HS.out HZs.out)
      have HJd := Hid.mk' (fun W (hW : Below w.heap.size w W) => joined_any W eo ecap i es (HE.out.stay hW) HNe.out (by omega) HZs.out)
      generalize hnr : rs.length = nr at *
      have HNr := Hid.mk' hnr
      clear hnr
      go_upto_region 15 with fail
      go_cut [15] (fun v wd => v = .bool (Rq.failed rs) ∧ wd = w5)
      case first =>
        rcases List.eq_nil_or_concat rs with rfl | ⟨q, x, hq⟩
        · obtain rfl : nr = 0 := HNr.out.symm
          go_wp2
          go_meet
          exact ⟨rfl, rfl⟩
        · rw [List.concat_eq_append] at hq
          subst hq
          obtain rfl : nr = q.length + 1 := by rw [← HNr.out]; simp
          have HFs : Hid (Rq.failed (q ++ [x]) = decide (x.d.kind = 4)) := failed_snoc q x
          obtain ⟨eb, eo2, rfl, hcs⟩ := HE5.out.lit (by rw [List.length_map]; simp)
          obtain ⟨s, hev⟩ := hcs q.length (by rw [List.length_map]; simp)
          have hx : ((q ++ [x]).map Rq.Ev.d)[q.length]'(by rw [List.length_map]; simp) = x.d := by simp
          rw [hx] at hev
          have c0 : w5.cell? ⟨eb, eo2 + q.length * 12, none⟩ = some (.int .i64 x.d.kind) := hev.at_ 0 _ rfl
          clear hcs hev hx
          go_wp2
          go_meet
          exact ⟨by rw [HFs.out]; rfl, rfl⟩
      case rest =>
        obtain ⟨rfl, hw⟩ := hcut
        subst hw
        generalize Rq.failed rs = df at *
        have tb : (bz != bz) = false := by cases bz <;> rfl
        have td : (df != df) = false := by cases df <;> rfl
        go_wp2_with fail
        refine (HSm.out _ (Below.refl _ _)).mono ?_
        rintro e w6 ⟨rfl, hb6⟩
        have HB6 := Hid.mk' hb6
        have H6 := Hid.mk' (H5.out.stay hb6)
        clear hb6 x0 x1 x2 x3 x4
        obtain ⟨x0, x1, x2, x3, x4⟩ := HX.out w6 H6.out
        go_wp2_with fail
        refine (HBu.out w6 HB6.out).mono ?_
        rintro e w7 ⟨rfl, hw⟩
        subst hw
        go_wp2_with fail
        refine (HDe.out _ HB6.out).mono ?_
        rintro e w8 ⟨rfl, hw⟩
        subst hw
        go_wp2_with fail
        refine (HWr.out _ H6.out.below).mono ?_
        intro e w9 hW9
        obtain ⟨a9, n9, c9, rfl, hn9, hX9, hb9⟩ := hW9.flat
        have H9 := Hid.mk' (H6.out.stay hb9); have HN9 := Hid.mk' hn9; have HX9 := Hid.mk' hX9
        clear hW9 hn9 hX9 hb9 x0 x1 x2 x3 x4
        obtain ⟨x0, x1, x2, x3, x4⟩ := HX.out w9 H9.out
        go_wp2_with fail
        refine (HRt.out _ H9.out.below).mono ?_
        intro e wA hWA
        obtain ⟨aA, nA, cA, rfl, hnA, hXA, hbA⟩ := hWA.flat
        obtain rfl : n9 = nA := HN9.out.symm.trans hnA
        have HSb := Hid.mk' (sameBytes_any wA a9 aA c9 cA n9 n9 _ _ HN9.out hnA (HX9.out.stay hbA) hXA)
        rw [decide_eq_true rfl] at HSb
        have HA := Hid.mk' (H9.out.stay hbA)
        clear hWA hnA hXA hbA x0 x1 x2 x3 x4 HX9
        generalize (Rq.text (Rq.hdT m t l) body).2 = kk at *
        have tk : ((kk : Int) == kk) = true := by simp
        go_wp2_with fail
        refine HSb.out.mono ?_
        rintro e wB ⟨rfl, hw⟩
        subst hw
        go_wp2_with fail
        refine (HJn.out _ HA.out.below).mono ?_
        rintro e wC ⟨aC, cC, mC, rfl, hmC, hOC, hbC⟩
        have HC := Hid.mk' (HA.out.stay hbC); have HEC := Hid.mk' hOC.isEs; have HMC := Hid.mk' hmC
        clear hmC hOC hbC
        go_wp2_with fail
        refine (HJd.out _ HC.out.below).mono ?_
        rintro e wD ⟨aD, cD, mD, rfl, hmD, hOD, hbD⟩
        obtain rfl : mC = mD := HMC.out.trans hmD.symm
        have HSe := Hid.mk' (sameEvents_yes (joinD es) aC aD cC cD wD (HEC.out.stay hbD) hOD.isEs (by have h1 := joinD_length es; have h2 := HNe.out; omega) (fun e he => joinD_all (p := fun e => e.fields.length ≤ 4398046511104) (fun b => Nat.zero_le _) es (fun e he => by have := (HS.out e he).many; omega) e he))
        rw [← hmD] at HSe
        have HD := Hid.mk' (HC.out.stay hbD)
        clear hmD hOD hbD
        go_wp2_with fail
        refine HSe.out.mono ?_
        rintro e wE ⟨rfl, hbE⟩
        have HBE := Hid.mk' (then_ HD.out.below hbE)
        clear hbE
        go_wp2
        go_ret
        exact ⟨rfl, HBE.out⟩
end Go.Proofs.YtkafbifogdoneacGreatDoor
