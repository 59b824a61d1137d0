/- SpoolDoes, walked. -/
import Derived.Test.YtankilclhknbkaaDoorSqLawG
import Derived.Test.YtankilclhknbkaaDoorSqLawF
import Derived.Test.YtankilclhknbkaaDoorSqLawH
namespace Go.Proofs.YtankilclhknbkaaDoor
open Go.RowKit

set_option maxRecDepth 100000 in
set_option maxHeartbeats 40000000 in
theorem spoolDoes_any (l : List Stp) (ao : Option Addr) (cap n : Nat) (w : World) (hl : IsV w ao cap n (stpV l)) (hn : l.length = n) (hz : ∀ p ∈ l, p.text.size ≤ 140737488355328) (hN : n ≤ 9223372036854775807) :
    Calls Tryd.prog 3 #[.slice ao n cap] w fun e w' => e = .returned (.bool true) ∧ Below w.heap.size w w' := by
  subst hn
  have hcap := hl.1
  have H := Hid.mk' hl
  have HSb := Hid.mk' (spoolBegun_any w)
  have HG : Hid (∀ W, Below w.heap.size w W → Calls Tryd.prog 5 #[.slice ao l.length cap] W fun e w' => ∃ b : Bool, e = .returned (.bool b) ∧ (b = false → l.length ≤ 200 ∧ stpN l ≤ 20000) ∧ w' = W) := fun W hW => greatSteps_any l ao cap l.length W (hl.stay hW) rfl hz hN
  clear hl hz
  go_enter Tryd.func3, Tryd.ntmps3
  go_wp2_with fail
  refine HSb.out.mono ?_
  rintro e w1 ⟨rfl, hb1⟩
  have HB1 := Hid.mk' hb1
  have HG1 := Hid.mk' (HG.out w1 hb1)
  clear hb1 HG
  go_wp2_with fail
  refine HG1.out.mono ?_
  rintro e w1' ⟨b, rfl, hsm, hw1⟩
  rw [hw1]
  clear hw1 w1'
  cases b with
  | true =>
    go_wp2
    go_ret
    exact ⟨rfl, HB1.out⟩
  | false =>
    obtain ⟨h200, h20⟩ := hsm rfl
    have HNw := Hid.mk' (newU_any w1)
    clear hsm
    go_wp2_with fail
    refine HNw.out.mono ?_
    rintro e w2 ⟨rfl, hs2, hb2⟩
    have HB2 : Hid (Below w.heap.size w w2) := HB1.out.trans (hb2.mono HB1.out.size)
    have hgl := hs2.lt
    have HD0 : Hid (∃ S H, Duo w.heap.size (w2.alloc (.cells #[.slice none 0 0, .int .i64 0] 30)) w1.heap.size w2.heap.size Sp.new Sp.new S H) := by
      have hbA := (Below.refl _ w2).alloc (Nat.le_refl _) (.cells #[.slice none 0 0, .int .i64 0] 30)
      have h1 := HB1.out.size
      refine ⟨fun k => w1.heap.size ≤ k ∧ k < w2.heap.size, fun k => k = w2.heap.size, (hs2.mono (fun k hk e => ⟨e, hk⟩)).stay hbA, ⟨none, 0, heap_alloc_new w2 _, rfl, UpO.nil _ _ _ _⟩, fun k e e2 => by omega, fun k e => ⟨by omega, by rw [World.size_alloc]; omega⟩, fun k e => ⟨by omega, by rw [World.size_alloc]; omega⟩⟩
    have HB3 : Hid (Below w.heap.size w (w2.alloc (.cells #[.slice none 0 0, .int .i64 0] 30))) := HB2.out.alloc HB2.out.size _
    clear hs2 hb2 HB1 HG1 HNw HSb HB2 hgl
    go_wp2
    generalize w2.alloc (.cells #[.slice none 0 0, .int .i64 0] 30) = w3 at *
    generalize w1.heap.size = gs at *
    generalize w2.heap.size = gh at *
    go_loopw [5] (fun t wr => ∃ (i : Nat) (s : Sp.St) (S H : Nat → Prop), i ≤ l.length ∧ t = .int .i64 i ∧ Duo w.heap.size wr gs gh s s S H ∧ Sp.Ok s ∧ s.last ≤ i ∧ Below w.heap.size w wr) (fun t _ => l.length - (intOf t).toNat)
    case atStart =>
      obtain ⟨S, H, hD⟩ := HD0.out
      exact ⟨0, Sp.new, S, H, Nat.zero_le _, rfl, hD, Sp.Ok.new, by decide, HB3.out⟩
    case round =>
      obtain ⟨i, s, S, Hh, hi, rfl, hD, ok, hla, hB⟩ := hrel
      have HB := Hid.mk' hB; have HD := Hid.mk' hD; have HK := Hid.mk' ok
      have hl0 := ok.last0
      clear hB hD ok HD0 HB3
      generalize wr = wo at *
      by_cases hlt : i < l.length
      · obtain ⟨bb, oo, rfl, hc0, hc1, hc2, hc3⟩ := stp_at (H.out.stay HB.out) i hlt
        have hlt' : (i : Int) < l.length := by omega
        have htx : l[i].text.size ≤ 20000 := Nat.le_trans (stpN_one l i hlt) h20
        generalize l[i] = p at *
        have hbX := (Below.refl _ wo).alloc (Nat.le_refl _) (.cells #[.int .i64 p.op, .int .i64 p.id, .int .i64 p.n, .string p.text] 32)
        have HC1 := Hid.mk' (copyU_any s S gs _ (HD.out.sp.stay hbX) HK.out.small)
        have HC2 : Hid (∀ w4, Below (wo.alloc (.cells #[.int .i64 p.op, .int .i64 p.id, .int .i64 p.n, .string p.text] 32)).heap.size (wo.alloc (.cells #[.int .i64 p.op, .int .i64 p.id, .int .i64 p.n, .string p.text] 32)) w4 → Calls Tryd.prog 8 #[.pointer (some ⟨gh, 0, none⟩)] w4 fun e w' => ∃ g', e = .returned (.pointer (some ⟨g', 0, none⟩)) ∧ HoldAt w' (fun k => w4.heap.size ≤ k) g' s ∧ Below w4.heap.size w4 w') := fun w4 hb4 => copyH_any s Hh gh w4 ((HD.out.ho.stay hbX).stay hb4) HK.out.small
        have HR : Hid (∀ w4 w5 go gw, Below (wo.alloc (.cells #[.int .i64 p.op, .int .i64 p.id, .int .i64 p.n, .string p.text] 32)).heap.size (wo.alloc (.cells #[.int .i64 p.op, .int .i64 p.id, .int .i64 p.n, .string p.text] 32)) w4 → SpoolAt w4 (fun k => (wo.alloc (.cells #[.int .i64 p.op, .int .i64 p.id, .int .i64 p.n, .string p.text] 32)).heap.size ≤ k) go s → HoldAt w5 (fun k => w4.heap.size ≤ k) gw s → Below w4.heap.size w4 w5 → RoundAt w.heap.size w w5 gs gh go gw wo.heap.size s s s p) := fun w4 w5 go gw hb4 h4 h5 hb5 => by
          have hbw := then_ hbX hb4
          have hbw5 := then_ hbw hb5
          have z4 := hbw.size; have z5 := hb5.size; have zo := HB.out.size
          refine ⟨S, Hh, fun k => wo.heap.size ≤ k ∧ k < w5.heap.size, HD.out.stay hbw5, ⟨(h4.stay hb5).mono (fun k hk e => ⟨by rw [World.size_alloc] at e; omega, hk⟩), h5.mono (fun k hk e => ⟨by omega, hk⟩), ?_, ⟨Nat.le_refl _, ?_⟩⟩, fun k e => ⟨⟨fun e2 => ?_, fun e2 => ?_⟩, e.2⟩, HB.out.trans (hbw5.mono zo), ⟨HK.out, HK.out, HK.out⟩, by omega⟩
          · exact (hb5.block wo.heap.size (by have := hb4.size; rw [World.size_alloc] at this; omega)).trans ((hb4.block wo.heap.size (by simp)).trans (heap_alloc_new wo _))
          · have := hb4.size; rw [World.size_alloc] at this; omega
          · have := (HD.out.lowS k e2).2; omega
          · have := (HD.out.lowH k e2).2; omega
        clear hbX
        go_upto_region 12 with (first
          | (go_at_call 7; refine HC1.out.mono ?_; rintro e w4 ⟨go, rfl, hs4, hb4⟩; have HS4 := Hid.mk' hs4; have HB4 := Hid.mk' hb4; have HC3 := Hid.mk' (HC2.out w4 hb4); clear hs4 hb4)
          | (go_at_call 8; refine HC3.out.mono ?_; rintro e w5 ⟨gw, rfl, hs5, hb5⟩; have HRd := Hid.mk' (HR.out w4 w5 go gw HB4.out HS4.out hs5 hb5); clear hs5 hb5))
        generalize wo.heap.size = xb at *
        clear HC1 HC2 HR HS4 HB4 HC3 HB HD hc0 hc1 hc2 hc3
        have HXc : Hid (∀ W {s1 t1 : Sp.St}, RoundAt w.heap.size w W gs gh go gw xb s1 t1 s p → W.cell? ⟨xb, 0, none⟩ = some (.int .i64 p.op) ∧ W.cell? ⟨xb, 1, none⟩ = some (.int .i64 p.id) ∧ W.cell? ⟨xb, 2, none⟩ = some (.int .i64 p.n) ∧ W.cell? ⟨xb, 3, none⟩ = some (.string p.text)) := fun W _ _ hW => by
          obtain ⟨N, hS, _⟩ := hW.side
          exact hS.cells
        obtain ⟨x0, x1, x2, x3⟩ := HXc.out w5 HRd.out
        go_cut [38] from 23 to 218 (fun t wd => t = .int .i64 p.op ∧ wd = w5)
        case first =>
          go_wp2
          go_meet
          exact ⟨rfl, rfl⟩
        case rest =>
          obtain ⟨rfl, rfl⟩ := hcut
          rename_i hkk
          refine hkk _ _ ?_
          go_cut [9, 10] from 23 to 218 (fun v9 v10 wd => ∃ (s' : Sp.St) (c : Nat), v9 = .int .i64 c ∧ v10 = .int .i64 c ∧ RoundAt w.heap.size w wd gs gh go gw xb s' s' s p ∧ s'.last ≤ i + 1)
          case first =>
            have HSw := Hid.mk' (spSwitch_any w wc gs gh go gw xb i s p HRd.out HK.out htx hla (by omega))
            refine HSw.out _ _ _ _ _ _ _ _ _ _ _ _ _ _ _ _ _ _ _ _ _ _ _ _ _ _ _ _ _ _ _ _ _ _ _ _ _ _ _ _ _ _ _ _ _ _ _ _ _ _ _ _ _ _ _ _ _ _ _ _ _ _ _ _ _ _ _ _ _ _ _ _ _ _ _ _ _ _ _ _ _ _ _ _ _ _ _ _ _ _ _ _ _ _ _ _ _ _ _ _ _ _ _ _ _ _ _ _ _ _ _ _ _ _ _ _ _ _ _ _ _ _ _ _ _ _ _ _ _ _ _ _ _ _ _ _ _ _ _ _ _ _ _ _ _ _ _ _ _ _ _ _ _ _ _ _ _ _ _ _ _ _ _ _ _ _ _ _ _ _ _ _ _ _ _ _ _ _ _ _ _ _ _ _ _ _ _ _ _ _ _ _ _ _ _ _ _ _ _ _ _ _ _ _ _ _ _ _ _ _ _ _ _ _ (fun w6 s6 c6 y11 y12 y38 y39 y40 y41 y42 y43 y44 y45 y46 y47 y48 y49 y50 y51 y52 y53 y54 y55 y56 y57 y58 y59 y60 y61 y62 y63 y64 y65 y66 y67 y68 y69 y70 y71 y72 y73 y74 y75 y76 y77 y78 y79 y80 y81 y82 y83 y84 y85 y86 y87 y88 y89 y90 y91 y92 y93 y94 y95 y96 y97 y98 y99 y100 y101 y102 y103 y104 y105 y106 y107 y108 y109 y110 y111 y112 y113 y114 y115 y116 y117 y118 y119 y120 y121 y122 y123 y124 y125 hr6 hl6 => ?_)
            have HR7 := Hid.mk' hr6; have HLa := Hid.mk' hl6
            clear hr6 hl6 HSw
            go_wp2
            go_meet
            exact ⟨s6, c6, rfl, rfl, HR7.out, HLa.out⟩
          case rest =>
            obtain ⟨s', c, rfl, rfl, hR, hla'⟩ := hcut
            generalize wc = wk at *
            have hls : s.last ≤ 1000000 := by omega
            clear x0 x1 x2 x3 HRd HK hl0 hla
            have okp := hR.fst.choose_spec.2.1
            have HRc := Hid.mk' hR
            have HAll := Hid.mk' (spAll_any w wk gs gh go gw xb c s s' p hR hls (by omega))
            have HKs := Hid.mk' okp
            clear okp hR
            rename_i hkk2
            go_upto_region 29 with fail
            go_cut [175] from 23 to 218 (fun t wd => t = .bool false ∧ Below wk.heap.size wk wd)
            case first =>
              refine HAll.out _ _ _ _ _ _ _ _ _ _ _ _ _ _ _ _ _ _ _ _ _ _ _ _ _ _ _ _ _ _ _ _ _ _ _ _ _ _ _ _ _ _ _ _ _ _ _ _ _ _ _ _ _ _ _ _ _ _ _ _ _ _ _ _ _ _ _ _ _ _ _ _ _ _ _ _ _ _ _ _ _ _ _ _ _ _ _ _ _ _ _ _ _ _ _ _ _ _ _ _ _ _ _ _ _ _ _ _ _ _ _ _ _ _ _ _ _ _ _ _ _ _ _ _ _ _ _ _ _ _ _ _ _ _ _ _ _ _ _ _ _ _ _ _ _ _ _ _ _ _ _ _ _ _ _ _ _ _ _ _ _ _ _ _ _ _ _ _ _ _ _ _ _ _ _ _ _ _ _ _ _ _ _ _ _ _ _ _ _ _ _ _ _ _ _ _ _ _ _ _ _ _ _ _ _ _ _ _ _ _ _ _ _ _ (fun w6 y126 y127 y128 y129 y130 y131 y132 y133 y134 y135 y136 y137 y138 y139 y140 y141 y142 y143 y144 y145 y146 y147 y148 y149 y150 y151 y152 y153 y154 y155 y156 y157 y158 y159 y160 y161 y162 y163 y164 y165 y166 y167 y168 y169 y170 y171 y172 y173 y174 hb6 => ?_)
              have HBc := Hid.mk' hb6
              clear hb6 HAll
              go_wp2
              go_meet
              exact ⟨rfl, HBc.out⟩
            case rest =>
              obtain ⟨rfl, hBd⟩ := hcut
              have hR2 := HRc.out.stay hBd
              obtain ⟨S2, hsp2, ok2, _⟩ := hR2.fst
              obtain ⟨H2, hho2, _, _⟩ := hR2.snd
              obtain ⟨y0, y1, y2, y3⟩ := HXc.out wc hR2
              have HR2 := Hid.mk' hR2
              have HAt : Hid (∀ W, Below wc.heap.size wc W → Calls Tryd.prog 27 #[.pointer (some ⟨gh, 0, none⟩), .int .i64 p.id] W fun e w' => e = .returned (.int .i64 (Sp.pl s'.l p.id)) ∧ w' = W) := fun W hW => atH_any s' H2 gh p.id W (hho2.stay hW) (by have := ok2.few; omega)
              have HXb : Hid (∀ W, Below wc.heap.size wc W → W.cell? ⟨xb, 1, none⟩ = some (.int .i64 p.id)) := fun W hW => (HXc.out W (HR2.out.stay hW)).2.1
              have HEnd : Hid (∀ W, Below wc.heap.size wc W → ∃ S H, Duo w.heap.size W gs gh s' s' S H ∧ Below w.heap.size w W) := fun W hW => by
                obtain ⟨S, H, N, hD, _, _, hB, _, _⟩ := HR2.out.stay hW
                exact ⟨S, H, hD, hB⟩
              cases hp : Sp.place s'.l p.id with
              | none =>
                have HGt := Hid.mk' (getU_none s' S2 gs p.id wc hsp2 ok2 hp)
                rw [Sp.pl_none hp] at HAt
                clear hp hR2 hsp2 hho2 ok2 hBd HAll
                have HBA : Hid (∀ v1 : World, Below wc.heap.size wc v1 → Below wc.heap.size wc (v1.alloc (.cells #[.int .i64 0, .int .i64 0, .string ⟨#[]⟩, .slice none 0 0, .int .i64 0] 44))) := fun v1 h => h.alloc h.size _
                go_wp2_with (first
                  | (go_at_call 26; refine HGt.out.mono ?_; rintro e v1 ⟨rfl, hb1⟩; have HV := Hid.mk' (HBA.out v1 hb1); have z1 := HXb.out _ (HBA.out v1 hb1); clear hb1)
                  | (go_at_call 27; refine (HAt.out _ HV.out).mono ?_; rintro e v2 ⟨rfl, hw⟩; rw [hw]; clear hw))
                go_quiet (fail)
                go_wp2
                obtain ⟨S3, H3, hD3, hB3⟩ := HEnd.out _ (HV.out.trans (below_drewN (Below.refl _ _) nq))
                have HD3 := Hid.mk' hD3; have HB3 := Hid.mk' hB3
                clear hD3 hB3
                go_roundw
                case rel => exact ⟨i + 1, s', S3, H3, by omega, by go_num, HD3.out, HKs.out, by omega, HB3.out⟩
                case measure => simp [intOf]; omega
              | some k =>
                have hk := Sp.place_lt hp
                have HGt := Hid.mk' (getU_some s' S2 gs p.id k wc hsp2 ok2 hp hk)
                rw [Sp.pl_some hp] at HAt
                have hfew := ok2.few
                obtain ⟨ah2, ch2, e0, e1, _, _, _, _, hUh2⟩ := hho2.cells
                obtain ⟨gu, rfl, _, _⟩ := hUh2.at_.row k hk
                have hchk := hUh2.cap_
                have HIn : Hid (∀ W, Below wc.heap.size wc W → IsUps W (some ⟨gu, k * 5, none⟩) (ch2 - k) [s'.l[k]]) := fun W hW => by
                  obtain ⟨b3, o3, q3, e3, x0, x1, x2, x3, x4, x5⟩ := (hUh2.isUps.stay hW).at_ k hk
                  injection e3 with e3; injection e3 with e4 e5; subst e4; subst e5
                  rw [Nat.zero_add] at x0 x1 x2 x3 x4
                  refine ⟨[(s'.l[k], q3)], rfl, ⟨by simp; omega, fun e => by simp at e, fun j v hj => ⟨_, rfl, ?_⟩⟩, fun y hy => by rw [List.mem_singleton.1 hy]; exact x5⟩
                  rw [Addr.add_lit]
                  rw [upV_one] at hj
                  have hj5 : j < 5 := (List.getElem?_eq_some_iff.1 hj).1
                  match j, hj5 with
                  | 0, _ => exact x0.trans hj
                  | 1, _ => exact x1.trans hj
                  | 2, _ => exact x2.trans hj
                  | 3, _ => exact x3.trans hj
                  | 4, _ => exact x4.trans hj
                have HE0 : Hid (∀ W, Below wc.heap.size wc W → W.cell? ⟨gh, 0, none⟩ = some (.slice (some ⟨gu, 0, none⟩) s'.l.length ch2)) := fun W hW => (hW.cell (p := ⟨gh, 0, none⟩) hho2.lt).trans e0
                have hwk : IntKind.i64.wrap ((k : Int) + 1) = (k : Int) + 1 := wrap_id (by omega) (by omega)
                have hne : ¬ ch2 = k := by omega
                have hk' : (k : Int) + 1 ≤ s'.l.length := by omega
                have hk2 : (k : Int) + 1 ≤ ch2 := by omega
                have hkc : ((k : Int) + 1).toNat = k + 1 := by omega
                have hk0 : (0 : Int) ≤ (k : Int) + 1 := by omega
                have tge : decide ((k : Int) ≥ 0) = true := by rw [decide_eq_true_eq]; omega
                clear hp hR2 hsp2 hho2 ok2 hBd HAll hUh2 e0 e1
                generalize s'.l[k] = u at *
                go_upto_region 33 with (first
                  | (go_at_call 26; refine HGt.out.mono ?_; rintro e v1 ⟨ba, bc, rfl, hIb, hb1⟩; have HIb := Hid.mk' hIb; have HV1 := Hid.mk' hb1; have HV : Hid (Below wc.heap.size wc (v1.alloc (.cells #[.int .i64 u.id, .int .i64 u.size, .string u.note, .slice ba u.bytes.length bc, .int .i64 u.sent] 44))) := hb1.alloc hb1.size _; have z1 := HXb.out _ HV.out; clear hb1 hIb)
                  | (go_at_call 27; refine (HAt.out _ HV.out).mono ?_; rintro e v2 ⟨rfl, hw⟩; rw [hw]; clear hw))
                have hbA := (Below.refl _ v1).alloc (Nat.le_refl _) (.cells #[.int .i64 u.id, .int .i64 u.size, .string u.note, .slice ba u.bytes.length bc, .int .i64 u.sent] 44)
                have hro : (v1.alloc (.cells #[.int .i64 u.id, .int .i64 u.size, .string u.note, .slice ba u.bytes.length bc, .int .i64 u.sent] 44)).heap[v1.heap.size]? = some (.cells #[.int .i64 u.id, .int .i64 u.size, .string u.note, .slice ba u.bytes.length bc, .int .i64 u.sent] 44 (0, 0)) := heap_alloc_new v1 _
                have HIv := Hid.mk' (HIb.out.stay hbA)
                have hgc := HE0.out _ HV.out
                clear hbA HIb HV1 z1
                generalize v1.alloc (.cells #[.int .i64 u.id, .int .i64 u.size, .string u.note, .slice ba u.bytes.length bc, .int .i64 u.sent] 44) = v2 at *
                generalize v1.heap.size = ub at *
                have HLs := Hid.mk' (spLast_any v2 gh ub gu k s'.l.length ch2 u ba bc hro HIv.out hgc (fun W hW => HIn.out W (then_ HV.out hW)) hk (by omega) hchk)
                clear hro HIv HIn HE0
                refine HLs.out _ _ _ _ _ _ _ _ _ _ _ _ _ _ _ _ _ _ _ _ _ _ _ _ _ _ _ _ _ _ _ _ _ _ _ _ _ _ _ _ _ _ _ _ _ _ _ _ _ _ _ _ _ _ _ _ _ _ _ _ _ _ _ _ _ _ _ _ _ _ _ _ _ _ _ _ _ _ _ _ _ _ _ _ _ _ _ _ _ _ _ _ _ _ _ _ _ _ _ _ _ _ _ _ _ _ _ _ _ _ _ _ _ _ _ _ _ _ _ _ _ _ _ _ _ _ _ _ _ _ _ _ _ _ _ _ _ _ _ _ _ _ _ _ _ _ _ _ _ _ _ _ _ _ _ _ _ _ _ _ _ _ _ _ _ _ _ _ _ _ _ _ _ _ _ _ _ _ _ _ _ _ _ _ _ _ _ _ _ _ _ _ _ _ _ _ _ _ _ _ _ _ _ _ _ _ _ _ _ _ _ _ _ _ _ _ (fun v4 y187 y188 y189 y190 y191 y192 y193 y194 y195 y196 y197 y198 y199 y200 y201 y202 y203 y204 y205 y206 y207 y208 y209 y210 y211 y212 y213 y214 y215 y216 y217 hb4 => ?_)
                have HV4 := Hid.mk' hb4
                clear hb4 HLs
                obtain ⟨S3, H3, hD3, hB3⟩ := HEnd.out _ (then_ HV.out HV4.out)
                have HD3 := Hid.mk' hD3; have HB3 := Hid.mk' hB3
                clear hD3 hB3
                go_wp2
                go_roundw
                case rel => exact ⟨i + 1, s', S3, H3, by omega, by go_num, HD3.out, HKs.out, by omega, HB3.out⟩
                case measure => simp [intOf]; omega
      · obtain rfl : i = l.length := by omega
        go_wp2
        go_ret
        exact ⟨rfl, HB.out⟩
end Go.Proofs.YtankilclhknbkaaDoor
