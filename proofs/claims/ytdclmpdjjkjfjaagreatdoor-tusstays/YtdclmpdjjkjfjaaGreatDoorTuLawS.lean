/- TusStays, walked. -/
import Derived.Test.YtdclmpdjjkjfjaaGreatDoorPk19
import Derived.Test.YtdclmpdjjkjfjaaGreatDoorTuBg
import Derived.Test.YtdclmpdjjkjfjaaGreatDoorStLg
import Derived.Test.YtdclmpdjjkjfjaaGreatDoorPk25
import Derived.Test.YtdclmpdjjkjfjaaGreatDoorPk16
import Derived.Test.YtdclmpdjjkjfjaaGreatDoorPk12
import Derived.Deep.RegionHeld3
import Derived.Deep.DeepCutAuto
namespace Go.Proofs.YtdclmpdjjkjfjaaGreatDoor
open Go.RowKit

/-- a reply in its box, a store, and what was listed ahead of it -/
structure StRel (w1 wr wb : World) (g : Nat) (s2 : Sr.Sh) (rs : Int) (nr : Nat) (rl : List (ByteArray × ByteArray)) (ups : List Sp.Up) (lg : List UInt8) (un : Nat) (al aL : Option Addr) (cL : Nat) (A' : Nat → Prop) (g9 : Nat) (a4 : Option Addr) (k4 : Nat) (W : World) : Prop where
  r9 : W.heap[g9]? = some (.cells #[.int .i64 rs, .slice a4 nr k4, .slice none 0 0] 32 (0, 0))
  o4 : OwnV W w1.heap.size 58 2 a4 k4 nr (pairV rl)
  un_ : UnAt w1 W g s2 A'
  was : UpO W (fun k => wr.heap.size ≤ k ∧ k < wb.heap.size) 67 5 al un ups
  log : IsBS W (fun k => wr.heap.size ≤ k ∧ k < wb.heap.size) aL cL lg
section
variable {w1 wr wb W W' : World} {g : Nat} {s2 : Sr.Sh} {rs : Int} {nr : Nat} {rl : List (ByteArray × ByteArray)} {ups : List Sp.Up} {lg : List UInt8} {un : Nat} {al aL : Option Addr} {cL : Nat} {A' : Nat → Prop} {g9 : Nat} {a4 : Option Addr} {k4 : Nat}
theorem UnAt.aside (h : UnAt w1 W g s2 A') {b : Nat} (ht : Turns (fun k => k = b) W W') (na : ¬ A' b) (lo : w1.heap.size ≤ b) : UnAt w1 W' g s2 A' :=
  ⟨h.st.turns ht (fun k e e2 => na (e2 ▸ e)), fun k e => ⟨(h.a k e).1, Nat.lt_of_lt_of_le (h.a k e).2 ht.size⟩, h.below.trans (ht.below (fun k e => by omega) h.below.size)⟩
/-- the box is made behind the call -/
theorem stEndA (U : UnAt w1 W g s2 A') (O4 : OwnV W w1.heap.size 58 2 a4 k4 nr (pairV rl)) (hw : UpO W (fun k => wr.heap.size ≤ k ∧ k < wb.heap.size) 67 5 al un ups) (hl : IsBS W (fun k => wr.heap.size ≤ k ∧ k < wb.heap.size) aL cL lg) :
    StRel w1 wr wb g s2 rs nr rl ups lg un al aL cL A' W.heap.size a4 k4 (W.alloc (.cells #[.int .i64 rs, .slice a4 nr k4, .slice none 0 0] 32)) := by
  have hb := (Below.refl _ W).alloc (Nat.le_refl _) (.cells #[.int .i64 rs, .slice a4 nr k4, .slice none 0 0] 32)
  exact ⟨rowN W _ rfl, O4.alloc _, U.stay hb, hw.stay hb, hl.turns (Turns.of_below (S := fun _ => False) hb) (fun _ _ e => e)⟩
/-- .. or ahead of it -/
theorem stEndB (U : UnAt w1 W g s2 A') (O4 : OwnV W w1.heap.size 58 2 a4 k4 nr (pairV rl)) (hw : UpO W (fun k => wr.heap.size ≤ k ∧ k < wb.heap.size) 67 5 al un ups) (hl : IsBS W (fun k => wr.heap.size ≤ k ∧ k < wb.heap.size) aL cL lg) (r9 : W.heap[g9]? = some (.cells #[.int .i64 0, .slice none 0 0, .slice none 0 0] 32)) (na : ¬ A' g9) (lo : w1.heap.size ≤ g9) (hi : wb.heap.size ≤ g9) :
    StRel w1 wr wb g s2 rs nr rl ups lg un al aL cL A' g9 a4 k4 (((W.setCell ⟨g9, 0, none⟩ (.int .i64 rs)).setCell ⟨g9, 1, none⟩ (.slice a4 nr k4)).setCell ⟨g9, 2, none⟩ (.slice none 0 0)) := by
  obtain ⟨t1, r1⟩ := set3 (c := #[.int .i64 0, .slice none 0 0, .slice none 0 0]) r9 (.int .i64 rs) (.slice a4 nr k4) (.slice none 0 0)
  exact ⟨r1, own_set O4 r9 t1, U.aside t1 na lo, hw.turns t1 (fun k e e2 => by omega), hl.turns t1 (fun k e e2 => by omega)⟩
end
set_option maxRecDepth 100000 in
set_option maxHeartbeats 16000000 in
theorem tusStays_any (l : List Aq) (ao : Option Addr) (cap n : Nat) (w : World) (hl : IsAqs w ao cap l) (hn : l.length = n) (hz : ∀ q ∈ l, aqz q ≤ 1125899906842624 ∧ ∀ p ∈ q.fl, p.1.size + p.2.size ≤ maxLen) (hN : n ≤ 140737488355328) (HBg : BegunIs w) (HDo : DoIs w) :
    Calls Tryz.prog 4 #[.slice ao n cap] w fun e w' => e = .returned (.bool true) ∧ Below w.heap.size w w' := by
  subst hn
  have hcap := hl.cap_
  have H := Hid.mk' hl
  have HG : Hid (∀ W, Below w.heap.size w W → Calls Tryz.prog 7 #[.slice ao l.length cap] W fun e w' => GaOut W l e w') := fun W hW => greatAsks_any l ao cap l.length W (hl.stay hW) rfl hz hN
  have HSb := Hid.mk' (HBg (Below.refl _ _))
  have HD0 : Hid (DoIs w) := HDo
  clear hl hz HBg HDo
  go_enter Tryz.func4, Tryz.ntmps4
  go_wp2_with fail
  refine HSb.out.mono ?_
  rintro e w0 ⟨rfl, hb0⟩
  have HB0 := Hid.mk' hb0
  have HG1 := Hid.mk' (HG.out w0 hb0)
  clear hb0 HG HSb
  go_wp2_with fail
  refine HG1.out.mono ?_
  rintro e w1 ⟨b, rfl, hsm, q0, hw1⟩
  have HB1 : Hid (Below w.heap.size w w1) := then_ HB0.out (by rw [hw1]; exact below_drewN (Below.refl _ _) q0)
  clear hw1 HB0 HG1
  cases b with
  | true =>
    go_wp2
    go_ret
    exact ⟨rfl, HB1.out⟩
  | false =>
    have HSm := Hid.mk' (hsm rfl)
    have hfew := HSm.out.few
    have HNw := Hid.mk' (newSt_any w1)
    clear hsm
    go_wp2_with fail
    refine HNw.out.mono ?_
    rintro e w2 ⟨g, rfl, hS2, hb2⟩
    have HU2 : Hid (UnAt w1 w2 g Sr.new (fun k => w1.heap.size ≤ k ∧ k < w2.heap.size)) := ⟨hS2.mono (fun k hk e => ⟨e, hk⟩), fun k e => e, hb2⟩
    clear hS2 hb2 HNw
    go_wp2
    go_loopw [4] (fun t wr => ∃ (k : Nat) (s : Sr.Sh) (A : Nat → Prop), k ≤ l.length ∧ t = .int .i64 k ∧ Sr.Ok s ∧ LogIn l k s ∧ UnAt w1 wr g s A) (fun t _ => l.length - (intOf t).toNat)
    case atStart => exact ⟨0, Sr.new, _, Nat.zero_le _, rfl, Sr.Ok.new, LogIn.new l, HU2.out⟩
    case round =>
      obtain ⟨k, s, A, hk, rfl, ok, hlg, hU⟩ := hrel
      have HU := Hid.mk' hU
      clear hU HU2
      by_cases hlt : k < l.length
      · have hlt' : (k : Int) < l.length := by omega
        obtain ⟨bb, oo, st, ha, hA1⟩ := (H.out.stay HB1.out).at_ k hlt
        subst ha
        obtain ⟨m1, m2, m3, m4, m5⟩ := HSm.out.one (List.getElem_mem hlt)
        have HC : Hid (∀ W, Below w1.heap.size w1 W → AqAt W bb (oo + k * 6) l[k] st) := fun W hW => hA1.stay hW
        have hfa : ∀ k, A k → k < wr.heap.size := fun k e => (HU.out.a k e).2
        have hzw : w1.heap.size ≤ wr.heap.size := HU.out.below.size
        have hlf := hlg.few HSm.out hk
        have HDc : Hid (∀ W, UnAt w1 W g s A → Below wr.heap.size wr W → Calls Tryz.prog 10 #[.pointer (some ⟨g, 0, none⟩), .agg #[.string l[k].m, .string l[k].t, .int .i64 l[k].mi, .slice st.fo l[k].fl.length st.fcap, .int .i64 l[k].ln], .slice st.bo l[k].body.length st.bcap] W fun e w' => ∃ a4 k4 A4, e = .returned (.agg #[.int .i64 (((Tu.tus s l[k].m l[k].t l[k].fl l[k].body).2.1 : Nat) : Int), .slice a4 (Tu.tus s l[k].m l[k].t l[k].fl l[k].body).2.2.length k4, .slice none 0 0]) ∧ UnAt w1 w' g (Tu.tus s l[k].m l[k].t l[k].fl l[k].body).1 A4 ∧ OwnV w' w1.heap.size 58 2 a4 k4 (Tu.tus s l[k].m l[k].t l[k].fl l[k].body).2.2.length (pairV (Tu.tus s l[k].m l[k].t l[k].fl l[k].body).2.2) ∧ (∀ b o, W.heap[b]? = some o → wr.heap.size ≤ b → w'.heap[b]? = some o ∧ ¬ A4 b) ∧ Turns (fun k => k < wr.heap.size) W w') := fun W hW hwW => (HD0.out (then_ HB1.out hW.below) (fun k e => Nat.le_trans HB1.out.size (hW.a k e).1) hW.st ok hlf _ _ _ _ _ _ _ (HC.out W hW.below).fl m1 m2 _ _ _ (HC.out W hW.below).body m3 m4 m5).mono (by
          rintro e w' ⟨⟨a4, k4, n4, rfl, hn4, hO4⟩, hat4, hT4⟩
          subst hn4
          exact ⟨a4, k4, _, rfl, hW.did hat4 hT4, hO4.mono (Nat.le_trans hzw hwW.size), fun b o hb hle => ⟨hT4.row hb (fun e => by have := hfa b e; omega), fun e => by
            have := row_lt hb
            rcases e with e | e
            · have := hfa b e; omega
            · omega⟩, hT4.mono (fun k e => hfa k e)⟩)
        have ok2 := Tu.tus_ok ok l[k].m l[k].t l[k].fl l[k].body
        have hlg2 := hlg.step hlt
        have hfw := Tu.tus_few s l[k].m l[k].t l[k].fl l[k].body
        have hfair := Tu.tus_fair s l[k].m l[k].t l[k].fl l[k].body
        have HCs : Hid (∀ W, Below w1.heap.size w1 W → W.cell? ⟨bb, oo + k * 6, none⟩ = some (.string l[k].m) ∧ W.cell? ⟨bb, oo + k * 6 + 1, none⟩ = some (.string l[k].t) ∧ W.cell? ⟨bb, oo + k * 6 + 2, none⟩ = some (.int .i64 l[k].mi) ∧ W.cell? ⟨bb, oo + k * 6 + 3, none⟩ = some (.slice st.fo l[k].fl.length st.fcap) ∧ W.cell? ⟨bb, oo + k * 6 + 4, none⟩ = some (.int .i64 l[k].ln) ∧ W.cell? ⟨bb, oo + k * 6 + 5, none⟩ = some (.slice st.bo l[k].body.length st.bcap)) := fun W hW => ⟨(HC.out W hW).c0, (HC.out W hW).c1, (HC.out W hW).c2, (HC.out W hW).c3, (HC.out W hW).c4, (HC.out W hW).c5⟩
        clear hA1 m1 m2 m3 m4 m5 hfa hlf hlg
        generalize Tu.tus s l[k].m l[k].t l[k].fl l[k].body = r at *
        obtain ⟨s2, rs, rl⟩ := r
        simp only at ok2 hlg2 hfw HDc
        have HOk2 := Hid.mk' ok2; have HLg2 := Hid.mk' hlg2; have HFa := Hid.mk' hfair
        have hla := ok.last_; have hla0 := ok.h.last0
        have HOk := Hid.mk' ok
        clear ok ok2 hlg2 hfair
        generalize l[k] = p at *
        generalize hnr : rl.length = nr at *
        have HNr := Hid.mk' hnr
        clear hnr
        -- what was listed ahead
        obtain ⟨ks, kl, kao, kca, P1, hst⟩ := HU.out.st
        obtain ⟨⟨y0, y1⟩, _⟩ := row2 hst.row
        have HY : Hid (∀ W, Below wr.heap.size wr W → W.cell? ⟨g, 0, none⟩ = some (.pointer (some ⟨ks, 0, none⟩))) := fun W hW => (hW.cell (p := ⟨g, 0, none⟩) hst.lt).trans y0
        have HLs : Hid (∀ W, Below wr.heap.size wr W → Calls Tryz.prog 15 #[.pointer (some ⟨ks, 0, none⟩)] W fun e w' => ∃ al, e = .returned (.slice al s.h.l.length s.h.l.length) ∧ UpO w' (fun k => wr.heap.size ≤ k) 67 5 al s.h.l.length s.h.l ∧ Below wr.heap.size wr w') := fun W hW => (listU_any _ P1 _ W (hst.spool.stay hW) HOk.out.h.small).mono fun e w' ⟨al, h1, h2, h3⟩ => ⟨al, h1, h2.mono (fun k _ e => Nat.le_trans hW.size e), then_ hW h3⟩
        have HNx : Hid (∀ W, Below wr.heap.size wr W → Calls Tryz.prog 18 #[.pointer (some ⟨ks, 0, none⟩)] W fun e w' => e = .returned (.int .i64 (s.h.last + 1)) ∧ w' = W) := fun W hW => nextU_any _ P1 _ W (hst.spool.stay hW) hla0 (by omega)
        have HBc : Hid (Below wr.heap.size wr wr.drew) := below_drew _ _
        have hun : s.h.l.length ≤ 12 := HOk.out.h.few
        clear hst y1
        generalize hul : s.h.l.length = un at *
        have HUl := Hid.mk' hul
        clear hul
        go_upto_region 9 with fail
        go_cut [5, 6] from 18 to 118 (fun v5 v6 wa => ∃ al, v5 = .slice al un un ∧ v6 = .int .i64 (s.h.last + 1) ∧ UpO wa (fun k => wr.heap.size ≤ k) 67 5 al un s.h.l ∧ Below wr.heap.size wr wa)
        case first =>
          go_region_held3 (fun W => W.cell? ⟨g, 0, none⟩ = some (.pointer (some ⟨ks, 0, none⟩))) (go_keep) (first
            | (go_at_call 15; refine (HLs.out _ HBc.out).mono ?_; rintro e u1 ⟨al, rfl, hu1, hb1⟩; have HUa := Hid.mk' hu1; clear hu1; have d0 := HY.out u1 hb1; have HBc := Hid.mk' hb1; clear hb1)
            | (go_at_call 18; refine (HNx.out _ HBc.out).mono ?_; rintro e u2 ⟨rfl, hw2⟩; rw [hw2]; clear hw2))
          all_goals
            go_wp2
            go_meet
            exact ⟨_, rfl, rfl, HUa.out, HBc.out⟩
        case rest =>
          obtain ⟨al, rfl, rfl, hUa, hBa⟩ := hcut
          have hUna := HU.out.stay hBa
          have HLg := Hid.mk' (logStS_any hUna.st)
          have HUna := Hid.mk' hUna; have HWas := Hid.mk' hUa; have HBa := Hid.mk' hBa
          clear hUna hUa hBa HLs HNx HBc HY y0
          go_wp2_with fail
          refine HLg.out.mono ?_
          rintro e wb ⟨aL, cL, rfl, hL, hbb⟩
          have HBb := Hid.mk' (then_ HBa.out hbb)
          have HWb : Hid (UpO wb (fun k => wr.heap.size ≤ k ∧ k < wb.heap.size) 67 5 al un s.h.l) := (HWas.out.mono (fun k hk e => ⟨e, Nat.lt_of_lt_of_le hk hbb.size⟩)).stay hbb
          have HLb : Hid (IsBS wb (fun k => wr.heap.size ≤ k ∧ k < wb.heap.size) aL cL s.log) := hL.mono (fun k hk e => ⟨Nat.le_trans HBa.out.size e, hk⟩)
          have HUb := Hid.mk' (HUna.out.stay hbb)
          obtain ⟨c0, c1, c2, c3, c4, c5⟩ := HCs.out wb HUb.out.below
          have hzb : wr.heap.size ≤ wb.heap.size := HBb.out.size
          clear hL hbb HLg HWas HUna HBa
          generalize hlgn : s.log.length = ul at *
          have HLgn := Hid.mk' hlgn
          clear hlgn
          go_upto_region 11 with fail
          have HBw0 : Hid (Below wr.heap.size wr wb.drew) := then_ HBb.out (below_drew _ _)
          have HBw1 : Hid (Below wr.heap.size wr (wb.alloc (.cells #[.int .i64 0, .slice none 0 0, .slice none 0 0] 32)).drew) := then_ (belA HBb.out _) (below_drew _ _)
          have HU0 := Hid.mk' (HU.out.stay HBw0.out)
          have HU1 := Hid.mk' (HU.out.stay HBw1.out)
          have HBl0 := Hid.mk' HU0.out.below
          have HBl1 := Hid.mk' HU1.out.below
          have e10 : Hid ((wb.alloc (.cells #[.int .i64 0, .slice none 0 0, .slice none 0 0] 32)).drew.heap[wb.heap.size]? = some (.cells #[.int .i64 0, .slice none 0 0, .slice none 0 0] 32)) := rowN wb _ rfl
          have HWx : Hid (∀ W W', W.heap.size ≥ wb.heap.size → UpO W (fun k => wr.heap.size ≤ k ∧ k < wb.heap.size) 67 5 al un s.h.l → IsBS W (fun k => wr.heap.size ≤ k ∧ k < wb.heap.size) aL cL s.log → Turns (fun k => k < wr.heap.size) W W' → UpO W' (fun k => wr.heap.size ≤ k ∧ k < wb.heap.size) 67 5 al un s.h.l ∧ IsBS W' (fun k => wr.heap.size ≤ k ∧ k < wb.heap.size) aL cL s.log) := fun W W' _ h1 h2 ht => ⟨h1.turns ht (fun k e e2 => by omega), h2.turns ht (fun k e e2 => by omega)⟩
          have HW0 : Hid (UpO wb.drew (fun k => wr.heap.size ≤ k ∧ k < wb.heap.size) 67 5 al un s.h.l ∧ IsBS wb.drew (fun k => wr.heap.size ≤ k ∧ k < wb.heap.size) aL cL s.log) := ⟨HWb.out.stay (below_drew _ _), HLb.out.turns (Turns.of_below (S := fun _ => False) (below_drew _ _)) (fun _ _ e => e)⟩
          have HW1 : Hid (UpO (wb.alloc (.cells #[.int .i64 0, .slice none 0 0, .slice none 0 0] 32)).drew (fun k => wr.heap.size ≤ k ∧ k < wb.heap.size) 67 5 al un s.h.l ∧ IsBS (wb.alloc (.cells #[.int .i64 0, .slice none 0 0, .slice none 0 0] 32)).drew (fun k => wr.heap.size ≤ k ∧ k < wb.heap.size) aL cL s.log) := by
            have hb := then_ ((Below.refl _ wb).alloc (Nat.le_refl _) (.cells #[.int .i64 0, .slice none 0 0, .slice none 0 0] 32)) (below_drew _ _)
            exact ⟨HWb.out.stay hb, HLb.out.turns (Turns.of_below (S := fun _ => False) hb) (fun _ _ e => e)⟩
          go_cut [9] from 18 to 118 (fun v9 wc => ∃ (g9 : Nat) (a4 : Option Addr) (k4 : Nat) (A' : Nat → Prop), v9 = .pointer (some ⟨g9, 0, none⟩) ∧ StRel w1 wr wb g s2 (rs : Int) nr rl s.h.l s.log un al aL cL A' g9 a4 k4 wc)
          case first =>
            go_region_held3 (fun W => W.cell? ⟨bb, oo + k * 6, none⟩ = some (.string p.m) ∧ W.cell? ⟨bb, oo + k * 6 + 1, none⟩ = some (.string p.t) ∧ W.cell? ⟨bb, oo + k * 6 + 2, none⟩ = some (.int .i64 p.mi) ∧ W.cell? ⟨bb, oo + k * 6 + 3, none⟩ = some (.slice st.fo p.fl.length st.fcap) ∧ W.cell? ⟨bb, oo + k * 6 + 4, none⟩ = some (.int .i64 p.ln) ∧ W.cell? ⟨bb, oo + k * 6 + 5, none⟩ = some (.slice st.bo p.body.length st.bcap)) (first | (refine HCs.out _ ?_; repeat first | with_reducible exact HBl4.out | with_reducible exact HBl0.out | with_reducible exact HBl1.out | refine belS ?_ (by omega) | refine belA ?_ _)) (first
              | (go_at_call 10; refine (HDc.out _ (by first | with_reducible exact HU0.out | with_reducible exact HU1.out) (by first | with_reducible exact HBw0.out | with_reducible exact HBw1.out)).mono ?_; rintro e w4 ⟨a4, k4, A4, rfl, hU4, hO4, hK4, hT4⟩; have hx4 := HWx.out _ w4 (by simp) (by first | with_reducible exact HW0.out.1 | with_reducible exact HW1.out.1) (by first | with_reducible exact HW0.out.2 | with_reducible exact HW1.out.2) hT4; have HK4 := Hid.mk' hK4; have HW4 := Hid.mk' hx4; have HU4 := Hid.mk' hU4; have HO4 := Hid.mk' hO4; have HBl4 := Hid.mk' hU4.below; have hy4 := hU4.below.size; clear hK4 hx4 hT4; (try (with_reducible have r40 := Hid.mk' (HK4.out _ _ e10.out hzb).1; have x40 := Hid.mk' (HK4.out _ _ e10.out hzb).2)); (try (have sx := box6 r40.out; obtain ⟨i0, i1, i2, i3, i4, i5⟩ := sx)); clear hU4 hO4))
            all_goals
              go_wp2
              go_meet
              refine ⟨_, a4, k4, A4, rfl, ?_⟩
              first
                | with_reducible exact stEndA HU4.out HO4.out HW4.out.1 HW4.out.2
                | with_reducible exact stEndB HU4.out HO4.out HW4.out.1 HW4.out.2 r40.out x40.out (Nat.le_trans hzw hzb) (Nat.le_refl _)
          case rest =>
            obtain ⟨g9, a4, k4, A', rfl, hR⟩ := hcut
            have HR := Hid.mk' hR
            have HLg := Hid.mk' (logSt_any hR.un_.st)
            clear hR HBw0 HBw1 HU0 HU1 HBl0 HBl1 e10 HWx HW0 HW1 HWb HLb HUb HDc c0 c1 c2 c3 c4 c5
            go_wp2_with fail
            refine HLg.out.mono ?_
            rintro e wd ⟨aN, cN, rfl, hNo, hbd⟩
            have hUd := HR.out.un_.stay hbd
            have HUd := Hid.mk' hUd
            obtain ⟨ks2, kl2, kao2, kca2, P2, hst⟩ := hUd.st
            obtain ⟨⟨y0, y1⟩, _⟩ := row2 hst.row
            have hla2 := HOk2.out.last_; have hla20 := HOk2.out.h.last0
            have hun2 : s2.h.l.length ≤ 12 := HOk2.out.h.few
            have HY : Hid (∀ W, Below wd.heap.size wd W → W.cell? ⟨g, 0, none⟩ = some (.pointer (some ⟨ks2, 0, none⟩))) := fun W hW => (hW.cell (p := ⟨g, 0, none⟩) hst.lt).trans y0
            have HLs : Hid (∀ W, Below wd.heap.size wd W → Calls Tryz.prog 15 #[.pointer (some ⟨ks2, 0, none⟩)] W fun e w' => ∃ al2, e = .returned (.slice al2 s2.h.l.length s2.h.l.length) ∧ IsUps w' al2 s2.h.l.length s2.h.l ∧ Below wd.heap.size wd w') := fun W hW => (listU_any _ P2 _ W (hst.spool.stay hW) HOk2.out.h.small).mono fun e w' ⟨al, h1, h2, h3⟩ => ⟨al, h1, h2.isUps, then_ hW h3⟩
            have HSU : Hid (∀ W al2, IsUps W al2 s2.h.l.length s2.h.l → Below wd.heap.size wd W → Calls Tryz.prog 14 #[.slice al un un, .slice al2 s2.h.l.length s2.h.l.length] W fun e w' => ∃ b : Bool, e = .returned (.bool b) ∧ (s.h.l = s2.h.l → b = true) ∧ Below wd.heap.size wd w') := fun W al2 hI hW => (sameUps_can s.h.l s2.h.l al al2 un s2.h.l.length un s2.h.l.length W (HR.out.was.isUps.stay (then_ hbd hW)) hI HUl.out rfl (by omega)).mono (by
              rintro e w' ⟨b, q, h1, h2, h3⟩
              exact ⟨b, h1, h2, by rw [h3]; exact then_ hW (below_drewN (Below.refl _ _) q)⟩)
            have HNx : Hid (∀ W, Below wd.heap.size wd W → Calls Tryz.prog 18 #[.pointer (some ⟨ks2, 0, none⟩)] W fun e w' => e = .returned (.int .i64 (s2.h.last + 1)) ∧ w' = W) := fun W hW => nextU_any _ P2 _ W (hst.spool.stay hW) hla20 (by omega)
            have HSB : Hid (∀ W, Below wd.heap.size wd W → Calls Tryz.prog 16 #[.slice aL ul cL, .slice aN s2.log.length cN] W fun e w' => e = .returned (.bool (decide (s.log = s2.log))) ∧ w' = W) := fun W hW => sameBytes_any W aL aN cL cN _ _ s.log s2.log HLgn.out rfl (HR.out.log.is.stay (then_ hbd hW)) (hNo.stay hW)
            have HRw : Hid (∀ W, Below wd.heap.size wd W → W.heap[g9]? = some (.cells #[.int .i64 (rs : Int), .slice a4 nr k4, .slice none 0 0] 32 (0, 0)) ∧ IsV W a4 k4 nr (pairV rl) ∧ UnAt w1 W g s2 A') := fun W hW => ⟨((then_ hbd hW).block g9 (row_lt HR.out.r9)).trans HR.out.r9, HR.out.o4.isV.stay (then_ hbd hW), HUd.out.stay hW⟩
            have HBd : Hid (Below wd.heap.size wd wd) := Below.refl _ _
            clear hst hUd hNo hbd HLg y1
            generalize hun2' : s2.h.l.length = un2 at *
            generalize hlg2' : s2.log.length = ul2 at *
            have HUl2 := Hid.mk' hun2'; have HLl2 := Hid.mk' hlg2'
            clear hun2' hlg2'
            go_upto_region 13 with fail
            go_cut [12] from 18 to 118 (fun v12 we => ∃ b : Bool, v12 = .bool b ∧ (s2 = s → b = true) ∧ Below wd.heap.size wd we)
            case first =>
              go_wp2_with fail
              refine (HLs.out _ HBd.out).mono ?_
              rintro e u1 ⟨al2, rfl, hu1, hb1⟩
              have HI1 := Hid.mk' hu1; have HB1' := Hid.mk' hb1
              clear hu1 hb1 y0
              go_wp2_with fail
              refine (HSU.out _ _ HI1.out HB1'.out).mono ?_
              rintro e u2 ⟨b1, rfl, hb1, hb2⟩
              have Hq1 := Hid.mk' hb1; have HB2' := Hid.mk' hb2
              have y0 := HY.out u2 hb2
              clear hb1 hb2 HI1 HB1'
              cases b1 with
              | false =>
                go_wp2
                go_meet
                exact ⟨false, rfl, fun e => absurd (Hq1.out (by rw [e])) (by simp), HB2'.out⟩
              | true =>
                obtain ⟨b2, hb2⟩ : ∃ b, (s.h.last + 1 == s2.h.last + 1) = b := ⟨_, rfl⟩
                have Hq2 : Hid (s2 = s → b2 = true) := fun e => by rw [← hb2, e]; simp
                go_wp2_with fail
                refine (HNx.out _ HB2'.out).mono ?_
                rintro e u3 ⟨rfl, hw3⟩
                rw [hw3]
                clear hw3
                cases b2 with
                | false =>
                  go_wp2
                  go_meet
                  exact ⟨false, rfl, fun e => absurd (Hq2.out e) (by simp), HB2'.out⟩
                | true =>
                  have Hq3 : Hid (s2 = s → decide (s.log = s2.log) = true) := fun e => by rw [e]; simp
                  generalize decide (s.log = s2.log) = b3 at *
                  go_wp2_with fail
                  refine (HSB.out _ HB2'.out).mono ?_
                  rintro e u3 ⟨rfl, hw3⟩
                  rw [hw3]
                  clear hw3
                  cases b3 with
                  | false =>
                    go_wp2
                    go_meet
                    exact ⟨false, rfl, fun e => absurd (Hq3.out e) (by simp), HB2'.out⟩
                  | true =>
                    obtain ⟨b4, hb4⟩ : ∃ b, ((s.sure : Int) == (s2.sure : Int)) = b := ⟨_, rfl⟩
                    have Hq4 : Hid (s2 = s → b4 = true) := fun e => by rw [← hb4, e]; simp
                    go_wp2
                    go_meet
                    exact ⟨b4, rfl, Hq4.out, HB2'.out⟩
            case rest =>
              obtain ⟨b, rfl, hb, hBe⟩ := hcut
              obtain ⟨hr9, hV, hUe⟩ := HRw.out wc hBe
              have HUe := Hid.mk' hUe
              have Hb := Hid.mk' hb
              obtain ⟨tl, htl⟩ := HFa.out.first
              have hnr := HNr.out
              replace htl : rl = (Tu.fTR, Tu.v100) :: tl := htl
              subst htl
              have hpos : 0 < nr := by rw [← hnr]; simp
              obtain ⟨ab, aoff, rfl, hcs⟩ := hV.lit (by rw [pairV_length]; simp)
              have f0 : wc.cell? ⟨ab, aoff, none⟩ = some (.string Tu.fTR) := hcs 0 _ rfl
              have f1 : wc.cell? ⟨ab, aoff + 1, none⟩ = some (.string Tu.v100) := hcs 1 _ rfl
              unfold Tu.fTR at f0
              unfold Tu.v100 at f1
              have hkc := hV.1
              have x0 : wc.cell? ⟨g9, 0, none⟩ = some (.int .i64 (rs : Int)) := cell_of_row wc _ 0 _ _ _ hr9
              have x1 : wc.cell? ⟨g9, 1, none⟩ = some (.slice (some ⟨ab, aoff, none⟩) nr k4) := cell_of_row wc _ 1 _ _ _ hr9
              have x2 : wc.cell? ⟨g9, 2, none⟩ = some (.slice none 0 0) := cell_of_row wc _ 2 _ _ _ hr9
              have tn : ((nr : Int) == 0) = false := by rw [beq_eq_false_iff_ne]; omega
              have hpos' : (0 : Int) < (nr : Int) := by omega
              have hnf := fun W => neq_field ⟨#[84, 117, 115, 45, 82, 101, 115, 117, 109, 97, 98, 108, 101]⟩ ⟨#[49, 46, 48, 46, 48]⟩ ⟨#[84, 117, 115, 45, 82, 101, 115, 117, 109, 97, 98, 108, 101]⟩ ⟨#[49, 46, 48, 46, 48]⟩ W
              have HSame : Hid (400 ≤ rs → s2 = s) := fun e => HFa.out.same e
              have HSure : Hid (s2 = s ∨ s2.sure = ul2) := by
                have := HFa.out.sure
                rcases this with h | h
                · exact Or.inl h
                · exact Or.inr (by rw [← HLl2.out]; exact h)
              clear hcs hr9 hV hUe hb hBe HRw HSB HNx HSU HLs HY y0 hnr HFa HBd
              generalize hsu : s2.sure = su2 at *
              have HSu := Hid.mk' hsu
              clear hsu
              obtain ⟨b400, hb400⟩ : ∃ b, decide ((rs : Int) ≥ 400) = b := ⟨_, rfl⟩
              have H400 : Hid (b400 = true → 400 ≤ rs) := fun e => by rw [e, decide_eq_true_eq] at hb400; omega
              cases b with
              | true =>
                cases b400 with
                | true =>
                  go_wp2
                  go_roundw
                  case rel => exact ⟨k + 1, s2, A', by omega, by go_num, HOk2.out, HLg2.out, HUe.out⟩
                  case measure => simp [intOf]; omega
                | false =>
                  go_wp2
                  go_roundw
                  case rel => exact ⟨k + 1, s2, A', by omega, by go_num, HOk2.out, HLg2.out, HUe.out⟩
                  case measure => simp [intOf]; omega
              | false =>
                have hne : ¬ s2 = s := fun e => by have := Hb.out e; cases this
                have h4 : b400 = false := by
                  cases b400 with
                  | false => rfl
                  | true => exact absurd (HSame.out (H400.out rfl)) hne
                subst h4
                have hsl : su2 = ul2 := by
                  rcases HSure.out with h | h
                  · exact absurd h hne
                  · exact h
                have tsu : ((su2 : Int) != (ul2 : Int)) = false := by rw [hsl]; simp
                clear hne hsl
                go_wp2
                go_roundw
                case rel => exact ⟨k + 1, s2, A', by omega, by go_num, HOk2.out, HLg2.out, HUe.out⟩
                case measure => simp [intOf]; omega
      · obtain rfl : k = l.length := by omega
        have HE : Hid (Below w.heap.size w wr) := HB1.out.trans (HU.out.below.mono HB1.out.size)
        go_wp2
        go_ret
        exact ⟨rfl, HE.out⟩
end Go.Proofs.YtdclmpdjjkjfjaaGreatDoor
