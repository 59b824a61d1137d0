/- TusDoes, walked. -/
import Derived.Test.YtdclmpdjjkjfjaaGreatDoorTuT
import Derived.Test.YtdclmpdjjkjfjaaGreatDoorPk21
import Derived.Test.YtdclmpdjjkjfjaaGreatDoorStLg
import Derived.Test.YtdclmpdjjkjfjaaGreatDoorPk26
import Derived.Test.YtdclmpdjjkjfjaaGreatDoorPk16
import Derived.Test.YtdclmpdjjkjfjaaGreatDoorRfSamR
import Derived.Deep.RegionHeld3
import Derived.Deep.DeepCutAuto
namespace Go.Proofs.YtdclmpdjjkjfjaaGreatDoor
open Go.RowKit

/-- a reply's box that nobody holds -/
structure BxF (w1 : World) (A B : Nat → Prop) (W : World) (b : Nat) : Prop where
  row : W.heap[b]? = some (.cells #[.int .i64 0, .slice none 0 0, .slice none 0 0] 32)
  na : ¬ A b
  nb : ¬ B b
  lo : w1.heap.size ≤ b
/-- two replies, each in its box, and both stores -/
structure RelD (w1 : World) (gs gr : Nat) (s : Sr.Sh) (rs : Int) (nr : Nat) (rl : List (ByteArray × ByteArray)) (A B : Nat → Prop) (g6 g7 : Nat) (a4 a5 : Option Addr) (k4 k5 : Nat) (W : World) : Prop where
  r6 : W.heap[g6]? = some (.cells #[.int .i64 rs, .slice a4 nr k4, .slice none 0 0] 32 (0, 0))
  r7 : W.heap[g7]? = some (.cells #[.int .i64 rs, .slice a5 nr k5, .slice none 0 0] 32 (0, 0))
  o4 : OwnV W w1.heap.size 58 2 a4 k4 nr (pairV rl)
  o5 : OwnV W w1.heap.size 58 2 a5 k5 nr (pairV rl)
  du : Du w1 W gs gr s s A B
section
variable {w1 W W' : World} {gs gr : Nat} {s : Sr.Sh} {rs : Int} {nr : Nat} {rl : List (ByteArray × ByteArray)} {A B : Nat → Prop} {g6 g7 b : Nat} {a4 a5 : Option Addr} {k4 k5 : Nat}
theorem Du.aside (h : Du w1 W gs gr s s A B) (ht : Turns (fun k => k = b) W W') (na : ¬ A b) (nb : ¬ B b) (lo : w1.heap.size ≤ b) : Du w1 W' gs gr s s A B :=
  ⟨h.st.turns ht (fun k e e2 => na (e2 ▸ e)), h.sh.turns ht (fun k e e2 => nb (e2 ▸ e)), fun k e => ⟨(h.a k e).1, Nat.lt_of_lt_of_le (h.a k e).2.1 ht.size, (h.a k e).2.2⟩, fun k e => ⟨(h.b k e).1, Nat.lt_of_lt_of_le (h.b k e).2 ht.size⟩, h.below.trans (ht.below (fun k e => by omega) h.below.size)⟩
theorem BxF.alloc (h : BxF w1 A B W b) (o : Obj) : BxF w1 A B (W.alloc o) b := ⟨rowA h.row o, h.na, h.nb, h.lo⟩
theorem BxF.new (D : Du w1 W gs gr s s A B) : BxF w1 A B (W.alloc (.cells #[.int .i64 0, .slice none 0 0, .slice none 0 0] 32)) W.heap.size := ⟨rowN W _ rfl, fun e => by have := (D.a _ e).2.1; omega, fun e => by have := (D.b _ e).2; omega, D.below.size⟩
theorem finB (D : Du w1 W gs gr s s A B) (O4 : OwnV W w1.heap.size 58 2 a4 k4 nr (pairV rl)) (O5 : OwnV W w1.heap.size 58 2 a5 k5 nr (pairV rl)) (b6 : BxF w1 A B W g6) (b7 : BxF w1 A B W g7) (hne : g6 ≠ g7) :
    RelD w1 gs gr s rs nr rl A B g6 g7 a4 a5 k4 k5 ((((((W.setCell ⟨g6, 0, none⟩ (.int .i64 rs)).setCell ⟨g6, 1, none⟩ (.slice a4 nr k4)).setCell ⟨g6, 2, none⟩ (.slice none 0 0)).setCell ⟨g7, 0, none⟩ (.int .i64 rs)).setCell ⟨g7, 1, none⟩ (.slice a5 nr k5)).setCell ⟨g7, 2, none⟩ (.slice none 0 0)) := by
  obtain ⟨t1, r1⟩ := set3 (c := #[.int .i64 0, .slice none 0 0, .slice none 0 0]) b6.row (.int .i64 rs) (.slice a4 nr k4) (.slice none 0 0)
  have q7 := t1.row b7.row (fun e => hne e.symm)
  have D1 := D.aside t1 b6.na b6.nb b6.lo
  have o4 := own_set O4 b6.row t1
  have o5 := own_set O5 b6.row t1
  generalize (((W.setCell ⟨g6, 0, none⟩ (.int .i64 rs)).setCell ⟨g6, 1, none⟩ (.slice a4 nr k4)).setCell ⟨g6, 2, none⟩ (.slice none 0 0)) = W1 at *
  obtain ⟨t2, r2⟩ := set3 (c := #[.int .i64 0, .slice none 0 0, .slice none 0 0]) q7 (.int .i64 rs) (.slice a5 nr k5) (.slice none 0 0)
  exact ⟨t2.row r1 (fun e => hne e), r2, own_set o4 q7 t2, own_set o5 q7 t2, D1.aside t2 b7.na b7.nb b7.lo⟩
theorem finC (D : Du w1 W gs gr s s A B) (O4 : OwnV W w1.heap.size 58 2 a4 k4 nr (pairV rl)) (O5 : OwnV W w1.heap.size 58 2 a5 k5 nr (pairV rl)) (b7 : BxF w1 A B W g7) :
    RelD w1 gs gr s rs nr rl A B W.heap.size g7 a4 a5 k4 k5 ((((W.alloc (.cells #[.int .i64 rs, .slice a4 nr k4, .slice none 0 0] 32)).setCell ⟨g7, 0, none⟩ (.int .i64 rs)).setCell ⟨g7, 1, none⟩ (.slice a5 nr k5)).setCell ⟨g7, 2, none⟩ (.slice none 0 0)) := by
  have q7 := (b7.alloc (.cells #[.int .i64 rs, .slice a4 nr k4, .slice none 0 0] 32)).row
  have r1 := rowN W (.cells #[.int .i64 rs, .slice a4 nr k4, .slice none 0 0] 32) rfl
  have D1 := D.stay ((Below.refl _ W).alloc (Nat.le_refl _) (.cells #[.int .i64 rs, .slice a4 nr k4, .slice none 0 0] 32))
  have o4 := O4.alloc (.cells #[.int .i64 rs, .slice a4 nr k4, .slice none 0 0] 32)
  have o5 := O5.alloc (.cells #[.int .i64 rs, .slice a4 nr k4, .slice none 0 0] 32)
  have hlt := row_lt b7.row
  generalize (W.alloc (.cells #[.int .i64 rs, .slice a4 nr k4, .slice none 0 0] 32)) = W1 at *
  obtain ⟨t2, r2⟩ := set3 (c := #[.int .i64 0, .slice none 0 0, .slice none 0 0]) q7 (.int .i64 rs) (.slice a5 nr k5) (.slice none 0 0)
  exact ⟨t2.row r1 (by omega), r2, own_set o4 q7 t2, own_set o5 q7 t2, D1.aside t2 b7.na b7.nb b7.lo⟩
theorem finA (D : Du w1 W gs gr s s A B) (O4 : OwnV W w1.heap.size 58 2 a4 k4 nr (pairV rl)) (O5 : OwnV W w1.heap.size 58 2 a5 k5 nr (pairV rl)) :
    RelD w1 gs gr s rs nr rl A B W.heap.size (W.heap.size + 1) a4 a5 k4 k5 ((W.alloc (.cells #[.int .i64 rs, .slice a4 nr k4, .slice none 0 0] 32)).alloc (.cells #[.int .i64 rs, .slice a5 nr k5, .slice none 0 0] 32)) :=
  ⟨rowA (rowN W _ rfl) _, rowN (W.alloc _) _ (by simp), (O4.alloc _).alloc _, (O5.alloc _).alloc _, D.stay (belA (belA (Below.refl _ W) _) _)⟩
theorem finA' (D : Du w1 W gs gr s s A B) (O4 : OwnV W w1.heap.size 58 2 a4 k4 nr (pairV rl)) (O5 : OwnV W w1.heap.size 58 2 a5 k5 nr (pairV rl)) :
    RelD w1 gs gr s rs nr rl A B (W.heap.size + 1) W.heap.size a4 a5 k4 k5 ((W.alloc (.cells #[.int .i64 rs, .slice a5 nr k5, .slice none 0 0] 32)).alloc (.cells #[.int .i64 rs, .slice a4 nr k4, .slice none 0 0] 32)) :=
  ⟨rowN (W.alloc _) _ (by simp), rowA (rowN W _ rfl) _, (O4.alloc _).alloc _, (O5.alloc _).alloc _, D.stay (belA (belA (Below.refl _ W) _) _)⟩
end
set_option maxRecDepth 100000 in
set_option maxHeartbeats 16000000 in
theorem tusDoes_any (l : List Aq) (ao : Option Addr) (cap n : Nat) (w : World) (hl : IsAqs w ao cap l) (hn : l.length = n) (hz : ∀ q ∈ l, aqz q ≤ 1125899906842624 ∧ ∀ p ∈ q.fl, p.1.size + p.2.size ≤ maxLen) (hN : n ≤ 140737488355328) (HBg : BegunIs w) (HDo : DoIs w) (HOu : OursIs w) :
    Calls Tryz.prog 3 #[.slice ao n cap] w fun e w' => e = .returned (.bool true) ∧ Below w.heap.size w w' := by
  subst hn
  have hcap := hl.cap_
  have H := Hid.mk' hl
  have HG : Hid (∀ W, Below w.heap.size w W → Calls Tryz.prog 7 #[.slice ao l.length cap] W fun e w' => GaOut W l e w') := fun W hW => greatAsks_any l ao cap l.length W (hl.stay hW) rfl hz hN
  have HSb := Hid.mk' (HBg (Below.refl _ _))
  have HD0 : Hid (DoIs w) := HDo
  have HO0 : Hid (OursIs w) := HOu
  clear hl hz HBg HDo HOu
  go_enter Tryz.func3, Tryz.ntmps3
  go_wp2_with fail
  refine HSb.out.mono ?_
  rintro e w0 ⟨rfl, hb0⟩
  have HB0 := Hid.mk' hb0
  have HG1 := Hid.mk' (HG.out w0 hb0)
  clear hb0 HG HSb
  go_wp2_with fail
  refine HG1.out.mono ?_
  rintro e w1 ⟨b, rfl, hsm, q0, hw1⟩
  have HB1 : Hid (Below w.heap.size w w1) := then_ HB0.out (by rw [hw1]; exact below_drewN (Below.refl _ _) q0)
  clear hw1 HB0 HG1
  cases b with
  | true =>
    go_wp2
    go_ret
    exact ⟨rfl, HB1.out⟩
  | false =>
    have HSm := Hid.mk' (hsm rfl)
    have hfew := HSm.out.few
    have HNw := Hid.mk' (newSt_any w1)
    have HNr := Hid.mk' (fun W => newSh_any W)
    clear hsm
    go_wp2_with fail
    refine HNw.out.mono ?_
    rintro e w2 ⟨gs, rfl, hS2, hb2⟩
    have HS2 := Hid.mk' hS2; have Hb2 := Hid.mk' hb2
    clear hS2 hb2
    go_wp2_with fail
    refine (HNr.out w2).mono ?_
    rintro e w3 ⟨gr, rfl, hR3, hb3⟩
    have HD3 : Hid (Du w1 w3 gs gr Sr.new Sr.new (fun k => w1.heap.size ≤ k ∧ k < w2.heap.size) (fun k => w2.heap.size ≤ k ∧ k < w3.heap.size)) := by
      have e1 := Hb2.out.size
      have e2 := hb3.size
      exact ⟨(HS2.out.mono (fun k hk e => ⟨e, hk⟩)).stay hb3, hR3.mono (fun k hk e => ⟨e, hk⟩), fun k e => ⟨e.1, by omega, fun e2 => by omega⟩, fun k e => ⟨by omega, e.2⟩, then_ Hb2.out hb3⟩
    clear hR3 hb3 HS2 Hb2 HNw HNr
    go_wp2
    go_loopw [5] (fun t wr => ∃ (k : Nat) (s : Sr.Sh) (A B : Nat → Prop), k ≤ l.length ∧ t = .int .i64 k ∧ Sr.Ok s ∧ LogIn l k s ∧ Du w1 wr gs gr s s A B) (fun t _ => l.length - (intOf t).toNat)
    case atStart => exact ⟨0, Sr.new, _, _, Nat.zero_le _, rfl, Sr.Ok.new, LogIn.new l, HD3.out⟩
    case round =>
      obtain ⟨k, s, A, B, hk, rfl, ok, hlg, hD⟩ := hrel
      have HD := Hid.mk' hD
      clear hD HD3
      by_cases hlt : k < l.length
      · have hlt' : (k : Int) < l.length := by omega
        obtain ⟨bb, oo, st, ha, hA1⟩ := (H.out.stay HB1.out).at_ k hlt
        subst ha
        obtain ⟨m1, m2, m3, m4, m5⟩ := HSm.out.one (List.getElem_mem hlt)
        have HC : Hid (∀ W, Below w1.heap.size w1 W → AqAt W bb (oo + k * 6) l[k] st) := fun W hW => hA1.stay hW
        have hfa : ∀ k, A k → k < wr.heap.size := fun k e => (HD.out.a k e).2.1
        have hzw : w1.heap.size ≤ wr.heap.size := HD.out.below.size
        have hfb : ∀ k, B k → k < wr.heap.size := fun k e => (HD.out.b k e).2
        have hlf := hlg.few HSm.out hk
        have HDc : Hid (∀ W, Du w1 W gs gr s s A B → Below wr.heap.size wr W → Calls Tryz.prog 10 #[.pointer (some ⟨gs, 0, none⟩), .agg #[.string l[k].m, .string l[k].t, .int .i64 l[k].mi, .slice st.fo l[k].fl.length st.fcap, .int .i64 l[k].ln], .slice st.bo l[k].body.length st.bcap] W fun e w' => ∃ a4 k4 A4, e = .returned (.agg #[.int .i64 (((Tu.tus s l[k].m l[k].t l[k].fl l[k].body).2.1 : Nat) : Int), .slice a4 (Tu.tus s l[k].m l[k].t l[k].fl l[k].body).2.2.length k4, .slice none 0 0]) ∧ Du w1 w' gs gr (Tu.tus s l[k].m l[k].t l[k].fl l[k].body).1 s A4 B ∧ OwnV w' wr.heap.size 58 2 a4 k4 (Tu.tus s l[k].m l[k].t l[k].fl l[k].body).2.2.length (pairV (Tu.tus s l[k].m l[k].t l[k].fl l[k].body).2.2) ∧ (∀ b o, W.heap[b]? = some o → wr.heap.size ≤ b → w'.heap[b]? = some o ∧ ¬ A4 b) ∧ wr.heap.size ≤ w'.heap.size) := fun W hW hwW => (HD0.out (then_ HB1.out hW.below) (fun k e => Nat.le_trans HB1.out.size (hW.a k e).1) hW.st ok hlf _ _ _ _ _ _ _ (HC.out W hW.below).fl m1 m2 _ _ _ (HC.out W hW.below).body m3 m4 m5).mono (by
          rintro e w' ⟨⟨a4, k4, n4, rfl, hn4, hO4⟩, hat4, hT4⟩
          subst hn4
          exact ⟨a4, k4, _, rfl, hW.fst hat4 hT4, hO4.mono hwW.size, fun b o hb hle => ⟨hT4.row hb (fun e => by have := hfa b e; omega), fun e => by
            have := row_lt hb
            rcases e with e | e
            · have := hfa b e; omega
            · omega⟩, Nat.le_trans hwW.size hT4.size⟩)
        have HTc : Hid (∀ W A4 a4 k4, Du w1 W gs gr (Tu.tus s l[k].m l[k].t l[k].fl l[k].body).1 s A4 B → wr.heap.size ≤ W.heap.size → OwnV W wr.heap.size 58 2 a4 k4 (Tu.tus s l[k].m l[k].t l[k].fl l[k].body).2.2.length (pairV (Tu.tus s l[k].m l[k].t l[k].fl l[k].body).2.2) → Calls Tryz.prog 11 #[.pointer (some ⟨gr, 0, none⟩), .agg #[.string l[k].m, .string l[k].t, .int .i64 l[k].mi, .slice st.fo l[k].fl.length st.fcap, .int .i64 l[k].ln], .slice st.bo l[k].body.length st.bcap] W fun e w' => ∃ a5 k5 B5, e = .returned (.agg #[.int .i64 (((Tu.tus s l[k].m l[k].t l[k].fl l[k].body).2.1 : Nat) : Int), .slice a5 (Tu.tus s l[k].m l[k].t l[k].fl l[k].body).2.2.length k5, .slice none 0 0]) ∧ Du w1 w' gs gr (Tu.tus s l[k].m l[k].t l[k].fl l[k].body).1 (Tu.tus s l[k].m l[k].t l[k].fl l[k].body).1 A4 B5 ∧ OwnV w' w1.heap.size 58 2 a4 k4 (Tu.tus s l[k].m l[k].t l[k].fl l[k].body).2.2.length (pairV (Tu.tus s l[k].m l[k].t l[k].fl l[k].body).2.2) ∧ OwnV w' w1.heap.size 58 2 a5 k5 (Tu.tus s l[k].m l[k].t l[k].fl l[k].body).2.2.length (pairV (Tu.tus s l[k].m l[k].t l[k].fl l[k].body).2.2) ∧ (∀ b o, W.heap[b]? = some o → wr.heap.size ≤ b → w'.heap[b]? = some o ∧ ¬ B5 b) ∧ wr.heap.size ≤ w'.heap.size) := fun W A4 a4 k4 hW hwW hO4 => (tusSh_any hW.sh ok _ _ _ _ _ _ _ (HC.out W hW.below).fl m1 m2 _ _ _ _ rfl (HC.out W hW.below).body m3 m5).mono (by
          rintro e w' ⟨⟨a5, k5, n5, rfl, hn5, hO5⟩, hat5, hT5⟩
          subst hn5
          exact ⟨a5, k5, _, rfl, hW.snd hat5 hT5, (hO4.turns hT5 (fun a e e2 => by have h1 := (hO4.block a e).1; have h2 := hfb _ e2; omega)).mono hzw, hO5.mono hW.below.size, fun b o hb hle => ⟨hT5.row hb (fun e => by have := hfb b e; omega), fun e => by
            have := row_lt hb
            rcases e with e | e
            · have := hfb b e; omega
            · omega⟩, Nat.le_trans hwW hT5.size⟩)
        have ok2 := Tu.tus_ok ok l[k].m l[k].t l[k].fl l[k].body
        have hlg2 := hlg.step hlt
        have hfw := Tu.tus_few s l[k].m l[k].t l[k].fl l[k].body
        have htz : l[k].t.size ≤ 100000 := m5
        have HCs : Hid (∀ W, Below w1.heap.size w1 W → W.cell? ⟨bb, oo + k * 6, none⟩ = some (.string l[k].m) ∧ W.cell? ⟨bb, oo + k * 6 + 1, none⟩ = some (.string l[k].t) ∧ W.cell? ⟨bb, oo + k * 6 + 2, none⟩ = some (.int .i64 l[k].mi) ∧ W.cell? ⟨bb, oo + k * 6 + 3, none⟩ = some (.slice st.fo l[k].fl.length st.fcap) ∧ W.cell? ⟨bb, oo + k * 6 + 4, none⟩ = some (.int .i64 l[k].ln) ∧ W.cell? ⟨bb, oo + k * 6 + 5, none⟩ = some (.slice st.bo l[k].body.length st.bcap)) := fun W hW => ⟨(HC.out W hW).c0, (HC.out W hW).c1, (HC.out W hW).c2, (HC.out W hW).c3, (HC.out W hW).c4, (HC.out W hW).c5⟩
        clear hA1 m1 m2 m3 m4 hfa hfb hlf hlg
        generalize Tu.tus s l[k].m l[k].t l[k].fl l[k].body = r at *
        obtain ⟨s2, rs, rl⟩ := r
        simp only at ok2 hlg2 hfw HDc HTc
        have HOk2 := Hid.mk' ok2; have HLg2 := Hid.mk' hlg2
        clear ok ok2 hlg2
        generalize l[k] = p at *
        obtain ⟨c0, c1, c2, c3, c4, c5⟩ := HCs.out wr HD.out.below
        go_upto_region 9 with fail
        have HBw0 : Hid (Below wr.heap.size wr wr.drew) := below_drew _ _
        have HBw1 : Hid (Below wr.heap.size wr (wr.alloc (.cells #[.int .i64 0, .slice none 0 0, .slice none 0 0] 32)).drew) := then_ (belA (Below.refl _ wr) _) (below_drew _ _)
        have HBw2 : Hid (Below wr.heap.size wr ((wr.alloc (.cells #[.int .i64 0, .slice none 0 0, .slice none 0 0] 32)).alloc (.cells #[.int .i64 0, .slice none 0 0, .slice none 0 0] 32)).drew) := then_ (belA (belA (Below.refl _ wr) _) _) (below_drew _ _)
        have HDu0 := Hid.mk' (HD.out.stay HBw0.out)
        have HDu1 := Hid.mk' (HD.out.stay HBw1.out)
        have HDu2 := Hid.mk' (HD.out.stay HBw2.out)
        have HBl0 := Hid.mk' HDu0.out.below
        have HBl1 := Hid.mk' HDu1.out.below
        have HBl2 := Hid.mk' HDu2.out.below
        have e10 : Hid ((wr.alloc (.cells #[.int .i64 0, .slice none 0 0, .slice none 0 0] 32)).drew.heap[wr.heap.size]? = some (.cells #[.int .i64 0, .slice none 0 0, .slice none 0 0] 32)) := rowN wr _ rfl
        have e20 : Hid (((wr.alloc (.cells #[.int .i64 0, .slice none 0 0, .slice none 0 0] 32)).alloc (.cells #[.int .i64 0, .slice none 0 0, .slice none 0 0] 32)).drew.heap[wr.heap.size]? = some (.cells #[.int .i64 0, .slice none 0 0, .slice none 0 0] 32)) := rowA (rowN wr _ rfl) _
        have e21 : Hid (((wr.alloc (.cells #[.int .i64 0, .slice none 0 0, .slice none 0 0] 32)).alloc (.cells #[.int .i64 0, .slice none 0 0, .slice none 0 0] 32)).drew.heap[wr.heap.size + 1]? = some (.cells #[.int .i64 0, .slice none 0 0, .slice none 0 0] 32)) := rowN (wr.alloc (.cells #[.int .i64 0, .slice none 0 0, .slice none 0 0] 32)) _ (by simp)
        generalize hnr : rl.length = nr at *
        have HNr := Hid.mk' hnr
        clear hnr
        go_cut [6, 7] from 18 to 113 (fun v6 v7 wc => ∃ (g6 g7 : Nat) (a4 a5 : Option Addr) (k4 k5 : Nat) (A' B' : Nat → Prop), v6 = .pointer (some ⟨g6, 0, none⟩) ∧ v7 = .pointer (some ⟨g7, 0, none⟩) ∧ RelD w1 gs gr s2 (rs : Int) nr rl A' B' g6 g7 a4 a5 k4 k5 wc)
        case first =>
          go_region_held3 (fun W => W.cell? ⟨bb, oo + k * 6, none⟩ = some (.string p.m) ∧ W.cell? ⟨bb, oo + k * 6 + 1, none⟩ = some (.string p.t) ∧ W.cell? ⟨bb, oo + k * 6 + 2, none⟩ = some (.int .i64 p.mi) ∧ W.cell? ⟨bb, oo + k * 6 + 3, none⟩ = some (.slice st.fo p.fl.length st.fcap) ∧ W.cell? ⟨bb, oo + k * 6 + 4, none⟩ = some (.int .i64 p.ln) ∧ W.cell? ⟨bb, oo + k * 6 + 5, none⟩ = some (.slice st.bo p.body.length st.bcap)) (first | (refine HCs.out _ ?_; repeat first | with_reducible exact HBl5.out | with_reducible exact HBl4.out | with_reducible exact HBl0.out | with_reducible exact HBl1.out | with_reducible exact HBl2.out | refine belS ?_ (by omega) | refine belA ?_ _)) (first
            | (go_at_call 10; refine (HDc.out _ (by first | with_reducible exact HDu0.out | with_reducible exact HDu1.out | with_reducible exact HDu2.out) (by first | with_reducible exact HBw0.out | with_reducible exact HBw1.out | with_reducible exact HBw2.out)).mono ?_; rintro e w4 ⟨a4, k4, A4, rfl, hD4, hO4, hK4, hz4⟩; have HD4 := Hid.mk' hD4; have HD4a := Hid.mk' (hD4.stay ((Below.refl _ w4).alloc (Nat.le_refl _) (.cells #[.int .i64 0, .slice none 0 0, .slice none 0 0] 32))); have HD4b := Hid.mk' (HD4a.out.stay ((Below.refl _ _).alloc (Nat.le_refl _) (.cells #[.int .i64 0, .slice none 0 0, .slice none 0 0] 32))); have HO4 := Hid.mk' hO4; have HO4a := Hid.mk' (hO4.alloc (.cells #[.int .i64 0, .slice none 0 0, .slice none 0 0] 32)); have HO4b := Hid.mk' (HO4a.out.alloc (.cells #[.int .i64 0, .slice none 0 0, .slice none 0 0] 32)); have HBl4 := Hid.mk' hD4.below; have hy4 := hD4.below.size; (try (with_reducible have r40 := Hid.mk' (hK4 _ _ e10.out (Nat.le_refl _)).1; have x40 := Hid.mk' (hK4 _ _ e10.out (Nat.le_refl _)).2)); (try (with_reducible have r40 := Hid.mk' (hK4 _ _ e20.out (Nat.le_refl _)).1; have x40 := Hid.mk' (hK4 _ _ e20.out (Nat.le_refl _)).2)); (try (with_reducible have r41 := Hid.mk' (hK4 _ _ e21.out (Nat.le_add_right _ _)).1; have x41 := Hid.mk' (hK4 _ _ e21.out (Nat.le_add_right _ _)).2)); have HZ4 := Hid.mk' hz4; have HZ4a : Hid (wr.heap.size ≤ (w4.alloc (.cells #[.int .i64 0, .slice none 0 0, .slice none 0 0] 32)).heap.size) := Nat.le_trans hz4 (by simp); have HZ4b : Hid (wr.heap.size ≤ ((w4.alloc (.cells #[.int .i64 0, .slice none 0 0, .slice none 0 0] 32)).alloc (.cells #[.int .i64 0, .slice none 0 0, .slice none 0 0] 32)).heap.size) := Nat.le_trans HZ4a.out (by simp); have n40 : Hid ((w4.alloc (.cells #[.int .i64 0, .slice none 0 0, .slice none 0 0] 32)).heap[w4.heap.size]? = some (.cells #[.int .i64 0, .slice none 0 0, .slice none 0 0] 32)) := rowN w4 _ rfl; have n40b : Hid (((w4.alloc (.cells #[.int .i64 0, .slice none 0 0, .slice none 0 0] 32)).alloc (.cells #[.int .i64 0, .slice none 0 0, .slice none 0 0] 32)).heap[w4.heap.size]? = some (.cells #[.int .i64 0, .slice none 0 0, .slice none 0 0] 32)) := rowA (rowN w4 _ rfl) _; have n41b : Hid (((w4.alloc (.cells #[.int .i64 0, .slice none 0 0, .slice none 0 0] 32)).alloc (.cells #[.int .i64 0, .slice none 0 0, .slice none 0 0] 32)).heap[w4.heap.size + 1]? = some (.cells #[.int .i64 0, .slice none 0 0, .slice none 0 0] 32)) := rowN (w4.alloc (.cells #[.int .i64 0, .slice none 0 0, .slice none 0 0] 32)) _ (by simp); (try (have r40a := Hid.mk' (rowA r40.out (.cells #[.int .i64 0, .slice none 0 0, .slice none 0 0] 32)))); clear hD4 hO4 hK4)
            | (go_at_call 11; refine (HTc.out _ _ _ _ (by first | with_reducible exact HD4.out | with_reducible exact HD4a.out | with_reducible exact HD4b.out) (by first | with_reducible exact HZ4.out | with_reducible exact HZ4a.out | with_reducible exact HZ4b.out) (by first | with_reducible exact HO4.out | with_reducible exact HO4a.out | with_reducible exact HO4b.out)).mono ?_; rintro e w5 ⟨a5, k5, B5, rfl, hD5, hI4, hI5, hK5, hz5⟩; have HK5 := Hid.mk' hK5; clear hK5; have HD5 := Hid.mk' hD5; have HI4 := Hid.mk' hI4; have HI5 := Hid.mk' hI5; have HBl5 := Hid.mk' hD5.below; have HD5a := Hid.mk' (hD5.stay ((Below.refl _ w5).alloc (Nat.le_refl _) (.cells #[.int .i64 0, .slice none 0 0, .slice none 0 0] 32))); have HI4a := Hid.mk' (hI4.alloc (.cells #[.int .i64 0, .slice none 0 0, .slice none 0 0] 32)); have HI5a := Hid.mk' (hI5.alloc (.cells #[.int .i64 0, .slice none 0 0, .slice none 0 0] 32)); have hy5 := hD5.below.size; (try (with_reducible have s0 := Hid.mk' (HK5.out _ _ r40.out (Nat.le_refl _)).1; have xs0 := Hid.mk' (HK5.out _ _ r40.out (Nat.le_refl _)).2)); (try (with_reducible have s0 := Hid.mk' (HK5.out _ _ r40a.out (Nat.le_refl _)).1; have xs0 := Hid.mk' (HK5.out _ _ r40a.out (Nat.le_refl _)).2)); (try (with_reducible have s1 := Hid.mk' (HK5.out _ _ r41.out (Nat.le_add_right _ _)).1; have xs1 := Hid.mk' (HK5.out _ _ r41.out (Nat.le_add_right _ _)).2)); (try (with_reducible have s2 := Hid.mk' (HK5.out _ _ n40.out hz4).1; have xs2 := Hid.mk' (HK5.out _ _ n40.out hz4).2)); (try (with_reducible have s2 := Hid.mk' (HK5.out _ _ n40b.out hz4).1; have xs2 := Hid.mk' (HK5.out _ _ n40b.out hz4).2)); (try (with_reducible have s3 := Hid.mk' (HK5.out _ _ n41b.out (Nat.le_succ_of_le hz4)).1; have xs3 := Hid.mk' (HK5.out _ _ n41b.out (Nat.le_succ_of_le hz4)).2)); (try (have sx := box6 s0.out; obtain ⟨s0_0, s0_1, s0_2, s0_3, s0_4, s0_5⟩ := sx)); (try (have s0a_0 := fun z => (box6 (rowA s0.out z)).1; have s0a_1 := fun z => (box6 (rowA s0.out z)).2.1; have s0a_2 := fun z => (box6 (rowA s0.out z)).2.2.1; have s0a_3 := fun z => (box6 (rowA s0.out z)).2.2.2.1; have s0a_4 := fun z => (box6 (rowA s0.out z)).2.2.2.2.1; have s0a_5 := fun z => (box6 (rowA s0.out z)).2.2.2.2.2)); (try (have sx := box6 s1.out; obtain ⟨s1_0, s1_1, s1_2, s1_3, s1_4, s1_5⟩ := sx)); (try (have s1a_0 := fun z => (box6 (rowA s1.out z)).1; have s1a_1 := fun z => (box6 (rowA s1.out z)).2.1; have s1a_2 := fun z => (box6 (rowA s1.out z)).2.2.1; have s1a_3 := fun z => (box6 (rowA s1.out z)).2.2.2.1; have s1a_4 := fun z => (box6 (rowA s1.out z)).2.2.2.2.1; have s1a_5 := fun z => (box6 (rowA s1.out z)).2.2.2.2.2)); (try (have sx := box6 s2.out; obtain ⟨s2_0, s2_1, s2_2, s2_3, s2_4, s2_5⟩ := sx)); (try (have s2a_0 := fun z => (box6 (rowA s2.out z)).1; have s2a_1 := fun z => (box6 (rowA s2.out z)).2.1; have s2a_2 := fun z => (box6 (rowA s2.out z)).2.2.1; have s2a_3 := fun z => (box6 (rowA s2.out z)).2.2.2.1; have s2a_4 := fun z => (box6 (rowA s2.out z)).2.2.2.2.1; have s2a_5 := fun z => (box6 (rowA s2.out z)).2.2.2.2.2)); (try (have sx := box6 s3.out; obtain ⟨s3_0, s3_1, s3_2, s3_3, s3_4, s3_5⟩ := sx)); (try (have s3a_0 := fun z => (box6 (rowA s3.out z)).1; have s3a_1 := fun z => (box6 (rowA s3.out z)).2.1; have s3a_2 := fun z => (box6 (rowA s3.out z)).2.2.1; have s3a_3 := fun z => (box6 (rowA s3.out z)).2.2.2.1; have s3a_4 := fun z => (box6 (rowA s3.out z)).2.2.2.2.1; have s3a_5 := fun z => (box6 (rowA s3.out z)).2.2.2.2.2)); (obtain ⟨m0_0, m0_1, m0_2, m0_3, m0_4, m0_5⟩ := box6 (rowN w5 (.cells #[.int .i64 0, .slice none 0 0, .slice none 0 0] 32) rfl)); (obtain ⟨m0b_0, m0b_1, m0b_2, m0b_3, m0b_4, m0b_5⟩ := box6 (rowA (rowN w5 (.cells #[.int .i64 0, .slice none 0 0, .slice none 0 0] 32) rfl) (.cells #[.int .i64 0, .slice none 0 0, .slice none 0 0] 32))); (obtain ⟨m1b_0, m1b_1, m1b_2, m1b_3, m1b_4, m1b_5⟩ := box6 (rowN (w5.alloc (.cells #[.int .i64 0, .slice none 0 0, .slice none 0 0] 32)) (.cells #[.int .i64 0, .slice none 0 0, .slice none 0 0] 32) (k := w5.heap.size + 1) (by simp))); (try (have q04 := Nat.ne_of_lt (row_lt r40.out))); (try (have q40 := Ne.symm q04)); (try (have q05 := Nat.ne_of_lt (row_lt s0.out))); (try (have q50 := Ne.symm q05)); (try (have q45 := Nat.ne_of_lt (row_lt s2.out))); (try (have q54 := Ne.symm q45)); (try (have t0 : Hid (BxF w1 A4 B5 w5 wr.heap.size) := ⟨s0.out, x40.out, xs0.out, hzw⟩)); (try (have t1 : Hid (BxF w1 A4 B5 w5 (wr.heap.size + 1)) := ⟨s1.out, x41.out, xs1.out, Nat.le_succ_of_le hzw⟩)); (try (have t2 : Hid (BxF w1 A4 B5 w5 w4.heap.size) := ⟨s2.out, fun e => Nat.lt_irrefl _ (HD4.out.a _ e).2.1, xs2.out, hy4⟩)); (try (have t3 : Hid (BxF w1 A4 B5 w5 (w4.heap.size + 1)) := ⟨s3.out, fun e => by have := (HD4.out.a _ e).2.1; omega, xs3.out, Nat.le_succ_of_le hy4⟩)); have t5 := Hid.mk' (BxF.new hD5); clear hD5 hI4 hI5))
          all_goals
            go_wp2
            go_meet
            refine ⟨_, _, a4, a5, k4, k5, A4, B5, rfl, rfl, ?_⟩
            first
              | with_reducible exact finA HD5.out HI4.out HI5.out
              | with_reducible exact finA' HD5.out HI4.out HI5.out
              | (with_reducible refine finC HD5.out HI4.out HI5.out ?_
                 first | with_reducible exact t0.out | with_reducible exact t2.out)
              | (with_reducible refine finB HD5.out HI4.out HI5.out ?_ ?_ (by omega)
                 · first | with_reducible exact t0.out | with_reducible exact t1.out | with_reducible exact t2.out | with_reducible exact t3.out
                 · first | with_reducible exact t0.out | with_reducible exact t1.out | with_reducible exact t2.out | with_reducible exact t3.out)
              | (with_reducible refine finB HD5a.out HI4a.out HI5a.out ?_ t5.out (by omega)
                 first | with_reducible exact t0.out.alloc _ | with_reducible exact t2.out.alloc _)
        case rest =>
          obtain ⟨g6, g7, a4, a5, k4, k5, A', B', rfl, rfl, hR⟩ := hcut
          clear HBw0 HBw1 HBw2 HDu0 HDu1 HDu2 HBl0 HBl1 HBl2 e10 e20 e21 HDc HTc c0 c1 c2 c3 c4 c5
          have HLg := Hid.mk' (logSt_any hR.du.st)
          have HR := Hid.mk' hR
          clear hR
          go_wp2_with fail
          refine HLg.out.mono ?_
          rintro e w6 ⟨a6, ca6, rfl, hI6, hb6⟩
          have hD6 := HR.out.du.stay hb6
          have HD6 := Hid.mk' hD6
          obtain ⟨c0, c1, c2, c3, c4, c5⟩ := HCs.out w6 hD6.below
          obtain ⟨ks, kl, kao, kca, P1, hst⟩ := hD6.st
          obtain ⟨kh, hao, hca, P2, hsh⟩ := hD6.sh
          obtain ⟨⟨y0, y1⟩, _⟩ := row2 hst.row
          obtain ⟨⟨z0, z1, z2⟩, _⟩ := row3 hsh.row
          obtain ⟨uo, uc, v0, v1, _, _, _, _, hUh⟩ := hsh.hold.cells
          have hr6 := (hb6.block g6 (row_lt HR.out.r6)).trans HR.out.r6
          have hr7 := (hb6.block g7 (row_lt HR.out.r7)).trans HR.out.r7
          have HCc : Hid (∀ W, Below w6.heap.size w6 W → W.cell? ⟨g6, 0, none⟩ = some (.int .i64 (rs : Int)) ∧ W.cell? ⟨g6, 1, none⟩ = some (.slice a4 nr k4) ∧ W.cell? ⟨g6, 2, none⟩ = some (.slice none 0 0) ∧ W.cell? ⟨g7, 0, none⟩ = some (.int .i64 (rs : Int)) ∧ W.cell? ⟨g7, 1, none⟩ = some (.slice a5 nr k5) ∧ W.cell? ⟨g7, 2, none⟩ = some (.slice none 0 0) ∧ W.cell? ⟨gs, 0, none⟩ = some (.pointer (some ⟨ks, 0, none⟩)) ∧ W.cell? ⟨gr, 0, none⟩ = some (.pointer (some ⟨kh, 0, none⟩)) ∧ W.cell? ⟨gr, 1, none⟩ = some (.slice hao s2.log.length hca) ∧ W.cell? ⟨gr, 2, none⟩ = some (.int .i64 (s2.sure : Int)) ∧ W.cell? ⟨kh, 0, none⟩ = some (.slice uo s2.h.l.length uc)) := fun W hW => by
            have q6 := (hW.block g6 (row_lt hr6)).trans hr6
            have q7 := (hW.block g7 (row_lt hr7)).trans hr7
            exact ⟨cell_of_row W _ 0 _ _ _ q6, cell_of_row W _ 1 _ _ _ q6, cell_of_row W _ 2 _ _ _ q6, cell_of_row W _ 0 _ _ _ q7, cell_of_row W _ 1 _ _ _ q7, cell_of_row W _ 2 _ _ _ q7, (hW.cell (p := ⟨gs, 0, none⟩) hst.lt).trans y0, (hW.cell (p := ⟨gr, 0, none⟩) hsh.lt).trans z0, (hW.cell (p := ⟨gr, 1, none⟩) hsh.lt).trans z1, (hW.cell (p := ⟨gr, 2, none⟩) hsh.lt).trans z2, (hW.cell (p := ⟨kh, 0, none⟩) hsh.hold.lt).trans v0⟩
          have HSR : Hid (∀ W, Below w6.heap.size w6 W → Calls Tryz.prog 13 #[.agg #[.int .i64 (rs : Int), .slice a4 nr k4, .slice none 0 0], .agg #[.int .i64 (rs : Int), .slice a5 nr k5, .slice none 0 0]] W fun e w' => e = .returned (.bool true) ∧ Below w6.heap.size w6 w') := fun W hW => (sameReply_yes (rs : Int) rl a4 a5 none none k4 k5 0 0 nr [] W HNr.out (HR.out.o4.isV.stay (then_ hb6 hW)) (HR.out.o5.isV.stay (then_ hb6 hW)) (IsB.nil W) (IsB.nil W) (by omega)).mono fun e w' ⟨h1, h2⟩ => ⟨h1, then_ hW h2⟩
          have HSB : Hid (∀ W, Below w6.heap.size w6 W → Calls Tryz.prog 16 #[.slice a6 s2.log.length ca6, .slice hao s2.log.length hca] W fun e w' => e = .returned (.bool true) ∧ Below w6.heap.size w6 w') := fun W hW => (sameBytes_any W a6 hao ca6 hca _ _ s2.log s2.log rfl rfl (hI6.stay hW) (hsh.own.isB.stay hW)).mono fun e w' ⟨h1, h2⟩ => ⟨by rw [h1, decide_eq_true rfl], by rw [h2]; exact hW⟩
          have HLs : Hid (∀ W, Below w6.heap.size w6 W → Calls Tryz.prog 15 #[.pointer (some ⟨ks, 0, none⟩)] W fun e w' => ∃ al, e = .returned (.slice al s2.h.l.length s2.h.l.length) ∧ IsUps w' al s2.h.l.length s2.h.l ∧ Below w6.heap.size w6 w') := fun W hW => (listU_any _ P1 _ W (hst.spool.stay hW) HOk2.out.h.small).mono fun e w' ⟨al, h1, h2, h3⟩ => ⟨al, h1, h2.isUps, then_ hW h3⟩
          have HSU : Hid (∀ W al, IsUps W al s2.h.l.length s2.h.l → Below w6.heap.size w6 W → Calls Tryz.prog 14 #[.slice al s2.h.l.length s2.h.l.length, .slice uo s2.h.l.length uc] W fun e w' => e = .returned (.bool true) ∧ Below w6.heap.size w6 w') := fun W al hI hW => (sameUps_yes _ al _ _ _ W hI (hUh.isUps.stay hW) (by have := HOk2.out.h.few; omega)).mono fun e w' ⟨h1, q, h2⟩ => ⟨h1, by rw [h2]; exact then_ hW (below_drewsN W q)⟩
          have HOc : Hid (∀ W, Below w6.heap.size w6 W → Calls Tryz.prog 17 #[.string p.t] W fun e w' => e = .returned (.bool (Tu.ours p.t)) ∧ Below w6.heap.size w6 w') := fun W hW => (HO0.out (then_ (HB1.out) (then_ HD6.out.below hW)) p.t htz).mono fun e w' ⟨h1, h2⟩ => ⟨h1, then_ hW h2⟩
          clear hst hsh hUh hI6 hb6 hD6 hr6 hr7 HLg
          generalize s2.log.length = lln at *
          generalize s2.h.l.length = lun at *
          generalize (s2.sure : Int) = su at *
          go_upto_region 12 with fail
          go_cut [11] from 18 to 113 (fun v11 wd => v11 = .bool (Tu.ours p.t) ∧ wd = w6)
          case first =>
            obtain ⟨bf, hbf⟩ : ∃ b, (p.t.toList == ([47, 102, 105, 108, 101, 115] : List UInt8)) = b := ⟨_, rfl⟩
            have eF : decide (p.t = Tu.bFiles) = bf := by rw [Bool.eq_iff_iff, decide_eq_true_eq, ← hbf]; exact Tu.eqL p.t Tu.bFiles _ rfl
            have HOu : Hid (Tu.ours p.t = (bf || (decide (7 ≤ p.t.size) && decide (p.t.data.toList.take 7 = Tu.bFilesS.data.toList)))) := by unfold Hid Tu.ours; rw [eF]
            clear eF
            cases bf with
            | true =>
              go_wp2
              go_meet
              exact ⟨by rw [HOu.out]; rfl, rfl⟩
            | false =>
              by_cases h7 : 7 ≤ p.t.size
              · have h7' : (7 : Int) ≤ (p.t.size : Int) := by omega
                obtain ⟨bq, hbq⟩ : ∃ b, ((p.t.extract 0 7).toList == ([47, 102, 105, 108, 101, 115, 47] : List UInt8)) = b := ⟨_, rfl⟩
                have HQ : Hid (Tu.ours p.t = bq) := by
                  unfold Hid
                  rw [HOu.out, decide_eq_true h7, Bool.false_or, Bool.true_and, ← hbq, Tu.pre7]
                  rw [Bool.eq_iff_iff, decide_eq_true_eq, beq_iff_eq]
                  rfl
                go_wp2
                go_meet
                exact ⟨by rw [HQ.out], rfl⟩
              · have h7' : ¬ (7 : Int) ≤ (p.t.size : Int) := by omega
                have HQ : Hid (Tu.ours p.t = false) := by
                  unfold Hid
                  rw [HOu.out, decide_eq_false h7]; rfl
                go_wp2
                go_meet
                exact ⟨by rw [HQ.out], rfl⟩
          case rest =>
            obtain ⟨rfl, hwd⟩ := hcut
            subst hwd
            generalize Tu.ours p.t = ob at *
            have HBc : Hid (Below wc.heap.size wc wc.drew) := below_drew _ _
            obtain ⟨d0, d1, d2, d3, d4, d5, d6, d7, d8, d9, d10⟩ := HCc.out wc (Below.refl _ _)
            clear c0 c1 c2 c3 c4 c5 y0 y1 z0 z1 z2 v0 v1
            go_wp2_with fail
            (try simp only [List.append])
            go_region_held3 (fun W => W.cell? ⟨g6, 0, none⟩ = some (.int .i64 (rs : Int)) ∧ W.cell? ⟨g6, 1, none⟩ = some (.slice a4 nr k4) ∧ W.cell? ⟨g6, 2, none⟩ = some (.slice none 0 0) ∧ W.cell? ⟨g7, 0, none⟩ = some (.int .i64 (rs : Int)) ∧ W.cell? ⟨g7, 1, none⟩ = some (.slice a5 nr k5) ∧ W.cell? ⟨g7, 2, none⟩ = some (.slice none 0 0) ∧ W.cell? ⟨gs, 0, none⟩ = some (.pointer (some ⟨ks, 0, none⟩)) ∧ W.cell? ⟨gr, 0, none⟩ = some (.pointer (some ⟨kh, 0, none⟩)) ∧ W.cell? ⟨gr, 1, none⟩ = some (.slice hao lln hca) ∧ W.cell? ⟨gr, 2, none⟩ = some (.int .i64 su) ∧ W.cell? ⟨kh, 0, none⟩ = some (.slice uo lun uc)) (go_keep) (first
              | (go_at_call 13; refine (HSR.out _ HBc.out).mono ?_; rintro e u1 ⟨rfl, hb1⟩; obtain ⟨b0, b1, b2, b3, b4, b5, b6, b7, b8, b9, b10⟩ := HCc.out u1 hb1; have HBc := Hid.mk' hb1; clear hb1)
              | (go_at_call 16; refine (HSB.out _ HBc.out).mono ?_; rintro e u1 ⟨rfl, hb1⟩; obtain ⟨b0, b1, b2, b3, b4, b5, b6, b7, b8, b9, b10⟩ := HCc.out u1 hb1; have HBc := Hid.mk' hb1; clear hb1)
              | (go_at_call 15; refine (HLs.out _ HBc.out).mono ?_; rintro e u1 ⟨al, rfl, hu1, hb1⟩; have HUa := Hid.mk' hu1; clear hu1; obtain ⟨b0, b1, b2, b3, b4, b5, b6, b7, b8, b9, b10⟩ := HCc.out u1 hb1; have HBc := Hid.mk' hb1; clear hb1)
              | (go_at_call 14; refine (HSU.out _ _ HUa.out HBc.out).mono ?_; rintro e u1 ⟨rfl, hb1⟩; obtain ⟨b0, b1, b2, b3, b4, b5, b6, b7, b8, b9, b10⟩ := HCc.out u1 hb1; have HBc := Hid.mk' hb1; clear hb1)
              | (go_at_call 17; refine (HOc.out _ HBc.out).mono ?_; rintro e u1 ⟨rfl, hb1⟩; obtain ⟨b0, b1, b2, b3, b4, b5, b6, b7, b8, b9, b10⟩ := HCc.out u1 hb1; have HBc := Hid.mk' hb1; clear hb1))
            all_goals
              go_wp2
              go_roundw
              case rel => exact ⟨k + 1, s2, _, _, by omega, by go_num, HOk2.out, HLg2.out, HD6.out.stay HBc.out⟩
              case measure => simp [intOf]; omega
      · obtain rfl : k = l.length := by omega
        have HE : Hid (Below w.heap.size w wr) := HB1.out.trans (HD.out.below.mono HB1.out.size)
        go_wp2
        go_ret
        exact ⟨rfl, HE.out⟩
end Go.Proofs.YtdclmpdjjkjfjaaGreatDoor
