/- StoreAgain, walked. -/
import Derived.Test.YtanpocgojmflgaaDoorLwStS
import Derived.Test.YtanpocgojmflgaaDoorLwStB
import Derived.Test.YtanpocgojmflgaaDoorPk11
import Derived.Test.YtanpocgojmflgaaDoorPk16
import Derived.Test.YtanpocgojmflgaaDoorStLg
import Derived.Test.YtanpocgojmflgaaDoorRfHS
import Derived.Test.YtanpocgojmflgaaDoorRfEn
import Derived.Test.YtanpocgojmflgaaDoorPk7
import Derived.Test.YtanpocgojmflgaaDoorPk4
import Derived.Deep.RegionHeld3
import Derived.Deep.RegionWith
import Derived.Deep.DeepCutAuto
namespace Go.Proofs.YtanpocgojmflgaaDoor
open Go.RowKit

/-- how many bytes the upload has that Get answers -/
theorem getU_len (s : Sp.St) (S : Nat → Prop) (g : Nat) (id : Int) (w : World) (h : SpoolAt w S g s) (ok : Sp.Ok s) :
    Calls Tryd.prog 16 #[.pointer (some ⟨g, 0, none⟩), .int .i64 id] w fun e w' => ∃ (i z st : Int) (m : ByteArray) (bo : Option Addr) (bc : Nat) (b : Bool), e = .returned (.tuple #[.agg #[.int .i64 i, .int .i64 z, .string m, .slice bo (Sr.lenOf s id) bc, .int .i64 st], .bool b]) ∧ Below w.heap.size w w' := by
  cases hp : Sp.place s.l id with
  | none => exact (getU_none s S g id w h ok hp).mono fun e w' ⟨h1, h2⟩ => ⟨0, 0, 0, _, none, 0, false, by rw [Sr.lenOf_none hp]; exact h1, h2⟩
  | some i => exact (getU_some s S g id i w h ok hp (Sp.place_lt hp)).mono fun e w' ⟨ao, cap, h1, _, h2⟩ => ⟨_, _, _, _, ao, cap, true, by rw [Sr.lenOf_some hp]; exact h1, h2⟩
theorem all_text {es : List Jn.E} {e : Jn.E} (h : e ∈ es) : e.text.length ≤ (Jn.all es).length := by
  have h4 : (Jn.enc e).length ≤ ((es.map Jn.enc).flatten).length := (List.sublist_flatten_of_mem (List.mem_map_of_mem h)).length_le
  have := enc_ge e
  unfold Jn.all
  omega
theorem row5 {W : World} {g t : Nat} {c0 c1 c2 c3 c4 : Value} (h : W.heap[g]? = some (.cells #[c0, c1, c2, c3, c4] t (0, 0))) : (W.cell? ⟨g, 0, none⟩ = some c0 ∧ W.cell? ⟨g, 1, none⟩ = some c1 ∧ W.cell? ⟨g, 2, none⟩ = some c2 ∧ W.cell? ⟨g, 3, none⟩ = some c3 ∧ W.cell? ⟨g, 4, none⟩ = some c4) ∧ (W.frozen? ⟨g, 0, none⟩ = false ∧ W.frozen? ⟨g, 1, none⟩ = false ∧ W.frozen? ⟨g, 2, none⟩ = false ∧ W.frozen? ⟨g, 3, none⟩ = false ∧ W.frozen? ⟨g, 4, none⟩ = false) :=
  ⟨⟨cell_of_row W g 0 _ _ _ h, cell_of_row W g 1 _ _ _ h, cell_of_row W g 2 _ _ _ h, cell_of_row W g 3 _ _ _ h, cell_of_row W g 4 _ _ _ h⟩, frozen_of_row W g 0 _ _ h, frozen_of_row W g 1 _ _ h, frozen_of_row W g 2 _ _ h, frozen_of_row W g 3 _ _ h, frozen_of_row W g 4 _ _ h⟩
/-- one store -/
structure Uno (w W : World) (gs : Nat) (s : Sr.Sh) (A : Nat → Prop) : Prop where
  st : StAt W A gs s
  a : ∀ k, A k → w.heap.size ≤ k ∧ k < W.heap.size
  below : Below w.heap.size w W
theorem Uno.turn {w W W' : World} {gs : Nat} {s s' : Sr.Sh} {A : Nat → Prop} (h : Uno w W gs s A) (hr : StAt W' (orNew A W) gs s') (ht : Turns A W W') : Uno w W' gs s' (fun k => A k ∨ (W.heap.size ≤ k ∧ k < W'.heap.size)) := by
  have hsz := h.below.size
  have hs2 := ht.size
  refine ⟨hr.mono (fun k hk e => ?_), fun k e => ?_, h.below.trans (ht.below (fun k e => (h.a k e).1) hsz)⟩
  · rcases e with e | e
    · exact Or.inl e
    · exact Or.inr ⟨e, hk⟩
  · rcases e with e | e
    · have := h.a k e; exact ⟨this.1, by omega⟩
    · exact ⟨by omega, e.2⟩
theorem Uno.stay {w W W' : World} {gs : Nat} {s : Sr.Sh} {A : Nat → Prop} (h : Uno w W gs s A) (hb : Below W.heap.size W W') : Uno w W' gs s A := by
  have := hb.size
  exact ⟨h.st.stay hb, fun k e => ⟨(h.a k e).1, by have := (h.a k e).2; omega⟩, then_ h.below hb⟩
/-- what the loop over entries keeps -/
structure ReIn (w W : World) (gs gt : Nat) (s : Sr.Sh) (es : List Jn.E) (k : Nat) (ea : Option Addr) (ec : Nat) (A B C E : Nat → Prop) : Prop where
  tri : Tri w W gs gt s (Sr.redone es k) [] none 0 A B C
  ens : EnsAt W E 51 ea ec es
  e : ∀ j, E j → j < W.heap.size ∧ ¬ B j
theorem ReIn.stay {w W W' : World} {gs gt : Nat} {s : Sr.Sh} {es : List Jn.E} {k : Nat} {ea : Option Addr} {ec : Nat} {A B C E : Nat → Prop} (h : ReIn w W gs gt s es k ea ec A B C E) (hb : Below W.heap.size W W') : ReIn w W' gs gt s es k ea ec A B C E := by
  have := hb.size
  exact ⟨h.tri.stay hb, h.ens.stay hb, fun j e => ⟨by have := (h.e j e).1; omega, (h.e j e).2⟩⟩
theorem ReIn.turn {w W W' : World} {gs gt : Nat} {s : Sr.Sh} {es : List Jn.E} {k : Nat} {ea : Option Addr} {ec : Nat} {A B C E : Nat → Prop} (h : ReIn w W gs gt s es k ea ec A B C E) (hr : StAt W' (orNew B W) gt (Sr.redone es (k + 1))) (ht : Turns B W W') : ∃ B', ReIn w W' gs gt s es (k + 1) ea ec A B' C E := by
  refine ⟨_, h.tri.snd hr ht, h.ens.turns ht (fun j e => (h.e j e).2), fun j e => ⟨by have := (h.e j e).1; have := ht.size; omega, fun e2 => ?_⟩⟩
  rcases e2 with e2 | e2
  · exact (h.e j e).2 e2
  · have := (h.e j e).1; omega
set_option maxRecDepth 100000 in
set_option maxHeartbeats 40000000 in
theorem storeAgain_any (l : List Stp) (ao : Option Addr) (cap n : Nat) (l2 : List Stp) (ao2 : Option Addr) (cap2 n2 : Nat) (keep again : Int) (w : World) (hl : IsV w ao cap n (stpV l)) (hn : l.length = n) (hz : ∀ p ∈ l, p.text.size ≤ 140737488355328) (hN : n ≤ 9223372036854775807)
    (hl2 : IsV w ao2 cap2 n2 (stpV l2)) (hn2 : l2.length = n2) (hz2 : ∀ p ∈ l2, p.text.size ≤ 140737488355328) (hN2 : n2 ≤ 9223372036854775807) :
    Calls Tryd.prog 4 #[.slice ao n cap, .slice ao2 n2 cap2, .int .i64 keep, .int .i64 again] w fun e w' => e = .returned (.bool true) ∧ Below w.heap.size w w' := by
  subst hn
  subst hn2
  have hcap := hl.1
  have hcap2 := hl2.1
  have H := Hid.mk' hl; have H2 := Hid.mk' hl2
  have HSb := Hid.mk' (storeBegun_any w)
  have HG : Hid (∀ W, Below w.heap.size w W → Calls Tryd.prog 6 #[.slice ao l.length cap] W fun e w' => ∃ b : Bool, e = .returned (.bool b) ∧ (b = false → l.length ≤ 150 ∧ stpN l ≤ 20000) ∧ w' = W) := fun W hW => greatStore_any l ao cap l.length W (hl.stay hW) rfl hz hN
  have HG2 : Hid (∀ W, Below w.heap.size w W → Calls Tryd.prog 6 #[.slice ao2 l2.length cap2] W fun e w' => ∃ b : Bool, e = .returned (.bool b) ∧ (b = false → l2.length ≤ 150 ∧ stpN l2 ≤ 20000) ∧ w' = W) := fun W hW => greatStore_any l2 ao2 cap2 l2.length W (hl2.stay hW) rfl hz2 hN2
  clear hl hz hl2 hz2
  go_enter Tryd.func4, Tryd.ntmps4
  go_wp2_with fail
  refine HSb.out.mono ?_
  rintro e w1 ⟨rfl, hb1⟩
  have HB1 := Hid.mk' hb1
  have HGa := Hid.mk' (HG.out w1 hb1)
  have HGb := Hid.mk' (HG2.out w1 hb1)
  clear hb1 HG HG2 HSb
  go_wp2_with fail
  refine HGa.out.mono ?_
  rintro e w1' ⟨b, rfl, hsm, hw1⟩
  rw [hw1]
  clear hw1 w1' HGa
  cases b with
  | true =>
    go_wp2
    go_ret
    exact ⟨rfl, HB1.out⟩
  | false =>
    obtain ⟨h150, h20⟩ := hsm rfl
    clear hsm
    go_wp2_with fail
    refine HGb.out.mono ?_
    rintro e w1' ⟨b, rfl, hsm, hw1⟩
    rw [hw1]
    clear hw1 w1' HGb
    cases b with
    | true =>
      go_wp2
      go_ret
      exact ⟨rfl, HB1.out⟩
    | false =>
      obtain ⟨h150b, h20b⟩ := hsm rfl
      clear hsm
      have HNw := Hid.mk' (fun W => newSt_any W)
      go_wp2_with fail
      refine (HNw.out w1).mono ?_
      rintro e w2 ⟨gs, rfl, hS2, hb2⟩
      have HU2 : Hid (Uno w1 w2 gs Sr.new (fun k => w1.heap.size ≤ k ∧ k < w2.heap.size)) := ⟨hS2.mono (fun k hk e => ⟨e, hk⟩), fun k e => e, hb2⟩
      clear hS2 hb2
      have HW : Hid (∀ W, Below w1.heap.size w1 W → IsV W ao cap l.length (stpV l)) := fun W hW => H.out.stay (HB1.out.trans (hW.mono HB1.out.size))
      have HW2 : Hid (∀ W, Below w1.heap.size w1 W → IsV W ao2 cap2 l2.length (stpV l2)) := fun W hW => H2.out.stay (HB1.out.trans (hW.mono HB1.out.size))
      have HBe : Hid (∀ W, Below w1.heap.size w1 W → Below w.heap.size w W) := fun W hW => HB1.out.trans (hW.mono HB1.out.size)
      clear H H2 HB1
      go_wp2
      go_loopw [10] (fun t wr => ∃ (k : Nat) (s : Sr.Sh) (A : Nat → Prop), k ≤ l.length ∧ t = .int .i64 k ∧ Sr.Ok s ∧ (∃ es m, Sr.Hist s es m) ∧ Uno w1 wr gs s A) (fun t _ => l.length - (intOf t).toNat)
      case atStart => exact ⟨0, Sr.new, _, Nat.zero_le _, rfl, Sr.Ok.new, ⟨_, _, Sr.Hist.new⟩, HU2.out⟩
      case round =>
        obtain ⟨k, s, A, hk, rfl, ok, hh, hU⟩ := hrel
        have HU := Hid.mk' hU; have HH := Hid.mk' hh; have HOk := Hid.mk' ok
        clear hU hh ok HU2
        by_cases hlt : k < l.length
        · obtain ⟨bb, oo, ha, hc0, hc1, hc2, hc3⟩ := stp_at (HW.out _ HU.out.below) k hlt
          subst ha
          have hlt' : (k : Int) < l.length := by omega
          have hm : l[k].text.size ≤ 1000000 := by have := stpN_one l k hlt; omega
          have HSt := Hid.mk' (step_any HU.out.st HOk.out l[k] hm)
          have HSp : Hid (∀ e w', StRan A wr gs s l[k] e w' → (∃ a c : Int, e = .returned (.tuple #[.int .i64 a, .int .i64 c])) ∧ (∃ A', Uno w1 w' gs (Sr.step s l[k]).1 A') ∧ Sr.Ok (Sr.step s l[k]).1 ∧ ∃ es m, Sr.Hist (Sr.step s l[k]).1 es m) := fun e w' hd => ⟨⟨_, _, hd.ret⟩, ⟨_, HU.out.turn hd.at_ hd.turns⟩, HOk.out.step _, by
            obtain ⟨es, m, h⟩ := HH.out
            exact h.any _⟩
          generalize (Sr.step s l[k]).1 = s2 at *
          generalize l[k] = p at *
          clear HU HH HOk
          go_wp2_with fail
          refine HSt.out.mono ?_
          intro e w6 hd
          obtain ⟨⟨a, c, rfl⟩, ⟨A', hU'⟩, hOk', hH'⟩ := HSp.out _ _ hd
          have HU' := Hid.mk' hU'; have HH' := Hid.mk' hH'; have HO' := Hid.mk' hOk'
          clear hd hU' hOk' hH' HSp HSt
          go_wp2
          go_roundw
          case rel => exact ⟨k + 1, s2, A', by omega, by go_num, HO'.out, HH'.out, HU'.out⟩
          case measure => simp [intOf]; omega
        · obtain rfl : k = l.length := by omega
          obtain ⟨es0, m0, hh0⟩ := HH.out
          obtain ⟨es, hh⟩ := Sr.hist_crash hh0 keep
          have HC1 := Hid.mk' (crashSt_any HU.out.st HOk.out keep)
          have ok1 := HOk.out.crash keep
          have HUt : Hid (∀ w', StFell A wr gs (Sr.crash s keep) w' → ∃ A', Uno w1 w' gs (Sr.crash s keep) A') := fun w' hd => ⟨_, HU.out.turn hd.at_ hd.turns⟩
          clear hlt hh0 HH HOk HU HW
          generalize Sr.crash s keep = s1 at *
          go_wp2_with fail
          refine HC1.out.mono ?_
          rintro e w6 ⟨rfl, hF⟩
          obtain ⟨A6, hU6⟩ := HUt.out _ hF
          have HU6 := Hid.mk' hU6
          obtain ⟨ks, kl, kao, kca, P1, hst⟩ := hU6.st
          obtain ⟨⟨y0, _⟩, _⟩ := row2 hst.row
          have hla := ok1.last_
          have hla0 := ok1.h.last0
          have HLs : Hid (∀ W, Below w6.heap.size w6 W → Calls Tryd.prog 8 #[.pointer (some ⟨ks, 0, none⟩)] W fun e w' => ∃ al, e = .returned (.slice al s1.h.l.length s1.h.l.length) ∧ UpsAt w' (fun k => W.heap.size ≤ k) 53 al s1.h.l.length s1.h.l ∧ Below W.heap.size W w') := fun W hW => (listU_any _ P1 _ W (hst.spool.stay hW) ok1.h.small).mono fun e w' ⟨al, h1, h2, h3⟩ => ⟨al, h1, h2.at_, h3⟩
          have HNx : Hid (∀ W, Below w6.heap.size w6 W → Calls Tryd.prog 12 #[.pointer (some ⟨ks, 0, none⟩)] W fun e w' => e = .returned (.int .i64 (s1.h.last + 1)) ∧ w' = W) := fun W hW => nextU_any _ P1 _ W (hst.spool.stay hW) hla0 (by omega)
          have HCc : Hid (∀ W, Below w6.heap.size w6 W → W.cell? ⟨gs, 0, none⟩ = some (.pointer (some ⟨ks, 0, none⟩))) := fun W hW => (hW.cell (p := ⟨gs, 0, none⟩) hst.lt).trans y0
          have HOk1 := Hid.mk' ok1; have HH1 := Hid.mk' hh
          clear hF hU6 hst HC1 HUt ok1 hh
          go_upto_region 11 with fail
          have HB0 : Hid (Below w6.heap.size w6 w6.drew) := below_drew _ _
          go_region_held3 (fun w' => w'.cell? ⟨gs, 0, none⟩ = some (.pointer (some ⟨ks, 0, none⟩))) (go_keep) (first
            | (go_at_call 8; refine (HLs.out _ HB0.out).mono ?_; rintro e w7 ⟨al, rfl, hu, hb7⟩; have hb8 := HB0.out.trans hb7; have c7 := HCc.out w7 hb8; have HUa := Hid.mk' hu; have HB7 := Hid.mk' hb8; clear hu hb7 hb8)
            | (go_at_call 12; refine (HNx.out _ (by first | with_reducible exact HB0.out | with_reducible exact HB7.out)).mono ?_; rintro e w8 ⟨rfl, hw⟩; rw [hw]; clear hw))
          have hU7 := HU6.out.stay HB7.out
          have HLg := Hid.mk' (logStS_any hU7.st)
          have HU7 := Hid.mk' hU7
          clear hU7 HLs HNx HCc HB0 c7 y0
          go_wp2_with fail
          refine HLg.out.mono ?_
          rintro e w8 ⟨a13, c13, rfl, hI8, hb8⟩
          have HC2 := Hid.mk' (crashSt_any (HU7.out.stay hb8).st HOk1.out again)
          rw [Sr.crash_again HH1.out again] at HC2
          have HN9 : Hid (∀ w9, StFell A6 w8 gs s1 w9 → (∃ A9, Uno w1 w9 gs s1 A9) ∧ IsUps w9 al s1.h.l.length s1.h.l ∧ IsB w9 a13 c13 s1.log) := fun w9 hF => by
            have e6 := HB7.out.size
            refine ⟨⟨_, (HU7.out.stay hb8).turn hF.at_ hF.turns⟩, ((HUa.out.stay hb8).turns hF.turns (fun k e e2 => ?_)).isUps, (hI8.turns hF.turns (fun k e e2 => ?_)).is⟩
            · have := (HU6.out.a k e2).2
              have e' : w6.heap.size ≤ k := e
              omega
            · have := (HU6.out.a k e2).2
              have e' : w7.heap.size ≤ k := e
              omega
          clear hI8 hb8 HLg HU6
          go_wp2_with fail
          refine HC2.out.mono ?_
          rintro e w9 ⟨rfl, hF⟩
          obtain ⟨⟨A9, hU9⟩, hw9, hl9⟩ := HN9.out _ hF
          have HLg := Hid.mk' (logStS_any hU9.st)
          have HU9 := Hid.mk' hU9; have HW9 := Hid.mk' hw9; have HL9 := Hid.mk' hl9
          clear hF hU9 hw9 hl9 HN9 HC2 HUa HU7 HB7
          go_wp2_with fail
          refine HLg.out.mono ?_
          rintro e w10 ⟨a15, c15, rfl, hI10, hb10⟩
          have hU10 := HU9.out.stay hb10
          obtain ⟨kt, jl, jao, jca, P2, hst⟩ := hU10.st
          obtain ⟨⟨z0, _⟩, _⟩ := row2 hst.row
          have HLt := Hid.mk' (listU_any _ P2 _ w10 hst.spool HOk1.out.h.small)
          have HWa : Hid (IsUps w10 al s1.h.l.length s1.h.l) := HW9.out.stay hb10
          have HLa : Hid (IsB w10 a13 c13 s1.log) := HL9.out.stay hb10
          have HLb := Hid.mk' hI10.is
          have HU10 := Hid.mk' hU10
          have HNx : Hid (∀ W, Below w10.heap.size w10 W → Calls Tryd.prog 12 #[.pointer (some ⟨kt, 0, none⟩)] W fun e w' => e = .returned (.int .i64 (s1.h.last + 1)) ∧ w' = W) := fun W hW => nextU_any _ P2 _ W (hst.spool.stay hW) hla0 (by omega)
          have HCc : Hid (∀ W, Below w10.heap.size w10 W → W.cell? ⟨gs, 0, none⟩ = some (.pointer (some ⟨kt, 0, none⟩))) := fun W hW => (hW.cell (p := ⟨gs, 0, none⟩) hst.lt).trans z0
          have hsl : s1.sure = s1.log.length := by rw [HH1.out.sure, List.take_length, HH1.out.log]
          rw [hsl]
          clear hI10 hb10 hU10 hst HU9 HW9 HL9 HLg hsl
          go_wp2_with fail
          refine HLt.out.mono ?_
          rintro e w11 ⟨al2, rfl, hU11, hb11⟩
          have HSm := Hid.mk' (sameUps_yes s1.h.l al al2 _ _ w11 (HWa.out.stay hb11) hU11.isUps (by have := HOk1.out.h.few; omega))
          have HB11 := Hid.mk' hb11
          clear hU11 hb11 HLt z0 HWa
          go_wp2_with fail
          refine HSm.out.mono ?_
          rintro e w12 ⟨rfl, q, hw12⟩
          have hb12 : Below w10.heap.size w10 w12 := by rw [hw12]; exact then_ HB11.out (below_drewsN _ q)
          have z0 := HCc.out w12 hb12
          have HNx2 := Hid.mk' (HNx.out w12 hb12)
          have HSb := Hid.mk' (sameBytes_any w12 a13 a15 c13 c15 _ _ s1.log s1.log rfl rfl (HLa.out.stay hb12) (HLb.out.stay hb12))
          rw [decide_eq_true rfl] at HSb
          have HB12 := Hid.mk' hb12
          clear hw12 hb12 HSm HB11 HNx HCc HLb
          go_wp2_with fail
          refine HNx2.out.mono ?_
          rintro e w12' ⟨rfl, hw⟩
          rw [hw]; clear hw w12' HNx2
          go_wp2_with fail
          refine HSb.out.mono ?_
          rintro e w12' ⟨rfl, hw⟩
          rw [hw]; clear hw w12' HSb
          have HU12 := Hid.mk' (HU10.out.stay HB12.out)
          have HLc : Hid (IsB w12 a13 c13 s1.log) := HLa.out.stay HB12.out
          clear HU10 HLa HB12 z0
          go_wp2_with fail
          refine (HNw.out w12).mono ?_
          rintro e w13 ⟨gt, rfl, hS13, hb13⟩
          have HE := Hid.mk' (entriesR_any s1.log a13 c13 s1.log.length w13 (HLc.out.stay hb13) rfl (by have := HOk1.out.few; omega))
          unfold DecPost at HE
          have hdec : Jn.dec s1.log = (es, s1.log.length) := by rw [HH1.out.log]; exact Sr.dec_all HH1.out.runs
          rw [hdec] at HE
          have HT13 : Hid (Tri w1 w13 gs gt s1 Sr.new [] none 0 A9 (fun k => w12.heap.size ≤ k ∧ k < w13.heap.size) (fun _ => False)) := by
            have e1 := hb13.size
            have e2 := HU12.out.below.size
            exact ⟨HU12.out.st.stay hb13, hS13.mono (fun k hk e => ⟨e, hk⟩), TsAt.nil _ _ _ _, fun k e => ⟨(HU12.out.a k e).1, by have := (HU12.out.a k e).2; omega, fun e3 => by have := (HU12.out.a k e).2; omega, fun e => e⟩, fun k e => ⟨by omega, e.2, fun e => e⟩, fun _ e => e.elim, then_ HU12.out.below hb13⟩
          clear hS13 hb13 HLc HU12 hdec HNw
          go_wp2_with fail
          refine HE.out.mono ?_
          rintro e w14 ⟨ea, ec, rfl, hE14, hb14⟩
          have HR14 : Hid (∃ B E, ReIn w1 w14 gs gt s1 es 0 ea ec A9 B (fun _ => False) E) := by
            refine ⟨_, fun k => w13.heap.size ≤ k ∧ k < w14.heap.size, by rw [Sr.redone_zero]; exact HT13.out.stay hb14, hE14.mono (fun k hk e => ⟨e, hk⟩), fun j e => ⟨e.2, fun e2 => by omega⟩⟩
          have hee := ens_cap hE14.isEns
          clear hE14 hb14 HE HT13
          go_wp2
          go_loopw [20] (fun t wr => ∃ (k : Nat) (B E : Nat → Prop), k ≤ es.length ∧ t = .int .i64 k ∧ ReIn w1 wr gs gt s1 es k ea ec A9 B (fun _ => False) E) (fun t _ => es.length - (intOf t).toNat)
          case atStart =>
            obtain ⟨B, E, h⟩ := HR14.out
            exact ⟨0, B, E, Nat.zero_le _, rfl, h⟩
          case round =>
            obtain ⟨k, B, E, hk, rfl, hR⟩ := hrel
            have HR := Hid.mk' hR
            clear hR HR14
            have hall : (Jn.all es).length ≤ 100000 := by have := HOk1.out.few; rw [HH1.out.log] at this; exact this
            have hel : es.length ≤ 100000 := by have := Sr.all_ge es; omega
            by_cases hlt : k < es.length
            · obtain ⟨bb, oo, q, ha, hc0, hc1, hc2, hc3, hIB⟩ := HR.out.ens.isEns.at_ k hlt
              subst ha
              have hlt' : (k : Int) < es.length := by omega
              have hkd := ((Jn.fits_iff es[k]).1 (HH1.out.runs.fits _ (List.getElem_mem hlt))).1
              have htx : es[k].text.length ≤ 1000000 := by have := all_text (List.getElem_mem hlt); omega
              have HRs := Hid.mk' (Sr.redone_step HH1.out.runs hall hlt)
              have HRo := Hid.mk' (Sr.redone_ok es hall k)
              have hwk : IntKind.i64.wrap (es[k].kind - 1) = es[k].kind - 1 := wrap_id (by omega) (by omega)
              have HKp : Hid (∀ W, Below wr.heap.size wr W → W.cell? ⟨bb, oo + k * 4, none⟩ = some (.int .i64 es[k].kind) ∧ W.cell? ⟨bb, oo + k * 4 + 1, none⟩ = some (.int .i64 es[k].id) ∧ W.cell? ⟨bb, oo + k * 4 + 2, none⟩ = some (.int .i64 es[k].n) ∧ W.cell? ⟨bb, oo + k * 4 + 3, none⟩ = some (.slice q.bo es[k].text.length q.bcap) ∧ (convert 43 9 (.slice q.bo es[k].text.length q.bcap)).run Tryd.prog W = .ok (.string (Sr.ofL es[k].text)) W) := fun W hW => by
                have hbl := World.block_lt_of_cell? wr _ hc0
                exact ⟨(hW.cell (p := ⟨bb, oo + k * 4, none⟩) hbl).trans hc0, (hW.cell (p := ⟨bb, oo + k * 4 + 1, none⟩) hbl).trans hc1, (hW.cell (p := ⟨bb, oo + k * 4 + 2, none⟩) hbl).trans hc2, (hW.cell (p := ⟨bb, oo + k * 4 + 3, none⟩) hbl).trans hc3, (hIB.stay hW).str (P := Tryd.prog) 43 9 5 Tryd.underlying43 Tryd.underlying5 Tryd.underlying9⟩
              have HSt : Hid (∀ W nn, nn = (if es[k].kind = 2 then (Sr.lenOf (Sr.playAll Sp.new (es.take k)) es[k].id : Int) else es[k].n) → Below wr.heap.size wr W → Calls Tryd.prog 9 #[.pointer (some ⟨gt, 0, none⟩), .agg #[.int .i64 (es[k].kind - 1), .int .i64 es[k].id, .int .i64 nn, .string (Sr.ofL es[k].text)]] W fun e w' => (∃ a : Int, e = .returned (.tuple #[.int .i64 a, .int .i64 0])) ∧ ∃ B', ReIn w1 w' gs gt s1 es (k + 1) (some ⟨bb, oo, none⟩) ec A9 B' (fun _ => False) E) := fun W nn hnn hW => by
                have hR := HR.out.stay hW
                subst hnn
                refine (step_any hR.tri.s2 HRo.out (Sr.again (Sr.playAll Sp.new (es.take k)) es[k]) (by show (Sr.ofL es[k].text).size ≤ 1000000; rw [Sr.ofL_size]; exact htx)).mono fun e w' hd => ?_
                have h1 := hd.ret; have h2 := hd.at_
                rw [HRs.out] at h1 h2
                exact ⟨⟨_, h1⟩, hR.turn h2 hd.turns⟩
              have HGt : Hid (∀ W, Below wr.heap.size wr W → ∃ kt, W.cell? ⟨gt, 0, none⟩ = some (.pointer (some ⟨kt, 0, none⟩)) ∧ ∀ W', Below W.heap.size W W' → W'.cell? ⟨gt, 0, none⟩ = some (.pointer (some ⟨kt, 0, none⟩)) ∧ Calls Tryd.prog 16 #[.pointer (some ⟨kt, 0, none⟩), .int .i64 es[k].id] W' fun e w' => ∃ (i z st : Int) (m : ByteArray) (bo : Option Addr) (bc : Nat) (b : Bool), e = .returned (.tuple #[.agg #[.int .i64 i, .int .i64 z, .string m, .slice bo (Sr.lenOf (Sr.playAll Sp.new (es.take k)) es[k].id) bc, .int .i64 st], .bool b]) ∧ Below W'.heap.size W' w') := fun W hW => by
                obtain ⟨kt, jl, jao, jca, P2, hst⟩ := (HR.out.stay hW).tri.s2
                refine ⟨kt, (row2 hst.row).1.1, fun W' hW' => ⟨(hW'.cell (p := ⟨gt, 0, none⟩) hst.lt).trans (row2 hst.row).1.1, getU_len _ P2 kt es[k].id W' (hst.spool.stay hW') HRo.out.h⟩⟩
              have HLt := Hid.mk' hlt
              clear hIB htx HR HRs HRo
              generalize es[k] = p at *
              generalize Sr.ofL p.text = tx at *
              generalize p.text.length = tn at *
              obtain ⟨nn, hnn⟩ : ∃ nn : Int, nn = (if p.kind = 2 then (Sr.lenOf (Sr.playAll Sp.new (es.take k)) p.id : Int) else p.n) := ⟨_, rfl⟩
              have HNn := Hid.mk' hnn
              clear hnn
              go_upto_region 24 with fail
              go_region_held3 (fun W => W.cell? ⟨bb, oo + k * 4, none⟩ = some (.int .i64 p.kind) ∧ W.cell? ⟨bb, oo + k * 4 + 1, none⟩ = some (.int .i64 p.id) ∧ W.cell? ⟨bb, oo + k * 4 + 2, none⟩ = some (.int .i64 p.n) ∧ W.cell? ⟨bb, oo + k * 4 + 3, none⟩ = some (.slice q.bo tn q.bcap) ∧ (convert 43 9 (.slice q.bo tn q.bcap)).run Tryd.prog W = .ok (.string tx) W) (exact HKp.out _ (by first | exact below_drew _ _ | exact (below_drew _ _).alloc (Nat.le_refl _) _ | (refine Below.setCell (p := ⟨wr.heap.size, 3, none⟩) (Below.setCell (p := ⟨wr.heap.size, 2, none⟩) (Below.setCell (p := ⟨wr.heap.size, 1, none⟩) (Below.setCell (p := ⟨wr.heap.size, 0, none⟩) ((below_drew _ _).alloc (Nat.le_refl _) _) (Nat.le_refl _) _) (Nat.le_refl _) _) (Nat.le_refl _) _) (Nat.le_refl _) _))) (fail)
              have hbx : Below wr.heap.size wr (wr.alloc (.cells #[.int .i64 (p.kind - 1), .int .i64 p.id, .int .i64 p.n, .string tx] 37)).drew := ((Below.refl _ wr).alloc (Nat.le_refl _) _).trans (below_drew _ _)
              have hrx : (wr.alloc (.cells #[.int .i64 (p.kind - 1), .int .i64 p.id, .int .i64 p.n, .string tx] 37)).drew.heap[wr.heap.size]? = some (.cells #[.int .i64 (p.kind - 1), .int .i64 p.id, .int .i64 p.n, .string tx] 37 (0, 0)) := heap_alloc_new wr _
              clear HKp hc0 hc1 hc2 hc3
              generalize (wr.alloc (.cells #[.int .i64 (p.kind - 1), .int .i64 p.id, .int .i64 p.n, .string tx] 37)).drew = wx at *
              obtain ⟨⟨x0, x1, x2, x3⟩, f0, f1, f2, f3⟩ := row4 hrx
              have HRx := Hid.mk' hrx; have HBx := Hid.mk' hbx
              clear hrx hbx
              go_upto_if 153 with fail
              go_cut [22] (fun _ wd => wd.heap[wr.heap.size]? = some (.cells #[.int .i64 (p.kind - 1), .int .i64 p.id, .int .i64 nn, .string tx] 37 (0, 0)) ∧ Below wr.heap.size wr wd)
              case first =>
                by_cases hk2 : p.kind = 2
                · have e := HNn.out
                  rw [if_pos hk2] at e
                  obtain ⟨kt, t0, hkt⟩ := HGt.out wx HBx.out
                  have HKt := Hid.mk' hkt
                  rw [hk2] at x0 ⊢
                  have hlx : wr.heap.size < wx.heap.size := (Array.getElem?_eq_some_iff.1 HRx.out).1
                  clear hkt HSt HGt
                  generalize Sr.lenOf (Sr.playAll Sp.new (es.take k)) p.id = LN at *
                  have HE := Hid.mk' e
                  clear e
                  go_upto_region 26 with fail
                  go_cut [22] (fun v wd => ∃ (ub : Nat) (bo : Option Addr) (bc : Nat), v = .pointer (some ⟨ub, 0, none⟩) ∧ wd.cell? ⟨ub, 3, none⟩ = some (.slice bo LN bc) ∧ Below wx.heap.size wx wd)
                  case first =>
                    have HB0 : Hid (Below wx.heap.size wx wx.drew) := below_drew _ _
                    have hn1 : ¬ wx.heap.size = gt := fun e => by have h : gt < wx.heap.size := World.block_lt_of_cell? wx _ t0; omega
                    have hn2 : ¬ wx.heap.size = wr.heap.size := by omega
                    have HCc : Hid (∀ W, Below wx.heap.size wx W → W.cell? ⟨gt, 0, none⟩ = some (.pointer (some ⟨kt, 0, none⟩)) ∧ W.cell? ⟨wr.heap.size, 1, none⟩ = some (.int .i64 p.id)) := fun W hW => ⟨(HKt.out W hW).1, (hW.cell (p := ⟨wr.heap.size, 1, none⟩) hlx).trans x1⟩
                    go_region_held3 (fun W => W.cell? ⟨gt, 0, none⟩ = some (.pointer (some ⟨kt, 0, none⟩)) ∧ W.cell? ⟨wr.heap.size, 1, none⟩ = some (.int .i64 p.id)) (go_keep) (first | (go_at_call 16; refine ((HKt.out _ (by first | exact HB0.out | exact HB0.out.alloc (Nat.le_refl _) _)).2).mono ?_; rintro e v1 ⟨gi, gz, gst, gm, gbo, gbc, gb, rfl, hv1⟩; have hbv := then_ (by first | exact HB0.out | exact HB0.out.alloc (Nat.le_refl _) _) hv1; obtain ⟨q0, q1⟩ := HCc.out v1 hbv; have HV1 := Hid.mk' hv1; have HV2 := Hid.mk' hbv; (first | (have hnb := (hv1.block wx.heap.size (by simp)).trans (heap_alloc_new wx.drew (.cells #[.int .i64 0, .int .i64 0, .string ⟨#[]⟩, .slice none 0 0, .int .i64 0] 53)); obtain ⟨⟨s0, s1', s2', s3, s4⟩, r0, r1, r2, r3, r4⟩ := row5 hnb; have HNb := Hid.mk' hnb; clear hnb) | skip); clear hv1 hbv))
                    all_goals
                      (try go_wp2)
                      go_meet
                      first
                        | exact ⟨_, gbo, gbc, rfl, cell_of_row _ _ 3 _ _ _ (heap_setCell_same _ _ 4 _ _ (.int .i64 gst) (heap_setCell_same _ _ 3 _ _ (.slice gbo LN gbc) (heap_setCell_same _ _ 2 _ _ (.string gm) (heap_setCell_same _ _ 1 _ _ (.int .i64 gz) (heap_setCell_same _ _ 0 _ _ (.int .i64 gi) HNb.out))))), ((((HV2.out.setCell (p := ⟨wx.heap.size, 0, none⟩) (Nat.le_refl _) _).setCell (p := ⟨wx.heap.size, 1, none⟩) (Nat.le_refl _) _).setCell (p := ⟨wx.heap.size, 2, none⟩) (Nat.le_refl _) _).setCell (p := ⟨wx.heap.size, 3, none⟩) (Nat.le_refl _) _).setCell (p := ⟨wx.heap.size, 4, none⟩) (Nat.le_refl _) _⟩
                        | exact ⟨_, gbo, gbc, rfl, World.cell?_alloc_mark v1 _ _ _ 3, HV2.out.alloc HV2.out.size _⟩
                  case rest =>
                    obtain ⟨ub, bo, bc, rfl, hub, hbd⟩ := hcut
                    have hrw := (hbd.block wr.heap.size hlx).trans HRx.out
                    obtain ⟨⟨g0, g1, g2, g3⟩, k0, k1, k2, k3⟩ := row4 hrw
                    have HR2 : Hid (∀ W, W = _ → W.heap[wr.heap.size]? = some (.cells #[.int .i64 (2 - 1), .int .i64 p.id, .int .i64 nn, .string tx] 37 (0, 0)) ∧ Below wr.heap.size wr W) := fun W (hW : W = _) => by
                      have := heap_setCell_same _ wr.heap.size 2 _ _ (.int .i64 (LN : Int)) hrw
                      rw [hW, HE.out]
                      rw [hk2] at this
                      exact ⟨this, (HBx.out.trans (hbd.mono (Nat.le_of_lt hlx))).setCell (p := ⟨wr.heap.size, 2, none⟩) (Nat.le_refl _) _⟩
                    have HHu := Hid.mk' hk2
                    clear hrw hbd
                    go_wp2
                    go_meet
                    rw [HHu.out]
                    exact HR2.out _ rfl
                · have e := HNn.out
                  rw [if_neg hk2] at e
                  have tk : (p.kind - 1 == 1) = false := by rw [beq_eq_false_iff_ne]; omega
                  have HR2 : Hid (wx.heap[wr.heap.size]? = some (.cells #[.int .i64 (p.kind - 1), .int .i64 p.id, .int .i64 nn, .string tx] 37 (0, 0))) := by rw [e]; exact HRx.out
                  clear e
                  go_wp2
                  go_meet
                  exact ⟨HR2.out, HBx.out⟩
              case rest =>
                obtain ⟨hrw, hbw⟩ := hcut
                clear x0 x1 x2 x3 f0 f1 f2 f3
                obtain ⟨⟨x0, x1, x2, x3⟩, f0, f1, f2, f3⟩ := row4 hrw
                have HS2 := Hid.mk' (HSt.out _ nn HNn.out hbw)
                clear hrw hbw HSt HGt HRx HBx HNn
                go_wp2_with fail
                refine HS2.out.mono ?_
                rintro e w20 ⟨⟨a, rfl⟩, B', hR20⟩
                have HR20 := Hid.mk' hR20
                clear hR20 HS2
                go_wp2
                go_roundw
                case rel => exact ⟨k + 1, B', E, HLt.out, by go_num, HR20.out⟩
                case measure => have := HLt.out; simp [intOf]; omega
            · obtain rfl : k = es.length := by omega
              have HSy := Hid.mk' (syncSt_any HR.out.tri.s2)
              rw [Sr.redone_end HH1.out] at HSy
              have HT0 : Hid (∀ w', StAt w' B gt s1 → Turns B wr w' → ∃ A B C, Tri w1 w' gs gt s1 s1 [] none 0 A B C) := fun w' h1 h2 => ⟨_, _, _, HR.out.tri.snd (h1.mono (fun _ _ e => Or.inl e)) h2⟩
              clear HR HH1 hlt
              go_wp2_with fail
              refine HSy.out.mono ?_
              rintro e w15 ⟨rfl, hA15, hT15⟩
              have HT15 := Hid.mk' (HT0.out _ hA15 hT15)
              clear hA15 hT15 HT0 HSy
              go_wp2
              go_loopw [26] (fun t wq => ∃ (k : Nat) (s : Sr.Sh) (A B C : Nat → Prop), k ≤ l2.length ∧ t = .int .i64 k ∧ Sr.Ok s ∧ Tri w1 wq gs gt s s [] none 0 A B C) (fun t _ => l2.length - (intOf t).toNat)
              case atStart =>
                obtain ⟨A, B, C, h⟩ := HT15.out
                exact ⟨0, s1, A, B, C, Nat.zero_le _, rfl, HOk1.out, h⟩
              case round =>
                obtain ⟨k, s, A, B, C, hk, rfl, ok, hD⟩ := hrel
                have HS := Hid.mk' hD; have HOk := Hid.mk' ok
                clear hD ok HT15
                by_cases hlt : k < l2.length
                · obtain ⟨bb, oo, ha, hc0, hc1, hc2, hc3⟩ := stp_at (HW2.out _ HS.out.below) k hlt
                  subst ha
                  have HC : Hid (∀ W, Below w1.heap.size w1 W → W.cell? ⟨bb, oo + k * 4, none⟩ = some (.int .i64 l2[k].op) ∧ W.cell? ⟨bb, oo + k * 4 + 1, none⟩ = some (.int .i64 l2[k].id) ∧ W.cell? ⟨bb, oo + k * 4 + 2, none⟩ = some (.int .i64 l2[k].n) ∧ W.cell? ⟨bb, oo + k * 4 + 3, none⟩ = some (.string l2[k].text)) := fun W hW => by
                    obtain ⟨b', o', e, h⟩ := stp_at (HW2.out W hW) k hlt
                    injection e with e; injection e with e1 e2; subst e1; subst e2
                    exact h
                  have hlt' : (k : Int) < l2.length := by omega
                  have hm : l2[k].text.size ≤ 1000000 := by have := stpN_one l2 k hlt; omega
                  have HSt := Hid.mk' (step_any HS.out.s1 HOk.out l2[k] hm)
                  have HRt : Hid (∀ W A', Tri w1 W gs gt (Sr.step s l2[k]).1 s [] none 0 A' B C → Calls Tryd.prog 9 #[.pointer (some ⟨gt, 0, none⟩), .agg #[.int .i64 l2[k].op, .int .i64 l2[k].id, .int .i64 l2[k].n, .string l2[k].text]] W (StRan B W gt s l2[k])) := fun W A' hW => step_any hW.s2 HOk.out l2[k] hm
                  have ok2 := HOk.out.step l2[k]
                  clear hm
                  have HSp : Hid (∀ e w', StRan A wr gs s l2[k] e w' → e = .returned (.tuple #[.int .i64 (Sr.gave_ s l2[k]), .int .i64 ((Sr.step s l2[k]).2 : Int)]) ∧ ∃ A', Tri w1 w' gs gt (Sr.step s l2[k]).1 s [] none 0 A' B C) := fun e w' hd => ⟨hd.ret, _, HS.out.fst hd.at_ hd.turns⟩
                  have HRp : Hid (∀ W A' e w', Tri w1 W gs gt (Sr.step s l2[k]).1 s [] none 0 A' B C → StRan B W gt s l2[k] e w' → e = .returned (.tuple #[.int .i64 (Sr.gave_ s l2[k]), .int .i64 ((Sr.step s l2[k]).2 : Int)]) ∧ ∃ B', Tri w1 w' gs gt (Sr.step s l2[k]).1 (Sr.step s l2[k]).1 [] none 0 A' B' C) := fun W A' e w' hW hd => ⟨hd.ret, _, hW.snd hd.at_ hd.turns⟩
                  have HO2 := Hid.mk' ok2
                  clear ok2 HS
                  generalize (Sr.step s l2[k]).1 = s2 at *
                  generalize (Sr.step s l2[k]).2 = c at *
                  generalize Sr.gave_ s l2[k] = nu at *
                  generalize l2[k] = p at *
                  go_wp2_with fail
                  refine HSt.out.mono ?_
                  intro e w16 hd
                  obtain ⟨rfl, A', hD6⟩ := HSp.out _ _ hd
                  clear hc0 hc1 hc2 hc3
                  obtain ⟨hc0, hc1, hc2, hc3⟩ := HC.out w16 hD6.below
                  have HD6 := Hid.mk' hD6
                  have HR6 := Hid.mk' (HRt.out w16 A' hD6)
                  clear hd hD6 HSt HRt HSp
                  go_wp2_with fail
                  refine HR6.out.mono ?_
                  intro e w17 hd
                  obtain ⟨rfl, B', hD7⟩ := HRp.out _ _ _ _ HD6.out hd
                  obtain ⟨ks, kl, kao, kca, P1, hst⟩ := hD7.s1
                  obtain ⟨kt, jl, jao, jca, P2, hss⟩ := hD7.s2
                  obtain ⟨⟨y0, _⟩, _⟩ := row2 hst.row
                  obtain ⟨⟨z0, _⟩, _⟩ := row2 hss.row
                  have HL1 : Hid (∀ W, Below w17.heap.size w17 W → Calls Tryd.prog 8 #[.pointer (some ⟨ks, 0, none⟩)] W fun e w' => ∃ al, e = .returned (.slice al s2.h.l.length s2.h.l.length) ∧ IsUps w' al s2.h.l.length s2.h.l ∧ Below W.heap.size W w' ∧ Below w17.heap.size w17 w') := fun W hW => (listU_any _ P1 _ W (hst.spool.stay hW) HO2.out.h.small).mono fun e w' ⟨al, h1, h2, h3⟩ => ⟨al, h1, h2.isUps, h3, then_ hW h3⟩
                  have HL2 : Hid (∀ W, Below w17.heap.size w17 W → Calls Tryd.prog 8 #[.pointer (some ⟨kt, 0, none⟩)] W fun e w' => ∃ al, e = .returned (.slice al s2.h.l.length s2.h.l.length) ∧ IsUps w' al s2.h.l.length s2.h.l ∧ Below W.heap.size W w' ∧ Below w17.heap.size w17 w') := fun W hW => (listU_any _ P2 _ W (hss.spool.stay hW) HO2.out.h.small).mono fun e w' ⟨al, h1, h2, h3⟩ => ⟨al, h1, h2.isUps, h3, then_ hW h3⟩
                  have HSU : Hid (∀ W al al2, IsUps W al s2.h.l.length s2.h.l → IsUps W al2 s2.h.l.length s2.h.l → Below w17.heap.size w17 W → Calls Tryd.prog 11 #[.slice al s2.h.l.length s2.h.l.length, .slice al2 s2.h.l.length s2.h.l.length] W fun e w' => e = .returned (.bool true) ∧ Below w17.heap.size w17 w') := fun W al al2 h1 h2 hW => (sameUps_yes _ al al2 _ _ W h1 h2 (by have := HO2.out.h.few; omega)).mono fun e w' ⟨g1, q, g2⟩ => ⟨g1, by rw [g2]; exact then_ hW (below_drewsN W q)⟩
                  have HCc : Hid (∀ W, Below w17.heap.size w17 W → W.cell? ⟨gs, 0, none⟩ = some (.pointer (some ⟨ks, 0, none⟩)) ∧ W.cell? ⟨gt, 0, none⟩ = some (.pointer (some ⟨kt, 0, none⟩))) := fun W hW => ⟨(hW.cell (p := ⟨gs, 0, none⟩) hst.lt).trans y0, (hW.cell (p := ⟨gt, 0, none⟩) hss.lt).trans z0⟩
                  have HD7 := Hid.mk' hD7
                  clear hd hD7 HRp HR6 HD6 HC hst hss hc0 hc1 hc2 hc3
                  generalize s2.h.l.length = un at *
                  have HBc : Hid (Below w17.heap.size w17 w17.drew) := below_drew _ _
                  have hkst : ¬ ks = kt ∨ ks = kt := by omega
                  clear hkst
                  go_upto_region 37 with fail
                  go_region_held3 (fun W => W.cell? ⟨gs, 0, none⟩ = some (.pointer (some ⟨ks, 0, none⟩)) ∧ W.cell? ⟨gt, 0, none⟩ = some (.pointer (some ⟨kt, 0, none⟩))) (go_keep) (first
                    | (go_at_call_of 8 ks; refine (HL1.out _ HBc.out).mono ?_; rintro e v1 ⟨al, rfl, hu1, hp1, hb1⟩; (try (have HUb' := Hid.mk' (HUb.out.stay hp1); clear HUb; have HUb := Hid.mk' HUb'.out; clear HUb')); have HUa := Hid.mk' hu1; obtain ⟨d0, d1⟩ := HCc.out v1 hb1; clear HBc; have HBc := Hid.mk' hb1; clear hu1 hp1 hb1)
                    | (go_at_call_of 8 kt; refine (HL2.out _ HBc.out).mono ?_; rintro e v2 ⟨al2, rfl, hu2, hp2, hb2⟩; (try (have HUa' := Hid.mk' (HUa.out.stay hp2); clear HUa; have HUa := Hid.mk' HUa'.out; clear HUa')); have HUb := Hid.mk' hu2; obtain ⟨d0, d1⟩ := HCc.out v2 hb2; clear HBc; have HBc := Hid.mk' hb2; clear hu2 hp2 hb2)
                    | (go_at_call 11; refine (HSU.out _ _ _ HUa.out HUb.out HBc.out).mono ?_; rintro e v3 ⟨rfl, hb3⟩; obtain ⟨d0, d1⟩ := HCc.out v3 hb3; clear HBc; have HBc := Hid.mk' hb3; clear hb3))
                  all_goals
                    go_wp2
                    go_roundw
                    case rel => exact ⟨k + 1, s2, _, _, _, by omega, by go_num, HO2.out, HD7.out.stay HBc.out⟩
                    case measure => simp [intOf]; omega
                · obtain rfl : k = l2.length := by omega
                  have HE := Hid.mk' (HBe.out _ HS.out.below)
                  go_wp2
                  go_ret
                  exact ⟨rfl, HE.out⟩
end Go.Proofs.YtanpocgojmflgaaDoor
