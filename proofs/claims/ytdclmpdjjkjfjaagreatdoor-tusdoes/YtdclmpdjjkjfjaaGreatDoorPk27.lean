/- Small texts, one behind the other: ShW, ShF. -/
import Derived.Test.YtdclmpdjjkjfjaaGreatDoorPk19
import Derived.Test.YtdclmpdjjkjfjaaGreatDoorShP
import Derived.Test.YtdclmpdjjkjfjaaGreatDoorJrE
import Derived.Test.YtdclmpdjjkjfjaaGreatDoorPk12
import Derived.Test.YtdclmpdjjkjfjaaGreatDoorPk6
/- The document's own store, walked: write. -/
namespace Go.Proofs.YtdclmpdjjkjfjaaGreatDoor
open Go.RowKit

theorem encOut_no' {x : Jn.E} (h : Jn.fits x = false) : encOut x = ([], 1) := by unfold encOut; rw [if_neg (by simp [h])]
theorem encOut_yes' {x : Jn.E} (h : Jn.fits x = true) : encOut x = (Jn.enc x, 0) := by unfold encOut; rw [if_pos h]
theorem Did.newH {B : Nat} {w w' : World} {g tO : Nat} {r : Sp.St × Nat} {e : Ending} (h : Did (fun k => B ≤ k) tO w g r e w') (hB : B ≤ w.heap.size) : e = .returned (.int .i64 (r.2 : Int)) ∧ SpAt w' (fun k => B ≤ k) tO 67 5 g r.1 ∧ Below B w w' := by
  refine ⟨h.ret, h.at_.mono (fun k _ e => ?_), h.turns.below (fun k e => e) hB⟩
  rcases e with e | e
  · exact e
  · omega
set_option maxRecDepth 100000 in
set_option maxHeartbeats 1600000 in
theorem writeSh_any (s : Sr.Sh) (S : Nat → Prop) (g : Nat) (x : Jn.E) (ta : Option Addr) (tn tc : Nat) (w : World) (h : ShAt w S g s) (ok : Sr.Ok s) (hT : IsB w ta tc x.text) (hn : x.text.length = tn) (hN : tn ≤ 1000000) :
    Calls Tryz.prog 60 #[.pointer (some ⟨g, 0, none⟩), .agg #[.int .i64 x.kind, .int .i64 x.id, .int .i64 x.n, .slice ta tn tc]] w (ShDid S w g (Sr.write s (Sr.played s.h x) x)) := by
  obtain ⟨gh, ao, ca, P, hI⟩ := h
  have hbA := (Below.refl _ w).alloc (Nat.le_refl _) (.cells #[.int .i64 x.kind, .int .i64 x.id, .int .i64 x.n, .slice ta tn tc] 110)
  have hI1 := hI.stay hbA
  obtain ⟨⟨c0, c1, c2⟩, _⟩ := row3 hI1.row
  obtain ⟨⟨y0, y1, y2, y3⟩, _⟩ := row4 (heap_alloc_new w (.cells #[.int .i64 x.kind, .int .i64 x.id, .int .i64 x.n, .slice ta tn tc] 110))
  have HC := Hid.mk' (copyH_any s.h P gh _ hI1.hold (Sp.Ok.small ok.h))
  have HI := Hid.mk' hI; have HBA := Hid.mk' hbA; have HT := Hid.mk' hT
  have hlt := hI.lt
  have hla := ok.last_
  have hfew := ok.few
  have HPl : Hid (∀ W g', Below w.heap.size w W → SpAt W (fun k => w.heap.size + 1 ≤ k) 50 67 5 g' s.h → Calls Tryz.prog 89 #[.pointer (some ⟨g', 0, none⟩), .agg #[.int .i64 x.kind, .int .i64 x.id, .int .i64 x.n, .slice ta tn tc]] W (Did (fun k => w.heap.size + 1 ≤ k) 50 W g' (Sr.played s.h x))) := fun W g' hb hH => playedH_any s.h _ g' x ta tn tc W hH ok.h (by omega) (HT.out.stay hb) hn hN
  obtain ⟨i0, hi0, hz0, hz1, hz2⟩ := info_parts info_u8
  have Hi := Hid.mk' hi0; have Hz0 := Hid.mk' hz0; have Hz1 := Hid.mk' hz1; have Hz2 := Hid.mk' hz2
  clear hI hI1 hbA hT ok hi0 hz0 hz1 hz2
  generalize Sr.played s.h x = r at *
  go_enter Tryz.func60, Tryz.ntmps60
  go_wp2_with fail
  refine HC.out.mono ?_
  rintro e w2 ⟨g', rfl, hH2, hb2⟩
  have hB2 : Below w.heap.size w w2 := then_ HBA.out hb2
  have hs2 : w.heap.size + 1 ≤ w2.heap.size := by have := hb2.size; simpa using this
  have HD := Hid.mk' (HPl.out w2 g' hB2 (hH2.mono (fun k _ e => by simpa using e)))
  obtain ⟨x0, x1, x2, x3⟩ := cells4 (Nat.lt_succ_self _) (hb2.mono (B' := w.heap.size + 1) (by simp))
  have HB2 := Hid.mk' hB2; have Hb2 := Hid.mk' hb2
  clear hH2 hb2 hB2 HC HPl c0 c1 c2 y0 y1 y2 y3
  go_wp2_with fail
  refine HD.out.mono ?_
  intro e w3 hd
  obtain ⟨he, hH3, hb3⟩ := hd.newH hs2
  have hbx : Below (w.heap.size + 1) (w.alloc (.cells #[.int .i64 x.kind, .int .i64 x.id, .int .i64 x.n, .slice ta tn tc] 110)) w3 := (Hb2.out.mono (by simp)).trans hb3
  have hB3 : Below w.heap.size w w3 := HB2.out.trans (hb3.mono (Nat.le_succ _))
  clear x0 x1 x2 x3
  obtain ⟨x0, x1, x2, x3⟩ := cells4 (Nat.lt_succ_self _) hbx
  have HB3 := Hid.mk' hB3; have HH3 := Hid.mk' hH3
  clear hd hH3 hb3 hbx hB3 hs2 HD HB2 Hb2
  subst he
  by_cases hc : r.2 = 0
  · have HX := Hid.mk' (entryBytes_any x ta tn tc w3 (HT.out.stay HB3.out) hn)
    rw [hc]
    cases hf : Jn.fits x with
    | false =>
      have HR : Hid (∀ W, Below w.heap.size w W → ShDid S w g (Sr.write s r x) (.returned (.int .i64 (1 : Nat))) W) := fun W hb => ShDid.none_ ⟨gh, ao, ca, P, HI.out⟩ hb (Sr.write_bad hc hf)
      unfold EncPost at HX
      rw [encOut_no' hf] at HX
      clear hc hf HI
      go_wp2_with fail
      refine HX.out.mono ?_
      rintro e w4 ⟨ao4, ca4, rfl, _, hb4⟩
      have HB4 := Hid.mk' (then_ HB3.out hb4)
      clear hb4
      go_wp2
      go_ret
      exact HR.out _ HB4.out
    | true =>
      unfold EncPost at HX
      rw [encOut_yes' hf] at HX
      have hlx : (Jn.enc x).length ≤ 1048600 := by have := Jn.enc_len hf; have := Jn.inn_len hf; omega
      by_cases hl : 100000 < s.log.length + (Jn.enc x).length
      · have HR : Hid (∀ W, Below w.heap.size w W → ShDid S w g (Sr.write s r x) (.returned (.int .i64 (16 : Nat))) W) := fun W hb => ShDid.none_ ⟨gh, ao, ca, P, HI.out⟩ hb (Sr.write_full hc hf hl)
        clear hc hf
        generalize Jn.enc x = y at *
        go_wp2_with fail
        refine HX.out.mono ?_
        rintro e w4 ⟨ao4, ca4, rfl, _, hb4⟩
        have hB4 := then_ HB3.out hb4
        obtain ⟨⟨c0, c1, c2⟩, _⟩ := row3 (HI.out.stay hB4).row
        have HB4 := Hid.mk' hB4
        clear hb4 hB4
        generalize y.length = yn at *
        generalize s.log.length = ln at *
        have tg : decide ((ln : Int) + yn > 100000) = true := by rw [decide_eq_true_eq]; omega
        go_wp2
        go_ret
        exact HR.out _ HB4.out
      · have HR : Hid (∀ W, ShAt W (orNew S w) g ⟨r.1, s.log ++ Jn.enc x, s.sure⟩ → Turns S w W → ShDid S w g (Sr.write s r x) (.returned (.int .i64 0)) W) := fun W h1 h2 => by
          rw [Sr.write_yes hc hf hl]; exact ⟨rfl, h1, h2⟩
        have hl2 : s.log.length + (Jn.enc x).length ≤ 100000 := by omega
        have tg : decide ((s.log.length : Int) + (Jn.enc x).length > 100000) = false := by rw [decide_eq_false_iff_not]; omega
        clear hc hf hl
        generalize Jn.enc x = y at *
        go_wp2_with fail
        refine HX.out.mono ?_
        rintro e w4 ⟨ao4, ca4, rfl, hO4, hb4⟩
        have hB4 := then_ HB3.out hb4
        have hI4 := HI.out.stay hB4
        obtain ⟨⟨c0, c1, c2⟩, _⟩ := row3 hI4.row
        have HO := Hid.mk' hI4.own; have HY := Hid.mk' hO4.isB
        have HH4 := Hid.mk' (((HH3.out.stay hb4).mono (S' := fun k => w.heap.size ≤ k) (fun k _ e => Nat.le_of_succ_le e)))
        have HB4 := Hid.mk' hB4
        have HLn : Hid (∀ n, n = s.log.length + y.length → n = (s.log ++ y).length) := fun n hn => by rw [hn, List.length_append]
        clear hb4 hB4 hI4 hO4
        go_wp2_with (at_builtin; refine wpList_append_at rfl (.tmp 41) (.tmp 42) 30 rfl 0 5 i0 Tryz.underlying30 Hi.out Hz0.out Hz1.out Hz2.out (l := s.log) (l2 := y) rfl rfl HO.out rfl rfl HY.out (by omega) (Nat.zero_le _) ?_; intro ao8 ca8 w8 hO8 hG8 hA8; obtain ⟨hr8, hA9, hT9⟩ := HI.out.laid HB4.out HH4.out hO8 hG8 hA8 (HLn.out _ rfl); obtain ⟨⟨d0, d1, d2⟩, e0, e1, e2⟩ := row3 hr8; have HA9 := Hid.mk' hA9; have HT9 := Hid.mk' hT9; clear hO8 hG8 hA8 hA9 hT9 hr8 c0 c1 c2)
        go_ret
        exact HR.out _ HA9.out HT9.out
  · have HR : Hid (ShDid S w g (Sr.write s r x) (.returned (.int .i64 (r.2 : Int))) w3) := ShDid.none_ ⟨gh, ao, ca, P, HI.out⟩ HB3.out (Sr.write_code hc)
    have hc' : ¬ (r.2 : Int) = 0 := by omega
    clear hc
    generalize (r.2 : Int) = rc at *
    go_wp2
    go_ret
    exact HR.out
end Go.Proofs.YtdclmpdjjkjfjaaGreatDoor

/- The document's own store, walked: Create, Append, Declare, Drop, Begin, End. -/
namespace Go.Proofs.YtdclmpdjjkjfjaaGreatDoor
open Go.RowKit

section
variable {s : Sr.Sh} {S : Nat → Prop} {g : Nat} {w : World}
theorem dropSh_any (h : ShAt w S g s) (ok : Sr.Ok s) (id : Int) :
    Calls Tryz.prog 35 #[.pointer (some ⟨g, 0, none⟩), .int .i64 id] w (ShDid S w g (Sr.drop s id)) := by
  have HC := Hid.mk' (writeSh_any s S g ⟨4, id, 0, []⟩ none 0 0 w h ok (IsB.nil _) rfl (by decide))
  have hp : Sr.played s.h ⟨4, id, 0, []⟩ = Sp.drop s.h id := rfl
  rw [hp] at HC
  unfold Sr.drop
  generalize Sr.write s _ _ = r at *
  clear h ok hp
  go_enter Tryz.func35, Tryz.ntmps35
  go_wp2_with fail
  refine HC.out.mono ?_
  intro e w2 hd
  have HD := Hid.mk' hd
  obtain ⟨rfl, _, _⟩ := hd
  go_wp2
  go_ret
  exact HD.out
theorem declareSh_any (h : ShAt w S g s) (ok : Sr.Ok s) (id sz : Int) :
    Calls Tryz.prog 64 #[.pointer (some ⟨g, 0, none⟩), .int .i64 id, .int .i64 sz] w (ShDid S w g (Sr.declare s id sz)) := by
  have HC := Hid.mk' (writeSh_any s S g ⟨3, id, sz, []⟩ none 0 0 w h ok (IsB.nil _) rfl (by decide))
  have hp : Sr.played s.h ⟨3, id, sz, []⟩ = Sp.declare s.h id sz := rfl
  rw [hp] at HC
  unfold Sr.declare
  generalize Sr.write s _ _ = r at *
  clear h ok hp
  go_enter Tryz.func64, Tryz.ntmps64
  go_wp2_with fail
  refine HC.out.mono ?_
  intro e w2 hd
  have HD := Hid.mk' hd
  obtain ⟨rfl, _, _⟩ := hd
  go_wp2
  go_ret
  exact HD.out
theorem write_app {s : Sr.Sh} {id off : Int} {b : List UInt8} (h : (Sp.append s.h id off b).2 = 0) : Sr.append s id off b = Sr.write s (Sr.played s.h ⟨2, id, 0, b⟩) ⟨2, id, 0, b⟩ := by
  unfold Sr.append
  rw [played_2 rfl]
  show Sr.write s (Sp.append s.h id off b) _ = Sr.write s (Sp.append s.h id (Sr.lenOf s.h id) b) _
  rw [← Sr.append_len h]
theorem appendSh_any (h : ShAt w S g s) (ok : Sr.Ok s) (id off : Int) (bo : Option Addr) (bn bc : Nat) (l : List UInt8) (hb : IsB w bo bc l) (hn : l.length = bn) (hN : bn ≤ 1000000) :
    Calls Tryz.prog 63 #[.pointer (some ⟨g, 0, none⟩), .int .i64 id, .int .i64 off, .slice bo bn bc] w (ShDid S w g (Sr.append s id off l)) := by
  have HA := Hid.mk' h
  obtain ⟨gh, ao, ca, P, hI⟩ := h
  obtain ⟨⟨c0, c1, c2⟩, _⟩ := row3 hI.row
  have HC := Hid.mk' (copyH_any s.h P gh w hI.hold (Sp.Ok.small ok.h))
  have HO := Hid.mk' ok; have HB := Hid.mk' hb
  clear hI hb
  go_enter Tryz.func63, Tryz.ntmps63
  go_wp2_with fail
  refine HC.out.mono ?_
  rintro e w2 ⟨g', rfl, hH2, hb2⟩
  have HP := Hid.mk' (appendH_any s.h _ g' id off bo bn bc l w2 hH2 ok.h (HB.out.stay hb2) hn hN)
  have Hb2 := Hid.mk' hb2
  clear hH2 hb2 HC c0 c1 c2
  go_wp2_with fail
  refine HP.out.mono ?_
  intro e w3 hd
  obtain ⟨he, _, hb3⟩ := hd.newH Hb2.out.size
  have hB3 : Below w.heap.size w w3 := Hb2.out.trans hb3
  have HB3 := Hid.mk' hB3
  clear hd hb3
  subst he
  by_cases hc : (Sp.append s.h id off l).2 = 0
  · have HW := Hid.mk' (writeSh_any s S g ⟨2, id, 0, l⟩ bo bn bc w3 (HA.out.stay hB3) HO.out (HB.out.stay hB3) hn hN)
    rw [← write_app hc] at HW
    rw [hc]
    clear hB3 hc
    generalize Sr.append s id off l = r at *
    go_wp2_with fail
    refine HW.out.mono ?_
    intro e w4 hd
    have HD := Hid.mk' (ShDid.from_ HB3.out hd)
    obtain ⟨rfl, _, _⟩ := hd
    go_wp2
    go_ret
    exact HD.out
  · have HR : Hid (ShDid S w g (Sr.append s id off l) (.returned (.int .i64 ((Sp.append s.h id off l).2 : Int))) w3) := ShDid.none_ HA.out HB3.out (Sr.write_code hc)
    have hc' : ¬ ((Sp.append s.h id off l).2 : Int) = 0 := by omega
    clear hc hB3
    generalize ((Sp.append s.h id off l).2 : Int) = rc at *
    go_wp2
    go_ret
    exact HR.out
set_option maxRecDepth 100000 in
set_option maxHeartbeats 800000 in
theorem createSh_any (h : ShAt w S g s) (ok : Sr.Ok s) (sz : Int) (m : ByteArray) (hm : m.size ≤ 1000000) :
    Calls Tryz.prog 31 #[.pointer (some ⟨g, 0, none⟩), .int .i64 sz, .string m] w (ShMade S w g s (Sr.create s sz m)) := by
  have HA := Hid.mk' h
  obtain ⟨gh, ao, ca, P, hI⟩ := h
  obtain ⟨⟨c0, c1, c2⟩, _⟩ := row3 hI.row
  obtain ⟨ao2, cap2, d0, d1, _, _, _, _, _⟩ := hI.hold.cells
  have hl := ok.last_
  have hl0 := ok.h.last0
  obtain ⟨bc, W3, hcv, hb3, hs3, hIB⟩ := bytes_of (P := Tryz.prog) w m 9 30 5 Tryz.underlying9 Tryz.underlying30 Tryz.underlying5
  have HC := Hid.mk' (writeSh_any s S g ⟨1, s.h.last + 1, sz, m.data.toList⟩ (some ⟨w.heap.size, 0, none⟩) m.size bc W3 (HA.out.stay hb3) ok hIB (by simp) hm)
  have hp : Sr.played s.h ⟨1, s.h.last + 1, sz, m.data.toList⟩ = Sr.made s.h sz m := by rw [played_1' rfl]; simp only; rw [Sr.ofL_data]
  rw [hp] at HC
  have HB := Hid.mk' hb3
  unfold Sr.create
  generalize Sr.write s _ _ = r at *
  have HNu : Hid (∀ c : Nat, c = 0 → Sr.numb s c = s.h.last + 1) := fun c hc => by unfold Sr.numb; rw [if_pos hc]
  have HN0 : Hid (∀ c : Nat, c ≠ 0 → Sr.numb s c = 0) := fun c hc => by unfold Sr.numb; rw [if_neg hc]
  clear ok hI hs3 hIB hb3 c1 c2 d0 hm hp
  generalize hla : s.h.last = la at *
  clear hla
  go_enter Tryz.func31, Tryz.ntmps31
  go_wp2_with fail
  refine HC.out.mono ?_
  intro e w2 hd
  have hD := ShDid.from_ HB.out hd
  have HD := Hid.mk' hD
  clear hD
  obtain ⟨rfl, _, _⟩ := hd
  by_cases hc : r.2 = 0
  · rw [hc]
    go_wp2
    go_ret2
    exact ⟨by rw [HNu.out _ hc, hc]; rfl, HD.out.at_, HD.out.turns⟩
  · have hc' : ¬ (r.2 : Int) = 0 := by omega
    have HX : Hid (∀ v, v = (r.2 : Int) → ShMade S w g s r (.returned (.tuple #[.int .i64 0, .int .i64 v])) w2) := fun v hv => ⟨by rw [HN0.out _ hc, hv], HD.out.at_, HD.out.turns⟩
    clear hc HD
    generalize (r.2 : Int) = rc at *
    go_wp2
    go_ret2
    exact HX.out _ rfl
end
end Go.Proofs.YtdclmpdjjkjfjaaGreatDoor
