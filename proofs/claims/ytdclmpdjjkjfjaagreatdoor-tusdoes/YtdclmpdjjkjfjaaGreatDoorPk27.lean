/- Small texts, one behind the other: ShW, ShF, TuP. -/
import Derived.Test.YtdclmpdjjkjfjaaGreatDoorPk19
import Derived.Test.YtdclmpdjjkjfjaaGreatDoorPk26
import Derived.Test.YtdclmpdjjkjfjaaGreatDoorJrE
import Derived.Test.YtdclmpdjjkjfjaaGreatDoorPk12
import Derived.Test.YtdclmpdjjkjfjaaGreatDoorPk6
import Derived.Test.YtdclmpdjjkjfjaaGreatDoorTuA
import Derived.Test.YtdclmpdjjkjfjaaGreatDoorPk18
import Derived.Test.YtdclmpdjjkjfjaaGreatDoorTuNu
import Derived.Test.YtdclmpdjjkjfjaaGreatDoorPk22
import Derived.Test.YtdclmpdjjkjfjaaGreatDoorPk14
/- The document's own store, walked: write. -/
namespace Go.Proofs.YtdclmpdjjkjfjaaGreatDoor
open Go.RowKit

theorem encOut_no' {x : Jn.E} (h : Jn.fits x = false) : encOut x = ([], 1) := by unfold encOut; rw [if_neg (by simp [h])]
theorem encOut_yes' {x : Jn.E} (h : Jn.fits x = true) : encOut x = (Jn.enc x, 0) := by unfold encOut; rw [if_pos h]
theorem Did.newH {B : Nat} {w w' : World} {g tO : Nat} {r : Sp.St × Nat} {e : Ending} (h : Did (fun k => B ≤ k) tO w g r e w') (hB : B ≤ w.heap.size) : e = .returned (.int .i64 (r.2 : Int)) ∧ SpAt w' (fun k => B ≤ k) tO 67 5 g r.1 ∧ Below B w w' := by
  refine ⟨h.ret, h.at_.mono (fun k _ e => ?_), h.turns.below (fun k e => e) hB⟩
  rcases e with e | e
  · exact e
  · omega
set_option maxRecDepth 100000 in
set_option maxHeartbeats 1600000 in
theorem writeSh_any (s : Sr.Sh) (S : Nat → Prop) (g : Nat) (x : Jn.E) (ta : Option Addr) (tn tc : Nat) (w : World) (h : ShAt w S g s) (ok : Sr.Ok s) (hT : IsB w ta tc x.text) (hn : x.text.length = tn) (hN : tn ≤ 1000000) :
    Calls Tryz.prog 60 #[.pointer (some ⟨g, 0, none⟩), .agg #[.int .i64 x.kind, .int .i64 x.id, .int .i64 x.n, .slice ta tn tc]] w (ShDid S w g (Sr.write s (Sr.played s.h x) x)) := by
  obtain ⟨gh, ao, ca, P, hI⟩ := h
  have hbA := (Below.refl _ w).alloc (Nat.le_refl _) (.cells #[.int .i64 x.kind, .int .i64 x.id, .int .i64 x.n, .slice ta tn tc] 110)
  have hI1 := hI.stay hbA
  obtain ⟨⟨c0, c1, c2⟩, _⟩ := row3 hI1.row
  obtain ⟨⟨y0, y1, y2, y3⟩, _⟩ := row4 (heap_alloc_new w (.cells #[.int .i64 x.kind, .int .i64 x.id, .int .i64 x.n, .slice ta tn tc] 110))
  have HC := Hid.mk' (copyH_any s.h P gh _ hI1.hold (Sp.Ok.small ok.h))
  have HI := Hid.mk' hI; have HBA := Hid.mk' hbA; have HT := Hid.mk' hT
  have hlt := hI.lt
  have hla := ok.last_
  have hfew := ok.few
  have HPl : Hid (∀ W g', Below w.heap.size w W → SpAt W (fun k => w.heap.size + 1 ≤ k) 50 67 5 g' s.h → Calls Tryz.prog 89 #[.pointer (some ⟨g', 0, none⟩), .agg #[.int .i64 x.kind, .int .i64 x.id, .int .i64 x.n, .slice ta tn tc]] W (Did (fun k => w.heap.size + 1 ≤ k) 50 W g' (Sr.played s.h x))) := fun W g' hb hH => playedH_any s.h _ g' x ta tn tc W hH ok.h (by omega) (HT.out.stay hb) hn hN
  obtain ⟨i0, hi0, hz0, hz1, hz2⟩ := info_parts info_u8
  have Hi := Hid.mk' hi0; have Hz0 := Hid.mk' hz0; have Hz1 := Hid.mk' hz1; have Hz2 := Hid.mk' hz2
  clear hI hI1 hbA hT ok hi0 hz0 hz1 hz2
  generalize Sr.played s.h x = r at *
  go_enter Tryz.func60, Tryz.ntmps60
  go_wp2_with fail
  refine HC.out.mono ?_
  rintro e w2 ⟨g', rfl, hH2, hb2⟩
  have hB2 : Below w.heap.size w w2 := then_ HBA.out hb2
  have hs2 : w.heap.size + 1 ≤ w2.heap.size := by have := hb2.size; simpa using this
  have HD := Hid.mk' (HPl.out w2 g' hB2 (hH2.mono (fun k _ e => by simpa using e)))
  obtain ⟨x0, x1, x2, x3⟩ := cells4 (Nat.lt_succ_self _) (hb2.mono (B' := w.heap.size + 1) (by simp))
  have HB2 := Hid.mk' hB2; have Hb2 := Hid.mk' hb2
  clear hH2 hb2 hB2 HC HPl c0 c1 c2 y0 y1 y2 y3
  go_wp2_with fail
  refine HD.out.mono ?_
  intro e w3 hd
  obtain ⟨he, hH3, hb3⟩ := hd.newH hs2
  have hbx : Below (w.heap.size + 1) (w.alloc (.cells #[.int .i64 x.kind, .int .i64 x.id, .int .i64 x.n, .slice ta tn tc] 110)) w3 := (Hb2.out.mono (by simp)).trans hb3
  have hB3 : Below w.heap.size w w3 := HB2.out.trans (hb3.mono (Nat.le_succ _))
  clear x0 x1 x2 x3
  obtain ⟨x0, x1, x2, x3⟩ := cells4 (Nat.lt_succ_self _) hbx
  have HB3 := Hid.mk' hB3; have HH3 := Hid.mk' hH3
  clear hd hH3 hb3 hbx hB3 hs2 HD HB2 Hb2
  subst he
  by_cases hc : r.2 = 0
  · have HX := Hid.mk' (entryBytes_any x ta tn tc w3 (HT.out.stay HB3.out) hn)
    rw [hc]
    cases hf : Jn.fits x with
    | false =>
      have HR : Hid (∀ W, Below w.heap.size w W → ShDid S w g (Sr.write s r x) (.returned (.int .i64 (1 : Nat))) W) := fun W hb => ShDid.none_ ⟨gh, ao, ca, P, HI.out⟩ hb (Sr.write_bad hc hf)
      unfold EncPost at HX
      rw [encOut_no' hf] at HX
      clear hc hf HI
      go_wp2_with fail
      refine HX.out.mono ?_
      rintro e w4 ⟨ao4, ca4, rfl, _, hb4⟩
      have HB4 := Hid.mk' (then_ HB3.out hb4)
      clear hb4
      go_wp2
      go_ret
      exact HR.out _ HB4.out
    | true =>
      unfold EncPost at HX
      rw [encOut_yes' hf] at HX
      have hlx : (Jn.enc x).length ≤ 1048600 := by have := Jn.enc_len hf; have := Jn.inn_len hf; omega
      by_cases hl : 100000 < s.log.length + (Jn.enc x).length
      · have HR : Hid (∀ W, Below w.heap.size w W → ShDid S w g (Sr.write s r x) (.returned (.int .i64 (16 : Nat))) W) := fun W hb => ShDid.none_ ⟨gh, ao, ca, P, HI.out⟩ hb (Sr.write_full hc hf hl)
        clear hc hf
        generalize Jn.enc x = y at *
        go_wp2_with fail
        refine HX.out.mono ?_
        rintro e w4 ⟨ao4, ca4, rfl, _, hb4⟩
        have hB4 := then_ HB3.out hb4
        obtain ⟨⟨c0, c1, c2⟩, _⟩ := row3 (HI.out.stay hB4).row
        have HB4 := Hid.mk' hB4
        clear hb4 hB4
        generalize y.length = yn at *
        generalize s.log.length = ln at *
        have tg : decide ((ln : Int) + yn > 100000) = true := by rw [decide_eq_true_eq]; omega
        go_wp2
        go_ret
        exact HR.out _ HB4.out
      · have HR : Hid (∀ W, ShAt W (orNew S w) g ⟨r.1, s.log ++ Jn.enc x, s.sure⟩ → Turns S w W → ShDid S w g (Sr.write s r x) (.returned (.int .i64 0)) W) := fun W h1 h2 => by
          rw [Sr.write_yes hc hf hl]; exact ⟨rfl, h1, h2⟩
        have hl2 : s.log.length + (Jn.enc x).length ≤ 100000 := by omega
        have tg : decide ((s.log.length : Int) + (Jn.enc x).length > 100000) = false := by rw [decide_eq_false_iff_not]; omega
        clear hc hf hl
        generalize Jn.enc x = y at *
        go_wp2_with fail
        refine HX.out.mono ?_
        rintro e w4 ⟨ao4, ca4, rfl, hO4, hb4⟩
        have hB4 := then_ HB3.out hb4
        have hI4 := HI.out.stay hB4
        obtain ⟨⟨c0, c1, c2⟩, _⟩ := row3 hI4.row
        have HO := Hid.mk' hI4.own; have HY := Hid.mk' hO4.isB
        have HH4 := Hid.mk' (((HH3.out.stay hb4).mono (S' := fun k => w.heap.size ≤ k) (fun k _ e => Nat.le_of_succ_le e)))
        have HB4 := Hid.mk' hB4
        have HLn : Hid (∀ n, n = s.log.length + y.length → n = (s.log ++ y).length) := fun n hn => by rw [hn, List.length_append]
        clear hb4 hB4 hI4 hO4
        go_wp2_with (at_builtin; refine wpList_append_at rfl (.tmp 41) (.tmp 42) 30 rfl 0 5 i0 Tryz.underlying30 Hi.out Hz0.out Hz1.out Hz2.out (l := s.log) (l2 := y) rfl rfl HO.out rfl rfl HY.out (by omega) (Nat.zero_le _) ?_; intro ao8 ca8 w8 hO8 hG8 hA8; obtain ⟨hr8, hA9, hT9⟩ := HI.out.laid HB4.out HH4.out hO8 hG8 hA8 (HLn.out _ rfl); obtain ⟨⟨d0, d1, d2⟩, e0, e1, e2⟩ := row3 hr8; have HA9 := Hid.mk' hA9; have HT9 := Hid.mk' hT9; clear hO8 hG8 hA8 hA9 hT9 hr8 c0 c1 c2)
        go_ret
        exact HR.out _ HA9.out HT9.out
  · have HR : Hid (ShDid S w g (Sr.write s r x) (.returned (.int .i64 (r.2 : Int))) w3) := ShDid.none_ ⟨gh, ao, ca, P, HI.out⟩ HB3.out (Sr.write_code hc)
    have hc' : ¬ (r.2 : Int) = 0 := by omega
    clear hc
    generalize (r.2 : Int) = rc at *
    go_wp2
    go_ret
    exact HR.out
end Go.Proofs.YtdclmpdjjkjfjaaGreatDoor

/- The document's own store, walked: Create, Append, Declare, Drop, Begin, End. -/
namespace Go.Proofs.YtdclmpdjjkjfjaaGreatDoor
open Go.RowKit

section
variable {s : Sr.Sh} {S : Nat → Prop} {g : Nat} {w : World}
theorem dropSh_any (h : ShAt w S g s) (ok : Sr.Ok s) (id : Int) :
    Calls Tryz.prog 35 #[.pointer (some ⟨g, 0, none⟩), .int .i64 id] w (ShDid S w g (Sr.drop s id)) := by
  have HC := Hid.mk' (writeSh_any s S g ⟨4, id, 0, []⟩ none 0 0 w h ok (IsB.nil _) rfl (by decide))
  have hp : Sr.played s.h ⟨4, id, 0, []⟩ = Sp.drop s.h id := rfl
  rw [hp] at HC
  unfold Sr.drop
  generalize Sr.write s _ _ = r at *
  clear h ok hp
  go_enter Tryz.func35, Tryz.ntmps35
  go_wp2_with fail
  refine HC.out.mono ?_
  intro e w2 hd
  have HD := Hid.mk' hd
  obtain ⟨rfl, _, _⟩ := hd
  go_wp2
  go_ret
  exact HD.out
theorem declareSh_any (h : ShAt w S g s) (ok : Sr.Ok s) (id sz : Int) :
    Calls Tryz.prog 64 #[.pointer (some ⟨g, 0, none⟩), .int .i64 id, .int .i64 sz] w (ShDid S w g (Sr.declare s id sz)) := by
  have HC := Hid.mk' (writeSh_any s S g ⟨3, id, sz, []⟩ none 0 0 w h ok (IsB.nil _) rfl (by decide))
  have hp : Sr.played s.h ⟨3, id, sz, []⟩ = Sp.declare s.h id sz := rfl
  rw [hp] at HC
  unfold Sr.declare
  generalize Sr.write s _ _ = r at *
  clear h ok hp
  go_enter Tryz.func64, Tryz.ntmps64
  go_wp2_with fail
  refine HC.out.mono ?_
  intro e w2 hd
  have HD := Hid.mk' hd
  obtain ⟨rfl, _, _⟩ := hd
  go_wp2
  go_ret
  exact HD.out
theorem write_app {s : Sr.Sh} {id off : Int} {b : List UInt8} (h : (Sp.append s.h id off b).2 = 0) : Sr.append s id off b = Sr.write s (Sr.played s.h ⟨2, id, 0, b⟩) ⟨2, id, 0, b⟩ := by
  unfold Sr.append
  rw [played_2 rfl]
  show Sr.write s (Sp.append s.h id off b) _ = Sr.write s (Sp.append s.h id (Sr.lenOf s.h id) b) _
  rw [← Sr.append_len h]
theorem appendSh_any (h : ShAt w S g s) (ok : Sr.Ok s) (id off : Int) (bo : Option Addr) (bn bc : Nat) (l : List UInt8) (hb : IsB w bo bc l) (hn : l.length = bn) (hN : bn ≤ 1000000) :
    Calls Tryz.prog 63 #[.pointer (some ⟨g, 0, none⟩), .int .i64 id, .int .i64 off, .slice bo bn bc] w (ShDid S w g (Sr.append s id off l)) := by
  have HA := Hid.mk' h
  obtain ⟨gh, ao, ca, P, hI⟩ := h
  obtain ⟨⟨c0, c1, c2⟩, _⟩ := row3 hI.row
  have HC := Hid.mk' (copyH_any s.h P gh w hI.hold (Sp.Ok.small ok.h))
  have HO := Hid.mk' ok; have HB := Hid.mk' hb
  clear hI hb
  go_enter Tryz.func63, Tryz.ntmps63
  go_wp2_with fail
  refine HC.out.mono ?_
  rintro e w2 ⟨g', rfl, hH2, hb2⟩
  have HP := Hid.mk' (appendH_any s.h _ g' id off bo bn bc l w2 hH2 ok.h (HB.out.stay hb2) hn hN)
  have Hb2 := Hid.mk' hb2
  clear hH2 hb2 HC c0 c1 c2
  go_wp2_with fail
  refine HP.out.mono ?_
  intro e w3 hd
  obtain ⟨he, _, hb3⟩ := hd.newH Hb2.out.size
  have hB3 : Below w.heap.size w w3 := Hb2.out.trans hb3
  have HB3 := Hid.mk' hB3
  clear hd hb3
  subst he
  by_cases hc : (Sp.append s.h id off l).2 = 0
  · have HW := Hid.mk' (writeSh_any s S g ⟨2, id, 0, l⟩ bo bn bc w3 (HA.out.stay hB3) HO.out (HB.out.stay hB3) hn hN)
    rw [← write_app hc] at HW
    rw [hc]
    clear hB3 hc
    generalize Sr.append s id off l = r at *
    go_wp2_with fail
    refine HW.out.mono ?_
    intro e w4 hd
    have HD := Hid.mk' (ShDid.from_ HB3.out hd)
    obtain ⟨rfl, _, _⟩ := hd
    go_wp2
    go_ret
    exact HD.out
  · have HR : Hid (ShDid S w g (Sr.append s id off l) (.returned (.int .i64 ((Sp.append s.h id off l).2 : Int))) w3) := ShDid.none_ HA.out HB3.out (Sr.write_code hc)
    have hc' : ¬ ((Sp.append s.h id off l).2 : Int) = 0 := by omega
    clear hc hB3
    generalize ((Sp.append s.h id off l).2 : Int) = rc at *
    go_wp2
    go_ret
    exact HR.out
set_option maxRecDepth 100000 in
set_option maxHeartbeats 800000 in
theorem createSh_any (h : ShAt w S g s) (ok : Sr.Ok s) (sz : Int) (m : ByteArray) (hm : m.size ≤ 1000000) :
    Calls Tryz.prog 31 #[.pointer (some ⟨g, 0, none⟩), .int .i64 sz, .string m] w (ShMade S w g s (Sr.create s sz m)) := by
  have HA := Hid.mk' h
  obtain ⟨gh, ao, ca, P, hI⟩ := h
  obtain ⟨⟨c0, c1, c2⟩, _⟩ := row3 hI.row
  obtain ⟨ao2, cap2, d0, d1, _, _, _, _, _⟩ := hI.hold.cells
  have hl := ok.last_
  have hl0 := ok.h.last0
  obtain ⟨bc, W3, hcv, hb3, hs3, hIB⟩ := bytes_of (P := Tryz.prog) w m 9 30 5 Tryz.underlying9 Tryz.underlying30 Tryz.underlying5
  have HC := Hid.mk' (writeSh_any s S g ⟨1, s.h.last + 1, sz, m.data.toList⟩ (some ⟨w.heap.size, 0, none⟩) m.size bc W3 (HA.out.stay hb3) ok hIB (by simp) hm)
  have hp : Sr.played s.h ⟨1, s.h.last + 1, sz, m.data.toList⟩ = Sr.made s.h sz m := by rw [played_1' rfl]; simp only; rw [Sr.ofL_data]
  rw [hp] at HC
  have HB := Hid.mk' hb3
  unfold Sr.create
  generalize Sr.write s _ _ = r at *
  have HNu : Hid (∀ c : Nat, c = 0 → Sr.numb s c = s.h.last + 1) := fun c hc => by unfold Sr.numb; rw [if_pos hc]
  have HN0 : Hid (∀ c : Nat, c ≠ 0 → Sr.numb s c = 0) := fun c hc => by unfold Sr.numb; rw [if_neg hc]
  clear ok hI hs3 hIB hb3 c1 c2 d0 hm hp
  generalize hla : s.h.last = la at *
  clear hla
  go_enter Tryz.func31, Tryz.ntmps31
  go_wp2_with fail
  refine HC.out.mono ?_
  intro e w2 hd
  have hD := ShDid.from_ HB.out hd
  have HD := Hid.mk' hD
  clear hD
  obtain ⟨rfl, _, _⟩ := hd
  by_cases hc : r.2 = 0
  · rw [hc]
    go_wp2
    go_ret2
    exact ⟨by rw [HNu.out _ hc, hc]; rfl, HD.out.at_, HD.out.turns⟩
  · have hc' : ¬ (r.2 : Int) = 0 := by omega
    have HX : Hid (∀ v, v = (r.2 : Int) → ShMade S w g s r (.returned (.tuple #[.int .i64 0, .int .i64 v])) w2) := fun v hv => ⟨by rw [HN0.out _ hc, hv], HD.out.at_, HD.out.turns⟩
    clear hc HD
    generalize (r.2 : Int) = rc at *
    go_wp2
    go_ret2
    exact HX.out _ rfl
end
end Go.Proofs.YtdclmpdjjkjfjaaGreatDoor

/- The document's own answer, walked: patch. -/
namespace Go.Proofs.YtdclmpdjjkjfjaaGreatDoor
open Go.RowKit

theorem shLaw : ObLaw ShAt := ⟨ShAt.turns, ShAt.mono⟩
set_option maxRecDepth 100000 in
set_option maxHeartbeats 8000000 in
theorem patchSh_any {w : World} {S : Nat → Prop} {g : Nat} {s : Sr.Sh} (h : ShAt w S g s) (ok : Sr.Ok s) (u : Sp.Up) (ubo : Option Addr) (ubc : Nat) (hu : u.bytes.length ≤ 2000) (m t : ByteArray) (mi ln : Int) (l : List (ByteArray × ByteArray)) (fo : Option Addr) (fcap : Nat) (hl : IsV w fo fcap l.length (pairV l)) (hN : l.length ≤ 1000) (hs : ∀ p ∈ l, p.1.size ≤ 2000 ∧ p.2.size ≤ 2000) (bo : Option Addr) (bcap nb : Nat) (body : List UInt8) (hb : body.length = nb) (hB : IsB w bo bcap body) (hnb : nb ≤ 100000) :
    Calls Tryz.prog 36 #[.pointer (some ⟨g, 0, none⟩), .agg #[.string m, .string t, .int .i64 mi, .slice fo l.length fcap, .int .i64 ln], .agg #[.int .i64 u.id, .int .i64 u.size, .string u.note, .slice ubo u.bytes.length ubc, .int .i64 u.sent], .slice bo nb bcap] w fun e w' => TuDid ShAt S w g (Tu.patch s u l body) e w' := by
  subst hb
  have L := shLaw
  have hsz1 : (w.alloc (.cells #[.string m, .string t, .int .i64 mi, .slice fo l.length fcap, .int .i64 ln] 35)).heap.size = w.heap.size + 1 := World.size_alloc ..
  have hsz2 : ((w.alloc (.cells #[.string m, .string t, .int .i64 mi, .slice fo l.length fcap, .int .i64 ln] 35)).alloc (.cells #[.int .i64 u.id, .int .i64 u.size, .string u.note, .slice ubo u.bytes.length ubc, .int .i64 u.sent] 67)).heap.size = w.heap.size + 1 + 1 := by rw [World.size_alloc, hsz1]
  have T3 : TbAt ShAt S w g [.cells #[.string m, .string t, .int .i64 mi, .slice fo l.length fcap, .int .i64 ln] 35 (0, 0), .cells #[.int .i64 u.id, .int .i64 u.size, .string u.note, .slice ubo u.bytes.length ubc, .int .i64 u.sent] 67 (0, 0), .cells #[.int .i64 0, .slice none 0 0, .slice none 0 0] 32 (0, 0)] s (fun k => S k ∧ k < w.heap.size) (((w.alloc (.cells #[.string m, .string t, .int .i64 mi, .slice fo l.length fcap, .int .i64 ln] 35)).alloc (.cells #[.int .i64 u.id, .int .i64 u.size, .string u.note, .slice ubo u.bytes.length ubc, .int .i64 u.sent] 67)).alloc (.cells #[.int .i64 0, .slice none 0 0, .slice none 0 0] 32)) :=
    (((TbAt.start L h).box L rfl (fun k e => e.2) _).box L hsz1 (fun k e => by rw [hsz1]; have := e.2; omega) _).box L hsz2 (fun k e => by rw [hsz2]; have := e.2; omega) _
  have HC : Hid (∀ W s' S', TbAt ShAt S w g [.cells #[.string m, .string t, .int .i64 mi, .slice fo l.length fcap, .int .i64 ln] 35 (0, 0), .cells #[.int .i64 u.id, .int .i64 u.size, .string u.note, .slice ubo u.bytes.length ubc, .int .i64 u.sent] 67 (0, 0), .cells #[.int .i64 0, .slice none 0 0, .slice none 0 0] 32 (0, 0)] s' S' W → W.cell? ⟨w.heap.size, 0, none⟩ = some (.string m) ∧ W.cell? ⟨w.heap.size, 1, none⟩ = some (.string t) ∧ W.cell? ⟨w.heap.size, 2, none⟩ = some (.int .i64 mi) ∧ W.cell? ⟨w.heap.size, 3, none⟩ = some (.slice fo l.length fcap) ∧ W.cell? ⟨w.heap.size, 4, none⟩ = some (.int .i64 ln) ∧ W.cell? ⟨w.heap.size + 1, 0, none⟩ = some (.int .i64 u.id) ∧ W.cell? ⟨w.heap.size + 1, 1, none⟩ = some (.int .i64 u.size) ∧ W.cell? ⟨w.heap.size + 1, 3, none⟩ = some (.slice ubo u.bytes.length ubc)) := fun W s' S' hT => by
    have r0 := hT.row 0 rfl
    have r1 := hT.row 1 rfl
    exact ⟨cell_of_row W _ 0 _ _ _ r0, cell_of_row W _ 1 _ _ _ r0, cell_of_row W _ 2 _ _ _ r0, cell_of_row W _ 3 _ _ _ r0, cell_of_row W _ 4 _ _ _ r0, cell_of_row W _ 0 _ _ _ r1, cell_of_row W _ 1 _ _ _ r1, cell_of_row W _ 3 _ _ _ r1⟩
  have HB3 : Hid (Below w.heap.size w (((w.alloc (.cells #[.string m, .string t, .int .i64 mi, .slice fo l.length fcap, .int .i64 ln] 35)).alloc (.cells #[.int .i64 u.id, .int .i64 u.size, .string u.note, .slice ubo u.bytes.length ubc, .int .i64 u.sent] 67)).alloc (.cells #[.int .i64 0, .slice none 0 0, .slice none 0 0] 32))) := then_ (then_ ((Below.refl _ w).alloc (Nat.le_refl _) _) ((Below.refl _ _).alloc (Nat.le_refl _) _)) ((Below.refl _ _).alloc (Nat.le_refl _) _)
  have H3 := Hid.mk' T3
  have HOn : Hid (∀ n : ByteArray, n.size ≤ 2000 → ∀ W, Below w.heap.size w W → Calls Tryz.prog 20 #[.slice fo l.length fcap, .string n] W fun e w' => e = .returned (txVal (Tu.one (Tu.vals n l))) ∧ Below W.heap.size W w') := fun n hn W hW => by
    have := oneOf_any l n fo fcap l.length W (hl.stay hW) rfl (by omega) (fun p hp => (hs p hp).1) hn
    rw [Tu.one_eq, Tu.vals_eq] at this
    exact this
  have HNi : Hid (∀ n : ByteArray, n.size ≤ 2000 → ∀ W, Below w.heap.size w W → Calls Tryz.prog 30 #[.agg #[.string m, .string t, .int .i64 mi, .slice fo l.length fcap, .int .i64 ln], .string n] W fun e w' => e = .returned (.tuple #[.int .i64 (Tu.numIn (Tu.one (Tu.vals n l))).1, .bool (Tu.numIn (Tu.one (Tu.vals n l))).2]) ∧ Below W.heap.size W w') := fun n hn W hW => numberIn_any m t mi ln l fo fcap n W (hl.stay hW) (by omega) hs hn
  have HBd : Hid (∀ W, Below w.heap.size w W → IsB W bo bcap body) := fun W hW => hB.stay hW
  have HOk := Hid.mk' ok
  have hv1 := Tu.one_size l Tu.nCT 2000 (fun p hp => (hs p hp).2)
  obtain ⟨x0, x1, x2, x3, x4, d0, d1, d3⟩ := HC.out _ _ _ T3
  clear T3 hsz1 hsz2 h hl hs hB ok
  have HO1 := Hid.mk' (HOn.out Tu.nCT (by decide) _ HB3.out)
  obtain ⟨R, hR⟩ : ∃ R, R = Tu.patch s u l body := ⟨_, rfl⟩
  rw [← hR]
  unfold Tu.patch at hR
  have HD := Hid.mk' hR
  clear hR
  unfold Tu.nCT at HO1
  go_enter Tryz.func36, Tryz.ntmps36
  go_wp2_with fail
  refine HO1.out.mono ?_
  rintro e w1 ⟨rfl, hb1⟩
  rw [show (⟨#[99, 111, 110, 116, 101, 110, 116, 45, 116, 121, 112, 101]⟩ : ByteArray) = Tu.nCT from rfl]
  unfold txVal
  have H1 := Hid.mk' (H3.out.stay L hb1); have HW1 := Hid.mk' (then_ HB3.out hb1)
  clear hb1 HO1 H3 HB3 x0 x1 x2 x3 x4 d0 d1 d3
  obtain ⟨x0, x1, x2, x3, x4, d0, d1, d3⟩ := HC.out _ _ _ H1.out
  generalize Tu.one (Tu.vals Tu.nCT l) = r1 at *
  obtain ⟨v1, c1⟩ := r1
  simp only at hv1 HD ⊢
  by_cases h9 : c1 = 9
  · subst h9
    rw [if_pos rfl] at HD
    have hvb : True := trivial
    generalize (⟨v1.toArray⟩ : ByteArray) = vb at *
    go_wp2_with fail
    refine (said_none_any 400 _).mono ?_
    rintro e w9 ⟨ao9, cap9, rfl, hO9, hB9⟩
    obtain ⟨⟨z0, z1, z2, y0, y1, y2⟩, HE⟩ := H1.out.ends L (i := 2) rfl (b := w.heap.size + 1 + 1) (by first | rfl | omega) (st := 400) (sti := 400) rfl rfl (Nat.le_trans (Nat.le_add_right _ _) H1.out.sz) hO9 hB9
    clear hO9 hB9
    go_wp2
    generalize (((w9.setCell ⟨w.heap.size + 1 + 1, 0, none⟩ (.int .i64 400)).setCell ⟨w.heap.size + 1 + 1, 1, none⟩ (.slice ao9 1 cap9)).setCell ⟨w.heap.size + 1 + 1, 2, none⟩ (.slice none 0 0)) = wf at *
    obtain ⟨q0, q1, q2, q3⟩ := HE.out
    refine bodyPost_ret (v := .agg #[.int .i64 400, .slice ao9 1 cap9, .slice none 0 0]) (by simp [results, Tryz.results36, go_sem, q0, q1, q2]) rfl ?_
    rw [HD.out]
    exact q3
  · rw [if_neg h9] at HD
    have t9 : ((c1 : Int) == 9) = false := by rw [beq_eq_false_iff_ne]; omega
    have HMe := Hid.mk' (fun W => mediaOf_any ⟨v1.toArray⟩ W (by show v1.toArray.size ≤ _; rw [List.size_toArray]; omega))
    rw [show (⟨v1.toArray⟩ : ByteArray).data.toList = v1 from rfl] at HMe
    generalize (⟨v1.toArray⟩ : ByteArray) = vb at *
    clear h9 hv1
    go_wp2_with fail
    refine (HMe.out _).mono ?_
    rintro e w2 ⟨word, ps, mo, mc, code, rfl, hMi, _, hb2⟩
    have hoff := hMi.off
    have H2 := Hid.mk' (H1.out.stay L (hb2.trans ((Below.refl _ w2).alloc hb2.size (.cells #[.string word, .slice mo ps.length mc] 113)))); have HW2 := Hid.mk' (then_ HW1.out (hb2.trans ((Below.refl _ w2).alloc hb2.size (.cells #[.string word, .slice mo ps.length mc] 113))))
    clear hMi hb2 HMe H1 HW1 x0 x1 x2 x3 x4 d0 d1 d3
    have k0 : (w2.alloc (.cells #[.string word, .slice mo ps.length mc] 113)).cell? ⟨w2.heap.size, 0, none⟩ = some (.string word) := World.cell?_alloc_mark w2 _ _ _ 0
    rw [hoff] at HD
    clear hoff
    have HTw : Hid (decide (word = Tu.vOff) = (word.toList == ([97, 112, 112, 108, 105, 99, 97, 116, 105, 111, 110, 47, 111, 102, 102, 115, 101, 116, 43, 111, 99, 116, 101, 116, 45, 115, 116, 114, 101, 97, 109] : List UInt8))) := by
      unfold Hid
      rw [Lib.toList_data, Bool.eq_iff_iff]
      simp only [decide_eq_true_eq, beq_iff_eq]
      refine ⟨fun e => by rw [e]; rfl, fun e => ?_⟩
      cases word; rename_i d
      unfold Tu.vOff
      simp only at e
      congr 1
      exact Array.toList_inj.1 e
    obtain ⟨tb, htb⟩ : ∃ tb, (word.toList == ([97, 112, 112, 108, 105, 99, 97, 116, 105, 111, 110, 47, 111, 102, 102, 115, 101, 116, 43, 111, 99, 116, 101, 116, 45, 115, 116, 114, 101, 97, 109] : List UInt8)) = tb := ⟨_, rfl⟩
    rw [HTw.out, htb] at HD
    obtain ⟨tz, htz⟩ : ∃ tz, ((code : Int) != 0) = tz := ⟨_, rfl⟩
    have hcz : decide (code = 0) = !tz := by rw [← htz, Bool.eq_iff_iff]; simp
    rw [hcz] at HD
    clear HTw hcz
    obtain ⟨x0, x1, x2, x3, x4, d0, d1, d3⟩ := HC.out _ _ _ H2.out
    cases tz with
    | true =>
      rw [if_pos (by simp)] at HD
      go_wp2_with fail
      refine (said_none_any 415 _).mono ?_
      rintro e w9 ⟨ao9, cap9, rfl, hO9, hB9⟩
      obtain ⟨⟨z0, z1, z2, y0, y1, y2⟩, HE⟩ := H2.out.ends L (i := 2) rfl (b := w.heap.size + 1 + 1) (by first | rfl | omega) (st := 415) (sti := 415) rfl rfl (Nat.le_trans (Nat.le_add_right _ _) H2.out.sz) hO9 hB9
      clear hO9 hB9
      go_wp2
      generalize (((w9.setCell ⟨w.heap.size + 1 + 1, 0, none⟩ (.int .i64 415)).setCell ⟨w.heap.size + 1 + 1, 1, none⟩ (.slice ao9 1 cap9)).setCell ⟨w.heap.size + 1 + 1, 2, none⟩ (.slice none 0 0)) = wf at *
      obtain ⟨q0, q1, q2, q3⟩ := HE.out
      refine bodyPost_ret (v := .agg #[.int .i64 415, .slice ao9 1 cap9, .slice none 0 0]) (by simp [results, Tryz.results36, go_sem, q0, q1, q2]) rfl ?_
      rw [HD.out]
      exact q3
    | false =>
    cases tb with
    | false =>
      rw [if_pos (by simp)] at HD
      go_wp2_with fail
      refine (said_none_any 415 _).mono ?_
      rintro e w9 ⟨ao9, cap9, rfl, hO9, hB9⟩
      obtain ⟨⟨z0, z1, z2, y0, y1, y2⟩, HE⟩ := H2.out.ends L (i := 2) rfl (b := w.heap.size + 1 + 1) (by first | rfl | omega) (st := 415) (sti := 415) rfl rfl (Nat.le_trans (Nat.le_add_right _ _) H2.out.sz) hO9 hB9
      clear hO9 hB9
      go_wp2
      generalize (((w9.setCell ⟨w.heap.size + 1 + 1, 0, none⟩ (.int .i64 415)).setCell ⟨w.heap.size + 1 + 1, 1, none⟩ (.slice ao9 1 cap9)).setCell ⟨w.heap.size + 1 + 1, 2, none⟩ (.slice none 0 0)) = wf at *
      obtain ⟨q0, q1, q2, q3⟩ := HE.out
      refine bodyPost_ret (v := .agg #[.int .i64 415, .slice ao9 1 cap9, .slice none 0 0]) (by simp [results, Tryz.results36, go_sem, q0, q1, q2]) rfl ?_
      rw [HD.out]
      exact q3
    | true =>
      rw [if_neg (by simp)] at HD
      have HO3 := Hid.mk' (HNi.out Tu.nUO (by decide) _ HW2.out)
      unfold Tu.nUO at HO3
      go_wp2_with fail
      refine HO3.out.mono ?_
      rintro e w3 ⟨rfl, hb3⟩
      rw [show (⟨#[117, 112, 108, 111, 97, 100, 45, 111, 102, 102, 115, 101, 116]⟩ : ByteArray) = Tu.nUO from rfl]
      have H3 := Hid.mk' (H2.out.stay L hb3); have HW3 := Hid.mk' (then_ HW2.out hb3)
      clear hb3 HO3 H2 HW2 x0 x1 x2 x3 x4 d0 d1 d3 htb htz k0
      obtain ⟨x0, x1, x2, x3, x4, d0, d1, d3⟩ := HC.out _ _ _ H3.out
      generalize Tu.numIn (Tu.one (Tu.vals Tu.nUO l)) = rn at *
      obtain ⟨n, okn⟩ := rn
      simp only at HD ⊢
      cases okn with
      | false =>
        rw [if_pos (Or.inl rfl)] at HD
        go_wp2_with fail
        refine (said_none_any 400 _).mono ?_
        rintro e w9 ⟨ao9, cap9, rfl, hO9, hB9⟩
        obtain ⟨⟨z0, z1, z2, y0, y1, y2⟩, HE⟩ := H3.out.ends L (i := 2) rfl (b := w.heap.size + 1 + 1) (by first | rfl | omega) (st := 400) (sti := 400) rfl rfl (Nat.le_trans (Nat.le_add_right _ _) H3.out.sz) hO9 hB9
        clear hO9 hB9
        go_wp2
        generalize (((w9.setCell ⟨w.heap.size + 1 + 1, 0, none⟩ (.int .i64 400)).setCell ⟨w.heap.size + 1 + 1, 1, none⟩ (.slice ao9 1 cap9)).setCell ⟨w.heap.size + 1 + 1, 2, none⟩ (.slice none 0 0)) = wf at *
        obtain ⟨q0, q1, q2, q3⟩ := HE.out
        refine bodyPost_ret (v := .agg #[.int .i64 400, .slice ao9 1 cap9, .slice none 0 0]) (by simp [results, Tryz.results36, go_sem, q0, q1, q2]) rfl ?_
        rw [HD.out]
        exact q3
      | true =>
      by_cases hn0 : n < 0
      · rw [if_pos (Or.inr hn0)] at HD
        have tn : decide (n < 0) = true := decide_eq_true hn0
        go_wp2_with fail
        refine (said_none_any 400 _).mono ?_
        rintro e w9 ⟨ao9, cap9, rfl, hO9, hB9⟩
        obtain ⟨⟨z0, z1, z2, y0, y1, y2⟩, HE⟩ := H3.out.ends L (i := 2) rfl (b := w.heap.size + 1 + 1) (by first | rfl | omega) (st := 400) (sti := 400) rfl rfl (Nat.le_trans (Nat.le_add_right _ _) H3.out.sz) hO9 hB9
        clear hO9 hB9
        go_wp2
        generalize (((w9.setCell ⟨w.heap.size + 1 + 1, 0, none⟩ (.int .i64 400)).setCell ⟨w.heap.size + 1 + 1, 1, none⟩ (.slice ao9 1 cap9)).setCell ⟨w.heap.size + 1 + 1, 2, none⟩ (.slice none 0 0)) = wf at *
        obtain ⟨q0, q1, q2, q3⟩ := HE.out
        refine bodyPost_ret (v := .agg #[.int .i64 400, .slice ao9 1 cap9, .slice none 0 0]) (by simp [results, Tryz.results36, go_sem, q0, q1, q2]) rfl ?_
        rw [HD.out]
        exact q3
      · rw [if_neg (by simp [hn0])] at HD
        have tn : decide (n < 0) = false := decide_eq_false hn0
        by_cases hnl : n = (u.bytes.length : Int)
        · rw [if_neg (by simp [hnl])] at HD
          have tl : (n != (u.bytes.length : Int)) = false := by rw [hnl]; simp
          have HO4 := Hid.mk' (HNi.out Tu.nUL (by decide) _ HW3.out)
          unfold Tu.nUL at HO4
          go_wp2_with fail
          refine HO4.out.mono ?_
          rintro e w4 ⟨rfl, hb4⟩
          rw [show (⟨#[117, 112, 108, 111, 97, 100, 45, 108, 101, 110, 103, 116, 104]⟩ : ByteArray) = Tu.nUL from rfl]
          have H4 := Hid.mk' (H3.out.stay L hb4); have HW4 := Hid.mk' (then_ HW3.out hb4)
          clear hb4 HO4 H3 HW3 x0 x1 x2 x3 x4 d0 d1 d3
          obtain ⟨x0, x1, x2, x3, x4, d0, d1, d3⟩ := HC.out _ _ _ H4.out
          have hte : Tu.tell u l = (0 ≤ (Tu.numIn (Tu.one (Tu.vals Tu.nUL l))).1 ∧ u.size < 0) := rfl
          simp only [hte] at HD
          clear hte
          generalize Tu.numIn (Tu.one (Tu.vals Tu.nUL l)) = rz at *
          obtain ⟨z, okz⟩ := rz
          simp only at HD ⊢
          subst hnl
          cases okz with
          | false =>
            rw [if_pos (Or.inl rfl)] at HD
            go_wp2_with fail
            refine (said_none_any 400 _).mono ?_
            rintro e w9 ⟨ao9, cap9, rfl, hO9, hB9⟩
            obtain ⟨⟨z0, z1, z2, y0, y1, y2⟩, HE⟩ := H4.out.ends L (i := 2) rfl (b := w.heap.size + 1 + 1) (by first | rfl | omega) (st := 400) (sti := 400) rfl rfl (Nat.le_trans (Nat.le_add_right _ _) H4.out.sz) hO9 hB9
            clear hO9 hB9
            go_wp2
            generalize (((w9.setCell ⟨w.heap.size + 1 + 1, 0, none⟩ (.int .i64 400)).setCell ⟨w.heap.size + 1 + 1, 1, none⟩ (.slice ao9 1 cap9)).setCell ⟨w.heap.size + 1 + 1, 2, none⟩ (.slice none 0 0)) = wf at *
            obtain ⟨q0, q1, q2, q3⟩ := HE.out
            refine bodyPost_ret (v := .agg #[.int .i64 400, .slice ao9 1 cap9, .slice none 0 0]) (by simp [results, Tryz.results36, go_sem, q0, q1, q2]) rfl ?_
            rw [HD.out]
            exact q3
          | true =>
          by_cases hz0 : 0 ≤ z
          · have tz0 : decide (z ≥ 0) = true := decide_eq_true hz0
            by_cases hu0 : u.size < 0
            · have tu0 : decide (u.size ≥ 0) = false := decide_eq_false (by omega)
              have tu1 : decide (u.size < 0) = true := decide_eq_true hu0
              rw [if_neg (by simp; omega)] at HD
              by_cases hz2 : 2000 < z
              · rw [if_pos ⟨⟨hz0, hu0⟩, Or.inl hz2⟩] at HD
                have tz2 : decide (z > 2000) = true := decide_eq_true hz2
                go_wp2_with fail
                refine (said_none_any 413 _).mono ?_
                rintro e w9 ⟨ao9, cap9, rfl, hO9, hB9⟩
                obtain ⟨⟨z0, z1, z2, y0, y1, y2⟩, HE⟩ := H4.out.ends L (i := 2) rfl (b := w.heap.size + 1 + 1) (by first | rfl | omega) (st := 413) (sti := 413) rfl rfl (Nat.le_trans (Nat.le_add_right _ _) H4.out.sz) hO9 hB9
                clear hO9 hB9
                go_wp2
                generalize (((w9.setCell ⟨w.heap.size + 1 + 1, 0, none⟩ (.int .i64 413)).setCell ⟨w.heap.size + 1 + 1, 1, none⟩ (.slice ao9 1 cap9)).setCell ⟨w.heap.size + 1 + 1, 2, none⟩ (.slice none 0 0)) = wf at *
                obtain ⟨q0, q1, q2, q3⟩ := HE.out
                refine bodyPost_ret (v := .agg #[.int .i64 413, .slice ao9 1 cap9, .slice none 0 0]) (by simp [results, Tryz.results36, go_sem, q0, q1, q2]) rfl ?_
                rw [HD.out]
                exact q3
              · have tz2 : decide (z > 2000) = false := decide_eq_false hz2
                by_cases hz3 : z < (u.bytes.length : Int) + (body.length : Int)
                · rw [if_pos ⟨⟨hz0, hu0⟩, Or.inr hz3⟩] at HD
                  have tz3 : decide (z < (u.bytes.length : Int) + (body.length : Int)) = true := decide_eq_true hz3
                  go_wp2_with fail
                  refine (said_none_any 413 _).mono ?_
                  rintro e w9 ⟨ao9, cap9, rfl, hO9, hB9⟩
                  obtain ⟨⟨z0, z1, z2, y0, y1, y2⟩, HE⟩ := H4.out.ends L (i := 2) rfl (b := w.heap.size + 1 + 1) (by first | rfl | omega) (st := 413) (sti := 413) rfl rfl (Nat.le_trans (Nat.le_add_right _ _) H4.out.sz) hO9 hB9
                  clear hO9 hB9
                  go_wp2
                  generalize (((w9.setCell ⟨w.heap.size + 1 + 1, 0, none⟩ (.int .i64 413)).setCell ⟨w.heap.size + 1 + 1, 1, none⟩ (.slice ao9 1 cap9)).setCell ⟨w.heap.size + 1 + 1, 2, none⟩ (.slice none 0 0)) = wf at *
                  obtain ⟨q0, q1, q2, q3⟩ := HE.out
                  refine bodyPost_ret (v := .agg #[.int .i64 413, .slice ao9 1 cap9, .slice none 0 0]) (by simp [results, Tryz.results36, go_sem, q0, q1, q2]) rfl ?_
                  rw [HD.out]
                  exact q3
                · rw [if_neg (fun e => by rcases e.2 with e | e; exact hz2 e; exact hz3 e)] at HD
                  have tz3 : decide (z < (u.bytes.length : Int) + (body.length : Int)) = false := decide_eq_false hz3
                  have HRm := Hid.mk' (roomSh_any H4.out.sh HOk.out ((body.length : Int) + 60))
                  have hfew := HOk.out.few
                  by_cases hr : 100000 < s.log.length + (body.length + 60)
                  · rw [if_pos hr] at HD
                    have hrb : (decide (0 ≤ (body.length : Int) + 60) && decide ((body.length : Int) + 60 ≤ 100000 - (s.log.length : Int))) = false := by
                      rw [Bool.and_eq_false_iff]; right; exact decide_eq_false (by omega)
                    rw [hrb] at HRm
                    clear hrb hr hfew
                    go_wp2_with fail
                    refine HRm.out.mono ?_
                    rintro e w5 ⟨rfl, hw⟩
                    subst hw
                    clear HRm
                    go_wp2_with fail
                    refine (said_none_any 507 _).mono ?_
                    rintro e w9 ⟨ao9, cap9, rfl, hO9, hB9⟩
                    obtain ⟨⟨z0, z1, z2, y0, y1, y2⟩, HE⟩ := H4.out.ends L (i := 2) rfl (b := w.heap.size + 1 + 1) (by first | rfl | omega) (st := 507) (sti := 507) rfl rfl (Nat.le_trans (Nat.le_add_right _ _) H4.out.sz) hO9 hB9
                    clear hO9 hB9
                    go_wp2
                    generalize (((w9.setCell ⟨w.heap.size + 1 + 1, 0, none⟩ (.int .i64 507)).setCell ⟨w.heap.size + 1 + 1, 1, none⟩ (.slice ao9 1 cap9)).setCell ⟨w.heap.size + 1 + 1, 2, none⟩ (.slice none 0 0)) = wf at *
                    obtain ⟨q0, q1, q2, q3⟩ := HE.out
                    refine bodyPost_ret (v := .agg #[.int .i64 507, .slice ao9 1 cap9, .slice none 0 0]) (by simp [results, Tryz.results36, go_sem, q0, q1, q2]) rfl ?_
                    rw [HD.out]
                    exact q3
                  · rw [if_neg hr] at HD
                    have hrb : (decide (0 ≤ (body.length : Int) + 60) && decide ((body.length : Int) + 60 ≤ 100000 - (s.log.length : Int))) = true := by
                      rw [Bool.and_eq_true]; exact ⟨decide_eq_true (by omega), decide_eq_true (by omega)⟩
                    rw [hrb] at HRm
                    clear hrb hr hfew
                    have HAp := Hid.mk' (appendSh_any H4.out.sh HOk.out u.id (u.bytes.length : Int) bo body.length bcap body (HBd.out _ HW4.out) rfl (by omega))
                    go_wp2_with fail
                    refine HRm.out.mono ?_
                    rintro e w5 ⟨rfl, hw⟩
                    subst hw
                    clear HRm
                    go_wp2_with fail
                    refine HAp.out.mono ?_
                    rintro e w6 ⟨rfl, hat, hT⟩
                    have H6 := Hid.mk' (H4.out.did hat hT)
                    have HK6 := Hid.mk' (HOk.out.append u.id (u.bytes.length : Int) body)
                    have HSm : Hid ((Sr.append s u.id (u.bytes.length : Int) body).2 ≠ 0 → (Sr.append s u.id (u.bytes.length : Int) body).1 = s) := fun e => by unfold Sr.append at e ⊢; exact Tu.write_same e
                    clear hat hT HAp H4 HW4 x0 x1 x2 x3 x4 d0 d1 d3
                    obtain ⟨x0, x1, x2, x3, x4, d0, d1, d3⟩ := HC.out _ _ _ H6.out
                    generalize Sr.append s u.id (u.bytes.length : Int) body = ra at *
                    obtain ⟨sa, ca⟩ := ra
                    simp only at HD HSm H6 HK6 ⊢
                    by_cases hca : ca = 0
                    · subst hca
                      rw [if_neg (by simp)] at HD
                      rw [if_pos ⟨hz0, hu0⟩] at HD
                      have HDc := Hid.mk' (declareSh_any H6.out.sh HK6.out u.id z)
                      go_wp2_with fail
                      refine HDc.out.mono ?_
                      rintro e wd ⟨rfl, hatd, hTd⟩
                      have Hd := Hid.mk' (H6.out.did hatd hTd)
                      clear hatd hTd HDc
                      have HSy := Hid.mk' (syncSh_any Hd.out.sh)
                      have HNm : Hid (∀ W, Calls Tryz.prog 21 #[.int .i64 ((u.bytes.length : Int) + (body.length : Int))] W fun e w' => e = .returned (.string (Tu.dec (u.bytes.length + body.length))) ∧ ∃ m, w' = W.drewN m) := fun W => by
                        have := num_f 8 (u.bytes.length + body.length) W (by omega) (by omega) (by omega)
                        rw [Int.natCast_add] at this
                        exact this
                      generalize Tu.dec (u.bytes.length + body.length) = db at *
                      go_wp2_with fail
                      refine HSy.out.mono ?_
                      rintro e w8 ⟨rfl, hat8, hT8⟩
                      have H8 := Hid.mk' (Hd.out.turned hat8 hT8)
                      clear hat8 hT8 HSy Hd H6 x0 x1 x2 x3 x4 d0 d1 d3
                      go_wp2_with fail
                      refine (HNm.out _).mono ?_
                      rintro e w7 ⟨rfl, q7, hw⟩
                      have H7 := Hid.mk' (H8.out.stay L (W' := w7) (by rw [hw]; exact below_drewN (Below.refl _ _) q7))
                      clear hw HNm
                      have HSd := Hid.mk' (said_one_any 204 Tu.fUO db (some ⟨w7.heap.size, 0, none⟩) _ (IsV.made w7 #[.string Tu.fUO, .string db] 2 9 (0, 0)))
                      have H7a := Hid.mk' (H7.out.stay L ((Below.refl _ w7).alloc (Nat.le_refl _) (.cells #[.string Tu.fUO, .string db] 9)))
                      unfold Tu.fUO at HSd H7a
                      go_wp2_with fail
                      refine HSd.out.mono ?_
                      rintro e w9 ⟨ao9, cap9, rfl, hO9, hB9⟩
                      obtain ⟨⟨z0, z1, z2, y0, y1, y2⟩, HE⟩ := H7a.out.ends L (i := 2) rfl (b := w.heap.size + 1 + 1) (by first | rfl | omega) (st := 204) (sti := 204) rfl rfl (Nat.le_trans (Nat.le_add_right _ _) H7a.out.sz) hO9 hB9
                      clear hO9 hB9
                      go_wp2
                      generalize (((w9.setCell ⟨w.heap.size + 1 + 1, 0, none⟩ (.int .i64 204)).setCell ⟨w.heap.size + 1 + 1, 1, none⟩ (.slice ao9 2 cap9)).setCell ⟨w.heap.size + 1 + 1, 2, none⟩ (.slice none 0 0)) = wf at *
                      obtain ⟨q0, q1, q2, q3⟩ := HE.out
                      refine bodyPost_ret (v := .agg #[.int .i64 204, .slice ao9 2 cap9, .slice none 0 0]) (by simp [results, Tryz.results36, go_sem, q0, q1, q2]) rfl ?_
                      rw [HD.out]
                      exact q3
                    · rw [if_pos hca] at HD
                      have hsa := HSm.out hca
                      subst hsa
                      have tca : ((ca : Int) != 0) = true := by rw [bne_iff_ne]; omega
                      go_wp2_with fail
                      refine (statusOf_any ca _).mono ?_
                      rintro e w7 ⟨rfl, hw⟩
                      subst hw
                      go_wp2_with fail
                      refine (said_none_any ((Tu.status ca : Nat) : Int) _).mono ?_
                      rintro e w9 ⟨ao9, cap9, rfl, hO9, hB9⟩
                      obtain ⟨⟨z0, z1, z2, y0, y1, y2⟩, HE⟩ := H6.out.ends L (i := 2) rfl (b := w.heap.size + 1 + 1) (by first | rfl | omega) (st := Tu.status ca) (sti := ((Tu.status ca : Nat) : Int)) rfl rfl (Nat.le_trans (Nat.le_add_right _ _) H6.out.sz) hO9 hB9
                      clear hO9 hB9
                      go_wp2
                      generalize (((w9.setCell ⟨w.heap.size + 1 + 1, 0, none⟩ (.int .i64 ((Tu.status ca : Nat) : Int))).setCell ⟨w.heap.size + 1 + 1, 1, none⟩ (.slice ao9 1 cap9)).setCell ⟨w.heap.size + 1 + 1, 2, none⟩ (.slice none 0 0)) = wf at *
                      obtain ⟨q0, q1, q2, q3⟩ := HE.out
                      refine bodyPost_ret (v := .agg #[.int .i64 ((Tu.status ca : Nat) : Int), .slice ao9 1 cap9, .slice none 0 0]) (by simp [results, Tryz.results36, go_sem, q0, q1, q2]) rfl ?_
                      rw [HD.out]
                      exact q3
            · have tu0 : decide (u.size ≥ 0) = true := decide_eq_true (by omega)
              have tu1 : decide (u.size < 0) = false := decide_eq_false hu0
              have hnt : ¬ (0 ≤ z ∧ u.size < 0) := fun e => hu0 e.2
              by_cases hzu : z = u.size
              · rw [if_neg (by simp [hzu]), if_neg (fun e => hnt e.1)] at HD
                have tzu : (z != u.size) = false := by rw [hzu]; simp
                have HRm := Hid.mk' (roomSh_any H4.out.sh HOk.out ((body.length : Int) + 60))
                have hfew := HOk.out.few
                by_cases hr : 100000 < s.log.length + (body.length + 60)
                · rw [if_pos hr] at HD
                  have hrb : (decide (0 ≤ (body.length : Int) + 60) && decide ((body.length : Int) + 60 ≤ 100000 - (s.log.length : Int))) = false := by
                    rw [Bool.and_eq_false_iff]; right; exact decide_eq_false (by omega)
                  rw [hrb] at HRm
                  clear hrb hr hfew
                  go_wp2_with fail
                  refine HRm.out.mono ?_
                  rintro e w5 ⟨rfl, hw⟩
                  subst hw
                  clear HRm
                  go_wp2_with fail
                  refine (said_none_any 507 _).mono ?_
                  rintro e w9 ⟨ao9, cap9, rfl, hO9, hB9⟩
                  obtain ⟨⟨z0, z1, z2, y0, y1, y2⟩, HE⟩ := H4.out.ends L (i := 2) rfl (b := w.heap.size + 1 + 1) (by first | rfl | omega) (st := 507) (sti := 507) rfl rfl (Nat.le_trans (Nat.le_add_right _ _) H4.out.sz) hO9 hB9
                  clear hO9 hB9
                  go_wp2
                  generalize (((w9.setCell ⟨w.heap.size + 1 + 1, 0, none⟩ (.int .i64 507)).setCell ⟨w.heap.size + 1 + 1, 1, none⟩ (.slice ao9 1 cap9)).setCell ⟨w.heap.size + 1 + 1, 2, none⟩ (.slice none 0 0)) = wf at *
                  obtain ⟨q0, q1, q2, q3⟩ := HE.out
                  refine bodyPost_ret (v := .agg #[.int .i64 507, .slice ao9 1 cap9, .slice none 0 0]) (by simp [results, Tryz.results36, go_sem, q0, q1, q2]) rfl ?_
                  rw [HD.out]
                  exact q3
                · rw [if_neg hr] at HD
                  have hrb : (decide (0 ≤ (body.length : Int) + 60) && decide ((body.length : Int) + 60 ≤ 100000 - (s.log.length : Int))) = true := by
                    rw [Bool.and_eq_true]; exact ⟨decide_eq_true (by omega), decide_eq_true (by omega)⟩
                  rw [hrb] at HRm
                  clear hrb hr hfew
                  have HAp := Hid.mk' (appendSh_any H4.out.sh HOk.out u.id (u.bytes.length : Int) bo body.length bcap body (HBd.out _ HW4.out) rfl (by omega))
                  go_wp2_with fail
                  refine HRm.out.mono ?_
                  rintro e w5 ⟨rfl, hw⟩
                  subst hw
                  clear HRm
                  go_wp2_with fail
                  refine HAp.out.mono ?_
                  rintro e w6 ⟨rfl, hat, hT⟩
                  have H6 := Hid.mk' (H4.out.did hat hT)
                  have HK6 := Hid.mk' (HOk.out.append u.id (u.bytes.length : Int) body)
                  have HSm : Hid ((Sr.append s u.id (u.bytes.length : Int) body).2 ≠ 0 → (Sr.append s u.id (u.bytes.length : Int) body).1 = s) := fun e => by unfold Sr.append at e ⊢; exact Tu.write_same e
                  clear hat hT HAp H4 HW4 x0 x1 x2 x3 x4 d0 d1 d3
                  obtain ⟨x0, x1, x2, x3, x4, d0, d1, d3⟩ := HC.out _ _ _ H6.out
                  generalize Sr.append s u.id (u.bytes.length : Int) body = ra at *
                  obtain ⟨sa, ca⟩ := ra
                  simp only at HD HSm H6 HK6 ⊢
                  by_cases hca : ca = 0
                  · subst hca
                    rw [if_neg (by simp)] at HD
                    rw [if_neg hnt] at HD
                    have HSy := Hid.mk' (syncSh_any H6.out.sh)
                    have HNm : Hid (∀ W, Calls Tryz.prog 21 #[.int .i64 ((u.bytes.length : Int) + (body.length : Int))] W fun e w' => e = .returned (.string (Tu.dec (u.bytes.length + body.length))) ∧ ∃ m, w' = W.drewN m) := fun W => by
                      have := num_f 8 (u.bytes.length + body.length) W (by omega) (by omega) (by omega)
                      rw [Int.natCast_add] at this
                      exact this
                    generalize Tu.dec (u.bytes.length + body.length) = db at *
                    go_wp2_with fail
                    refine HSy.out.mono ?_
                    rintro e w8 ⟨rfl, hat8, hT8⟩
                    have H8 := Hid.mk' (H6.out.turned hat8 hT8)
                    clear hat8 hT8 HSy H6 x0 x1 x2 x3 x4 d0 d1 d3
                    go_wp2_with fail
                    refine (HNm.out _).mono ?_
                    rintro e w7 ⟨rfl, q7, hw⟩
                    have H7 := Hid.mk' (H8.out.stay L (W' := w7) (by rw [hw]; exact below_drewN (Below.refl _ _) q7))
                    clear hw HNm
                    have HSd := Hid.mk' (said_one_any 204 Tu.fUO db (some ⟨w7.heap.size, 0, none⟩) _ (IsV.made w7 #[.string Tu.fUO, .string db] 2 9 (0, 0)))
                    have H7a := Hid.mk' (H7.out.stay L ((Below.refl _ w7).alloc (Nat.le_refl _) (.cells #[.string Tu.fUO, .string db] 9)))
                    unfold Tu.fUO at HSd H7a
                    go_wp2_with fail
                    refine HSd.out.mono ?_
                    rintro e w9 ⟨ao9, cap9, rfl, hO9, hB9⟩
                    obtain ⟨⟨z0, z1, z2, y0, y1, y2⟩, HE⟩ := H7a.out.ends L (i := 2) rfl (b := w.heap.size + 1 + 1) (by first | rfl | omega) (st := 204) (sti := 204) rfl rfl (Nat.le_trans (Nat.le_add_right _ _) H7a.out.sz) hO9 hB9
                    clear hO9 hB9
                    go_wp2
                    generalize (((w9.setCell ⟨w.heap.size + 1 + 1, 0, none⟩ (.int .i64 204)).setCell ⟨w.heap.size + 1 + 1, 1, none⟩ (.slice ao9 2 cap9)).setCell ⟨w.heap.size + 1 + 1, 2, none⟩ (.slice none 0 0)) = wf at *
                    obtain ⟨q0, q1, q2, q3⟩ := HE.out
                    refine bodyPost_ret (v := .agg #[.int .i64 204, .slice ao9 2 cap9, .slice none 0 0]) (by simp [results, Tryz.results36, go_sem, q0, q1, q2]) rfl ?_
                    rw [HD.out]
                    exact q3
                  · rw [if_pos hca] at HD
                    have hsa := HSm.out hca
                    subst hsa
                    have tca : ((ca : Int) != 0) = true := by rw [bne_iff_ne]; omega
                    go_wp2_with fail
                    refine (statusOf_any ca _).mono ?_
                    rintro e w7 ⟨rfl, hw⟩
                    subst hw
                    go_wp2_with fail
                    refine (said_none_any ((Tu.status ca : Nat) : Int) _).mono ?_
                    rintro e w9 ⟨ao9, cap9, rfl, hO9, hB9⟩
                    obtain ⟨⟨z0, z1, z2, y0, y1, y2⟩, HE⟩ := H6.out.ends L (i := 2) rfl (b := w.heap.size + 1 + 1) (by first | rfl | omega) (st := Tu.status ca) (sti := ((Tu.status ca : Nat) : Int)) rfl rfl (Nat.le_trans (Nat.le_add_right _ _) H6.out.sz) hO9 hB9
                    clear hO9 hB9
                    go_wp2
                    generalize (((w9.setCell ⟨w.heap.size + 1 + 1, 0, none⟩ (.int .i64 ((Tu.status ca : Nat) : Int))).setCell ⟨w.heap.size + 1 + 1, 1, none⟩ (.slice ao9 1 cap9)).setCell ⟨w.heap.size + 1 + 1, 2, none⟩ (.slice none 0 0)) = wf at *
                    obtain ⟨q0, q1, q2, q3⟩ := HE.out
                    refine bodyPost_ret (v := .agg #[.int .i64 ((Tu.status ca : Nat) : Int), .slice ao9 1 cap9, .slice none 0 0]) (by simp [results, Tryz.results36, go_sem, q0, q1, q2]) rfl ?_
                    rw [HD.out]
                    exact q3
              · rw [if_pos (Or.inr ⟨hz0, by omega, hzu⟩)] at HD
                have tzu : (z != u.size) = true := by rw [bne_iff_ne]; exact hzu
                go_wp2_with fail
                refine (said_none_any 400 _).mono ?_
                rintro e w9 ⟨ao9, cap9, rfl, hO9, hB9⟩
                obtain ⟨⟨z0, z1, z2, y0, y1, y2⟩, HE⟩ := H4.out.ends L (i := 2) rfl (b := w.heap.size + 1 + 1) (by first | rfl | omega) (st := 400) (sti := 400) rfl rfl (Nat.le_trans (Nat.le_add_right _ _) H4.out.sz) hO9 hB9
                clear hO9 hB9
                go_wp2
                generalize (((w9.setCell ⟨w.heap.size + 1 + 1, 0, none⟩ (.int .i64 400)).setCell ⟨w.heap.size + 1 + 1, 1, none⟩ (.slice ao9 1 cap9)).setCell ⟨w.heap.size + 1 + 1, 2, none⟩ (.slice none 0 0)) = wf at *
                obtain ⟨q0, q1, q2, q3⟩ := HE.out
                refine bodyPost_ret (v := .agg #[.int .i64 400, .slice ao9 1 cap9, .slice none 0 0]) (by simp [results, Tryz.results36, go_sem, q0, q1, q2]) rfl ?_
                rw [HD.out]
                exact q3
          · have tz0 : decide (z ≥ 0) = false := decide_eq_false hz0
            have hnt : ¬ (0 ≤ z ∧ u.size < 0) := fun e => hz0 e.1
            rw [if_neg (by simp [hz0]), if_neg (fun e => hnt e.1)] at HD
            have HRm := Hid.mk' (roomSh_any H4.out.sh HOk.out ((body.length : Int) + 60))
            have hfew := HOk.out.few
            by_cases hr : 100000 < s.log.length + (body.length + 60)
            · rw [if_pos hr] at HD
              have hrb : (decide (0 ≤ (body.length : Int) + 60) && decide ((body.length : Int) + 60 ≤ 100000 - (s.log.length : Int))) = false := by
                rw [Bool.and_eq_false_iff]; right; exact decide_eq_false (by omega)
              rw [hrb] at HRm
              clear hrb hr hfew
              go_wp2_with fail
              refine HRm.out.mono ?_
              rintro e w5 ⟨rfl, hw⟩
              subst hw
              clear HRm
              go_wp2_with fail
              refine (said_none_any 507 _).mono ?_
              rintro e w9 ⟨ao9, cap9, rfl, hO9, hB9⟩
              obtain ⟨⟨z0, z1, z2, y0, y1, y2⟩, HE⟩ := H4.out.ends L (i := 2) rfl (b := w.heap.size + 1 + 1) (by first | rfl | omega) (st := 507) (sti := 507) rfl rfl (Nat.le_trans (Nat.le_add_right _ _) H4.out.sz) hO9 hB9
              clear hO9 hB9
              go_wp2
              generalize (((w9.setCell ⟨w.heap.size + 1 + 1, 0, none⟩ (.int .i64 507)).setCell ⟨w.heap.size + 1 + 1, 1, none⟩ (.slice ao9 1 cap9)).setCell ⟨w.heap.size + 1 + 1, 2, none⟩ (.slice none 0 0)) = wf at *
              obtain ⟨q0, q1, q2, q3⟩ := HE.out
              refine bodyPost_ret (v := .agg #[.int .i64 507, .slice ao9 1 cap9, .slice none 0 0]) (by simp [results, Tryz.results36, go_sem, q0, q1, q2]) rfl ?_
              rw [HD.out]
              exact q3
            · rw [if_neg hr] at HD
              have hrb : (decide (0 ≤ (body.length : Int) + 60) && decide ((body.length : Int) + 60 ≤ 100000 - (s.log.length : Int))) = true := by
                rw [Bool.and_eq_true]; exact ⟨decide_eq_true (by omega), decide_eq_true (by omega)⟩
              rw [hrb] at HRm
              clear hrb hr hfew
              have HAp := Hid.mk' (appendSh_any H4.out.sh HOk.out u.id (u.bytes.length : Int) bo body.length bcap body (HBd.out _ HW4.out) rfl (by omega))
              go_wp2_with fail
              refine HRm.out.mono ?_
              rintro e w5 ⟨rfl, hw⟩
              subst hw
              clear HRm
              go_wp2_with fail
              refine HAp.out.mono ?_
              rintro e w6 ⟨rfl, hat, hT⟩
              have H6 := Hid.mk' (H4.out.did hat hT)
              have HK6 := Hid.mk' (HOk.out.append u.id (u.bytes.length : Int) body)
              have HSm : Hid ((Sr.append s u.id (u.bytes.length : Int) body).2 ≠ 0 → (Sr.append s u.id (u.bytes.length : Int) body).1 = s) := fun e => by unfold Sr.append at e ⊢; exact Tu.write_same e
              clear hat hT HAp H4 HW4 x0 x1 x2 x3 x4 d0 d1 d3
              obtain ⟨x0, x1, x2, x3, x4, d0, d1, d3⟩ := HC.out _ _ _ H6.out
              generalize Sr.append s u.id (u.bytes.length : Int) body = ra at *
              obtain ⟨sa, ca⟩ := ra
              simp only at HD HSm H6 HK6 ⊢
              by_cases hca : ca = 0
              · subst hca
                rw [if_neg (by simp)] at HD
                rw [if_neg hnt] at HD
                have HSy := Hid.mk' (syncSh_any H6.out.sh)
                have HNm : Hid (∀ W, Calls Tryz.prog 21 #[.int .i64 ((u.bytes.length : Int) + (body.length : Int))] W fun e w' => e = .returned (.string (Tu.dec (u.bytes.length + body.length))) ∧ ∃ m, w' = W.drewN m) := fun W => by
                  have := num_f 8 (u.bytes.length + body.length) W (by omega) (by omega) (by omega)
                  rw [Int.natCast_add] at this
                  exact this
                generalize Tu.dec (u.bytes.length + body.length) = db at *
                go_wp2_with fail
                refine HSy.out.mono ?_
                rintro e w8 ⟨rfl, hat8, hT8⟩
                have H8 := Hid.mk' (H6.out.turned hat8 hT8)
                clear hat8 hT8 HSy H6 x0 x1 x2 x3 x4 d0 d1 d3
                go_wp2_with fail
                refine (HNm.out _).mono ?_
                rintro e w7 ⟨rfl, q7, hw⟩
                have H7 := Hid.mk' (H8.out.stay L (W' := w7) (by rw [hw]; exact below_drewN (Below.refl _ _) q7))
                clear hw HNm
                have HSd := Hid.mk' (said_one_any 204 Tu.fUO db (some ⟨w7.heap.size, 0, none⟩) _ (IsV.made w7 #[.string Tu.fUO, .string db] 2 9 (0, 0)))
                have H7a := Hid.mk' (H7.out.stay L ((Below.refl _ w7).alloc (Nat.le_refl _) (.cells #[.string Tu.fUO, .string db] 9)))
                unfold Tu.fUO at HSd H7a
                go_wp2_with fail
                refine HSd.out.mono ?_
                rintro e w9 ⟨ao9, cap9, rfl, hO9, hB9⟩
                obtain ⟨⟨z0, z1, z2, y0, y1, y2⟩, HE⟩ := H7a.out.ends L (i := 2) rfl (b := w.heap.size + 1 + 1) (by first | rfl | omega) (st := 204) (sti := 204) rfl rfl (Nat.le_trans (Nat.le_add_right _ _) H7a.out.sz) hO9 hB9
                clear hO9 hB9
                go_wp2
                generalize (((w9.setCell ⟨w.heap.size + 1 + 1, 0, none⟩ (.int .i64 204)).setCell ⟨w.heap.size + 1 + 1, 1, none⟩ (.slice ao9 2 cap9)).setCell ⟨w.heap.size + 1 + 1, 2, none⟩ (.slice none 0 0)) = wf at *
                obtain ⟨q0, q1, q2, q3⟩ := HE.out
                refine bodyPost_ret (v := .agg #[.int .i64 204, .slice ao9 2 cap9, .slice none 0 0]) (by simp [results, Tryz.results36, go_sem, q0, q1, q2]) rfl ?_
                rw [HD.out]
                exact q3
              · rw [if_pos hca] at HD
                have hsa := HSm.out hca
                subst hsa
                have tca : ((ca : Int) != 0) = true := by rw [bne_iff_ne]; omega
                go_wp2_with fail
                refine (statusOf_any ca _).mono ?_
                rintro e w7 ⟨rfl, hw⟩
                subst hw
                go_wp2_with fail
                refine (said_none_any ((Tu.status ca : Nat) : Int) _).mono ?_
                rintro e w9 ⟨ao9, cap9, rfl, hO9, hB9⟩
                obtain ⟨⟨z0, z1, z2, y0, y1, y2⟩, HE⟩ := H6.out.ends L (i := 2) rfl (b := w.heap.size + 1 + 1) (by first | rfl | omega) (st := Tu.status ca) (sti := ((Tu.status ca : Nat) : Int)) rfl rfl (Nat.le_trans (Nat.le_add_right _ _) H6.out.sz) hO9 hB9
                clear hO9 hB9
                go_wp2
                generalize (((w9.setCell ⟨w.heap.size + 1 + 1, 0, none⟩ (.int .i64 ((Tu.status ca : Nat) : Int))).setCell ⟨w.heap.size + 1 + 1, 1, none⟩ (.slice ao9 1 cap9)).setCell ⟨w.heap.size + 1 + 1, 2, none⟩ (.slice none 0 0)) = wf at *
                obtain ⟨q0, q1, q2, q3⟩ := HE.out
                refine bodyPost_ret (v := .agg #[.int .i64 ((Tu.status ca : Nat) : Int), .slice ao9 1 cap9, .slice none 0 0]) (by simp [results, Tryz.results36, go_sem, q0, q1, q2]) rfl ?_
                rw [HD.out]
                exact q3
        · rw [if_pos hnl] at HD
          have tl : (n != (u.bytes.length : Int)) = true := by rw [bne_iff_ne]; exact hnl
          go_wp2_with fail
          refine (said_none_any 409 _).mono ?_
          rintro e w9 ⟨ao9, cap9, rfl, hO9, hB9⟩
          obtain ⟨⟨z0, z1, z2, y0, y1, y2⟩, HE⟩ := H3.out.ends L (i := 2) rfl (b := w.heap.size + 1 + 1) (by first | rfl | omega) (st := 409) (sti := 409) rfl rfl (Nat.le_trans (Nat.le_add_right _ _) H3.out.sz) hO9 hB9
          clear hO9 hB9
          go_wp2
          generalize (((w9.setCell ⟨w.heap.size + 1 + 1, 0, none⟩ (.int .i64 409)).setCell ⟨w.heap.size + 1 + 1, 1, none⟩ (.slice ao9 1 cap9)).setCell ⟨w.heap.size + 1 + 1, 2, none⟩ (.slice none 0 0)) = wf at *
          obtain ⟨q0, q1, q2, q3⟩ := HE.out
          refine bodyPost_ret (v := .agg #[.int .i64 409, .slice ao9 1 cap9, .slice none 0 0]) (by simp [results, Tryz.results36, go_sem, q0, q1, q2]) rfl ?_
          rw [HD.out]
          exact q3
end Go.Proofs.YtdclmpdjjkjfjaaGreatDoor
