/- Small texts, one behind the other: ShW, ShF, ShH, LwStH. -/
import Derived.Test.YtanpocgojmflgaaGreatDoorPk14
import Derived.Test.YtanpocgojmflgaaGreatDoorShP
import Derived.Test.YtanpocgojmflgaaGreatDoorJrE
import Derived.Test.YtanpocgojmflgaaGreatDoorBtInfo
import Derived.Test.YtanpocgojmflgaaGreatDoorPk7
import Derived.Test.YtanpocgojmflgaaGreatDoorRfEn
import Derived.Test.YtanpocgojmflgaaGreatDoorPk13
import Derived.Test.YtanpocgojmflgaaGreatDoorPk16
import Derived.Deep.DeepCutAuto
import Derived.Deep.QuietTactic
import Derived.BigQuiet
import Derived.Deep.RegionHeld3
/- The document's own store, walked: write. -/
namespace Go.Proofs.YtanpocgojmflgaaGreatDoor
open Go.RowKit

theorem encOut_no' {x : Jn.E} (h : Jn.fits x = false) : encOut x = ([], 1) := by unfold encOut; rw [if_neg (by simp [h])]
theorem encOut_yes' {x : Jn.E} (h : Jn.fits x = true) : encOut x = (Jn.enc x, 0) := by unfold encOut; rw [if_pos h]
theorem Did.newH {B : Nat} {w w' : World} {g tO : Nat} {r : Sp.St × Nat} {e : Ending} (h : Did (fun k => B ≤ k) tO w g r e w') (hB : B ≤ w.heap.size) : e = .returned (.int .i64 (r.2 : Int)) ∧ SpAt w' (fun k => B ≤ k) tO 57 5 g r.1 ∧ Below B w w' := by
  refine ⟨h.ret, h.at_.mono (fun k _ e => ?_), h.turns.below (fun k e => e) hB⟩
  rcases e with e | e
  · exact e
  · omega
set_option maxRecDepth 100000 in
set_option maxHeartbeats 1600000 in
theorem writeSh_any (s : Sr.Sh) (S : Nat → Prop) (g : Nat) (x : Jn.E) (ta : Option Addr) (tn tc : Nat) (w : World) (h : ShAt w S g s) (ok : Sr.Ok s) (hT : IsB w ta tc x.text) (hn : x.text.length = tn) (hN : tn ≤ 1000000) :
    Calls Tryz.prog 60 #[.pointer (some ⟨g, 0, none⟩), .agg #[.int .i64 x.kind, .int .i64 x.id, .int .i64 x.n, .slice ta tn tc]] w (ShDid S w g (Sr.write s (Sr.played s.h x) x)) := by
  obtain ⟨gh, ao, ca, P, hI⟩ := h
  have hbA := (Below.refl _ w).alloc (Nat.le_refl _) (.cells #[.int .i64 x.kind, .int .i64 x.id, .int .i64 x.n, .slice ta tn tc] 80)
  have hI1 := hI.stay hbA
  obtain ⟨⟨c0, c1, c2⟩, _⟩ := row3 hI1.row
  obtain ⟨⟨y0, y1, y2, y3⟩, _⟩ := row4 (heap_alloc_new w (.cells #[.int .i64 x.kind, .int .i64 x.id, .int .i64 x.n, .slice ta tn tc] 80))
  have HC := Hid.mk' (copyH_any s.h P gh _ hI1.hold (Sp.Ok.small ok.h))
  have HI := Hid.mk' hI; have HBA := Hid.mk' hbA; have HT := Hid.mk' hT
  have hlt := hI.lt
  have hla := ok.last_
  have hfew := ok.few
  have HPl : Hid (∀ W g', Below w.heap.size w W → SpAt W (fun k => w.heap.size + 1 ≤ k) 49 57 5 g' s.h → Calls Tryz.prog 64 #[.pointer (some ⟨g', 0, none⟩), .agg #[.int .i64 x.kind, .int .i64 x.id, .int .i64 x.n, .slice ta tn tc]] W (Did (fun k => w.heap.size + 1 ≤ k) 49 W g' (Sr.played s.h x))) := fun W g' hb hH => playedH_any s.h _ g' x ta tn tc W hH ok.h (by omega) (HT.out.stay hb) hn hN
  obtain ⟨i0, hi0, hz0, hz1, hz2⟩ := info_parts info_u8
  have Hi := Hid.mk' hi0; have Hz0 := Hid.mk' hz0; have Hz1 := Hid.mk' hz1; have Hz2 := Hid.mk' hz2
  clear hI hI1 hbA hT ok hi0 hz0 hz1 hz2
  generalize Sr.played s.h x = r at *
  go_enter Tryz.func60, Tryz.ntmps60
  go_wp2_with fail
  refine HC.out.mono ?_
  rintro e w2 ⟨g', rfl, hH2, hb2⟩
  have hB2 : Below w.heap.size w w2 := then_ HBA.out hb2
  have hs2 : w.heap.size + 1 ≤ w2.heap.size := by have := hb2.size; simpa using this
  have HD := Hid.mk' (HPl.out w2 g' hB2 (hH2.mono (fun k _ e => by simpa using e)))
  obtain ⟨x0, x1, x2, x3⟩ := cells4 (Nat.lt_succ_self _) (hb2.mono (B' := w.heap.size + 1) (by simp))
  have HB2 := Hid.mk' hB2; have Hb2 := Hid.mk' hb2
  clear hH2 hb2 hB2 HC HPl c0 c1 c2 y0 y1 y2 y3
  go_wp2_with fail
  refine HD.out.mono ?_
  intro e w3 hd
  obtain ⟨he, hH3, hb3⟩ := hd.newH hs2
  have hbx : Below (w.heap.size + 1) (w.alloc (.cells #[.int .i64 x.kind, .int .i64 x.id, .int .i64 x.n, .slice ta tn tc] 80)) w3 := (Hb2.out.mono (by simp)).trans hb3
  have hB3 : Below w.heap.size w w3 := HB2.out.trans (hb3.mono (Nat.le_succ _))
  clear x0 x1 x2 x3
  obtain ⟨x0, x1, x2, x3⟩ := cells4 (Nat.lt_succ_self _) hbx
  have HB3 := Hid.mk' hB3; have HH3 := Hid.mk' hH3
  clear hd hH3 hb3 hbx hB3 hs2 HD HB2 Hb2
  subst he
  by_cases hc : r.2 = 0
  · have HX := Hid.mk' (entryBytes_any x ta tn tc w3 (HT.out.stay HB3.out) hn)
    rw [hc]
    cases hf : Jn.fits x with
    | false =>
      have HR : Hid (∀ W, Below w.heap.size w W → ShDid S w g (Sr.write s r x) (.returned (.int .i64 (1 : Nat))) W) := fun W hb => ShDid.none_ ⟨gh, ao, ca, P, HI.out⟩ hb (Sr.write_bad hc hf)
      unfold EncPost at HX
      rw [encOut_no' hf] at HX
      clear hc hf HI
      go_wp2_with fail
      refine HX.out.mono ?_
      rintro e w4 ⟨ao4, ca4, rfl, _, hb4⟩
      have HB4 := Hid.mk' (then_ HB3.out hb4)
      clear hb4
      go_wp2
      go_ret
      exact HR.out _ HB4.out
    | true =>
      unfold EncPost at HX
      rw [encOut_yes' hf] at HX
      have hlx : (Jn.enc x).length ≤ 1048600 := by have := Jn.enc_len hf; have := Jn.inn_len hf; omega
      by_cases hl : 100000 < s.log.length + (Jn.enc x).length
      · have HR : Hid (∀ W, Below w.heap.size w W → ShDid S w g (Sr.write s r x) (.returned (.int .i64 (16 : Nat))) W) := fun W hb => ShDid.none_ ⟨gh, ao, ca, P, HI.out⟩ hb (Sr.write_full hc hf hl)
        clear hc hf
        generalize Jn.enc x = y at *
        go_wp2_with fail
        refine HX.out.mono ?_
        rintro e w4 ⟨ao4, ca4, rfl, _, hb4⟩
        have hB4 := then_ HB3.out hb4
        obtain ⟨⟨c0, c1, c2⟩, _⟩ := row3 (HI.out.stay hB4).row
        have HB4 := Hid.mk' hB4
        clear hb4 hB4
        generalize y.length = yn at *
        generalize s.log.length = ln at *
        have tg : decide ((ln : Int) + yn > 100000) = true := by rw [decide_eq_true_eq]; omega
        go_wp2
        go_ret
        exact HR.out _ HB4.out
      · have HR : Hid (∀ W, ShAt W (orNew S w) g ⟨r.1, s.log ++ Jn.enc x, s.sure⟩ → Turns S w W → ShDid S w g (Sr.write s r x) (.returned (.int .i64 0)) W) := fun W h1 h2 => by
          rw [Sr.write_yes hc hf hl]; exact ⟨rfl, h1, h2⟩
        have hl2 : s.log.length + (Jn.enc x).length ≤ 100000 := by omega
        have tg : decide ((s.log.length : Int) + (Jn.enc x).length > 100000) = false := by rw [decide_eq_false_iff_not]; omega
        clear hc hf hl
        generalize Jn.enc x = y at *
        go_wp2_with fail
        refine HX.out.mono ?_
        rintro e w4 ⟨ao4, ca4, rfl, hO4, hb4⟩
        have hB4 := then_ HB3.out hb4
        have hI4 := HI.out.stay hB4
        obtain ⟨⟨c0, c1, c2⟩, _⟩ := row3 hI4.row
        have HO := Hid.mk' hI4.own; have HY := Hid.mk' hO4.isB
        have HH4 := Hid.mk' (((HH3.out.stay hb4).mono (S' := fun k => w.heap.size ≤ k) (fun k _ e => Nat.le_of_succ_le e)))
        have HB4 := Hid.mk' hB4
        have HLn : Hid (∀ n, n = s.log.length + y.length → n = (s.log ++ y).length) := fun n hn => by rw [hn, List.length_append]
        clear hb4 hB4 hI4 hO4
        go_wp2_with (at_builtin; refine wpList_append_at rfl (.tmp 41) (.tmp 42) 34 rfl 0 5 i0 Tryz.underlying34 Hi.out Hz0.out Hz1.out Hz2.out (l := s.log) (l2 := y) rfl rfl HO.out rfl rfl HY.out (by omega) (Nat.zero_le _) ?_; intro ao8 ca8 w8 hO8 hG8 hA8; obtain ⟨hr8, hA9, hT9⟩ := HI.out.laid HB4.out HH4.out hO8 hG8 hA8 (HLn.out _ rfl); obtain ⟨⟨d0, d1, d2⟩, e0, e1, e2⟩ := row3 hr8; have HA9 := Hid.mk' hA9; have HT9 := Hid.mk' hT9; clear hO8 hG8 hA8 hA9 hT9 hr8 c0 c1 c2)
        go_ret
        exact HR.out _ HA9.out HT9.out
  · have HR : Hid (ShDid S w g (Sr.write s r x) (.returned (.int .i64 (r.2 : Int))) w3) := ShDid.none_ ⟨gh, ao, ca, P, HI.out⟩ HB3.out (Sr.write_code hc)
    have hc' : ¬ (r.2 : Int) = 0 := by omega
    clear hc
    generalize (r.2 : Int) = rc at *
    go_wp2
    go_ret
    exact HR.out
end Go.Proofs.YtanpocgojmflgaaGreatDoor

/- The document's own store, walked: Create, Append, Declare, Drop, Begin, End. -/
namespace Go.Proofs.YtanpocgojmflgaaGreatDoor
open Go.RowKit

section
variable {s : Sr.Sh} {S : Nat → Prop} {g : Nat} {w : World}
theorem endSh_any (h : ShAt w S g s) (ok : Sr.Ok s) (id : Int) :
    Calls Tryz.prog 33 #[.pointer (some ⟨g, 0, none⟩), .int .i64 id] w (ShDid S w g (Sr.ends s id)) := by
  have HC := Hid.mk' (writeSh_any s S g ⟨6, id, 0, []⟩ none 0 0 w h ok (IsB.nil _) rfl (by decide))
  have hp : Sr.played s.h ⟨6, id, 0, []⟩ = Sp.ends s.h id := rfl
  rw [hp] at HC
  unfold Sr.ends
  generalize Sr.write s _ _ = r at *
  clear h ok hp
  go_enter Tryz.func33, Tryz.ntmps33
  go_wp2_with fail
  refine HC.out.mono ?_
  intro e w2 hd
  have HD := Hid.mk' hd
  obtain ⟨rfl, _, _⟩ := hd
  go_wp2
  go_ret
  exact HD.out
theorem beginSh_any (h : ShAt w S g s) (ok : Sr.Ok s) (id : Int) :
    Calls Tryz.prog 32 #[.pointer (some ⟨g, 0, none⟩), .int .i64 id] w (ShDid S w g (Sr.begins s id)) := by
  have HC := Hid.mk' (writeSh_any s S g ⟨5, id, 0, []⟩ none 0 0 w h ok (IsB.nil _) rfl (by decide))
  have hp : Sr.played s.h ⟨5, id, 0, []⟩ = Sp.begins s.h id := rfl
  rw [hp] at HC
  unfold Sr.begins
  generalize Sr.write s _ _ = r at *
  clear h ok hp
  go_enter Tryz.func32, Tryz.ntmps32
  go_wp2_with fail
  refine HC.out.mono ?_
  intro e w2 hd
  have HD := Hid.mk' hd
  obtain ⟨rfl, _, _⟩ := hd
  go_wp2
  go_ret
  exact HD.out
theorem dropSh_any (h : ShAt w S g s) (ok : Sr.Ok s) (id : Int) :
    Calls Tryz.prog 31 #[.pointer (some ⟨g, 0, none⟩), .int .i64 id] w (ShDid S w g (Sr.drop s id)) := by
  have HC := Hid.mk' (writeSh_any s S g ⟨4, id, 0, []⟩ none 0 0 w h ok (IsB.nil _) rfl (by decide))
  have hp : Sr.played s.h ⟨4, id, 0, []⟩ = Sp.drop s.h id := rfl
  rw [hp] at HC
  unfold Sr.drop
  generalize Sr.write s _ _ = r at *
  clear h ok hp
  go_enter Tryz.func31, Tryz.ntmps31
  go_wp2_with fail
  refine HC.out.mono ?_
  intro e w2 hd
  have HD := Hid.mk' hd
  obtain ⟨rfl, _, _⟩ := hd
  go_wp2
  go_ret
  exact HD.out
theorem declareSh_any (h : ShAt w S g s) (ok : Sr.Ok s) (id sz : Int) :
    Calls Tryz.prog 30 #[.pointer (some ⟨g, 0, none⟩), .int .i64 id, .int .i64 sz] w (ShDid S w g (Sr.declare s id sz)) := by
  have HC := Hid.mk' (writeSh_any s S g ⟨3, id, sz, []⟩ none 0 0 w h ok (IsB.nil _) rfl (by decide))
  have hp : Sr.played s.h ⟨3, id, sz, []⟩ = Sp.declare s.h id sz := rfl
  rw [hp] at HC
  unfold Sr.declare
  generalize Sr.write s _ _ = r at *
  clear h ok hp
  go_enter Tryz.func30, Tryz.ntmps30
  go_wp2_with fail
  refine HC.out.mono ?_
  intro e w2 hd
  have HD := Hid.mk' hd
  obtain ⟨rfl, _, _⟩ := hd
  go_wp2
  go_ret
  exact HD.out
theorem write_app {s : Sr.Sh} {id off : Int} {b : List UInt8} (h : (Sp.append s.h id off b).2 = 0) : Sr.append s id off b = Sr.write s (Sr.played s.h ⟨2, id, 0, b⟩) ⟨2, id, 0, b⟩ := by
  unfold Sr.append
  rw [played_2 rfl]
  show Sr.write s (Sp.append s.h id off b) _ = Sr.write s (Sp.append s.h id (Sr.lenOf s.h id) b) _
  rw [← Sr.append_len h]
theorem appendSh_any (h : ShAt w S g s) (ok : Sr.Ok s) (id off : Int) (bo : Option Addr) (bn bc : Nat) (l : List UInt8) (hb : IsB w bo bc l) (hn : l.length = bn) (hN : bn ≤ 1000000) :
    Calls Tryz.prog 29 #[.pointer (some ⟨g, 0, none⟩), .int .i64 id, .int .i64 off, .slice bo bn bc] w (ShDid S w g (Sr.append s id off l)) := by
  have HA := Hid.mk' h
  obtain ⟨gh, ao, ca, P, hI⟩ := h
  obtain ⟨⟨c0, c1, c2⟩, _⟩ := row3 hI.row
  have HC := Hid.mk' (copyH_any s.h P gh w hI.hold (Sp.Ok.small ok.h))
  have HO := Hid.mk' ok; have HB := Hid.mk' hb
  clear hI hb
  go_enter Tryz.func29, Tryz.ntmps29
  go_wp2_with fail
  refine HC.out.mono ?_
  rintro e w2 ⟨g', rfl, hH2, hb2⟩
  have HP := Hid.mk' (appendH_any s.h _ g' id off bo bn bc l w2 hH2 ok.h (HB.out.stay hb2) hn hN)
  have Hb2 := Hid.mk' hb2
  clear hH2 hb2 HC c0 c1 c2
  go_wp2_with fail
  refine HP.out.mono ?_
  intro e w3 hd
  obtain ⟨he, _, hb3⟩ := hd.newH Hb2.out.size
  have hB3 : Below w.heap.size w w3 := Hb2.out.trans hb3
  have HB3 := Hid.mk' hB3
  clear hd hb3
  subst he
  by_cases hc : (Sp.append s.h id off l).2 = 0
  · have HW := Hid.mk' (writeSh_any s S g ⟨2, id, 0, l⟩ bo bn bc w3 (HA.out.stay hB3) HO.out (HB.out.stay hB3) hn hN)
    rw [← write_app hc] at HW
    rw [hc]
    clear hB3 hc
    generalize Sr.append s id off l = r at *
    go_wp2_with fail
    refine HW.out.mono ?_
    intro e w4 hd
    have HD := Hid.mk' (ShDid.from_ HB3.out hd)
    obtain ⟨rfl, _, _⟩ := hd
    go_wp2
    go_ret
    exact HD.out
  · have HR : Hid (ShDid S w g (Sr.append s id off l) (.returned (.int .i64 ((Sp.append s.h id off l).2 : Int))) w3) := ShDid.none_ HA.out HB3.out (Sr.write_code hc)
    have hc' : ¬ ((Sp.append s.h id off l).2 : Int) = 0 := by omega
    clear hc hB3
    generalize ((Sp.append s.h id off l).2 : Int) = rc at *
    go_wp2
    go_ret
    exact HR.out
set_option maxRecDepth 100000 in
set_option maxHeartbeats 800000 in
theorem createSh_any (h : ShAt w S g s) (ok : Sr.Ok s) (sz : Int) (m : ByteArray) (hm : m.size ≤ 1000000) :
    Calls Tryz.prog 28 #[.pointer (some ⟨g, 0, none⟩), .int .i64 sz, .string m] w (ShMade S w g s (Sr.create s sz m)) := by
  have HA := Hid.mk' h
  obtain ⟨gh, ao, ca, P, hI⟩ := h
  obtain ⟨⟨c0, c1, c2⟩, _⟩ := row3 hI.row
  obtain ⟨ao2, cap2, d0, d1, _, _, _, _, _⟩ := hI.hold.cells
  have hl := ok.last_
  have hl0 := ok.h.last0
  obtain ⟨bc, W3, hcv, hb3, hs3, hIB⟩ := bytes_of (P := Tryz.prog) w m 9 34 5 Tryz.underlying9 Tryz.underlying34 Tryz.underlying5
  have HC := Hid.mk' (writeSh_any s S g ⟨1, s.h.last + 1, sz, m.data.toList⟩ (some ⟨w.heap.size, 0, none⟩) m.size bc W3 (HA.out.stay hb3) ok hIB (by simp) hm)
  have hp : Sr.played s.h ⟨1, s.h.last + 1, sz, m.data.toList⟩ = Sr.made s.h sz m := by rw [played_1' rfl]; simp only; rw [Sr.ofL_data]
  rw [hp] at HC
  have HB := Hid.mk' hb3
  unfold Sr.create
  generalize Sr.write s _ _ = r at *
  have HNu : Hid (∀ c : Nat, c = 0 → Sr.numb s c = s.h.last + 1) := fun c hc => by unfold Sr.numb; rw [if_pos hc]
  have HN0 : Hid (∀ c : Nat, c ≠ 0 → Sr.numb s c = 0) := fun c hc => by unfold Sr.numb; rw [if_neg hc]
  clear ok hI hs3 hIB hb3 c1 c2 d0 hm hp
  generalize hla : s.h.last = la at *
  clear hla
  go_enter Tryz.func28, Tryz.ntmps28
  go_wp2_with fail
  refine HC.out.mono ?_
  intro e w2 hd
  have hD := ShDid.from_ HB.out hd
  have HD := Hid.mk' hD
  clear hD
  obtain ⟨rfl, _, _⟩ := hd
  by_cases hc : r.2 = 0
  · rw [hc]
    go_wp2
    go_ret2
    exact ⟨by rw [HNu.out _ hc, hc]; rfl, HD.out.at_, HD.out.turns⟩
  · have hc' : ¬ (r.2 : Int) = 0 := by omega
    have HX : Hid (∀ v, v = (r.2 : Int) → ShMade S w g s r (.returned (.tuple #[.int .i64 0, .int .i64 v])) w2) := fun v hv => ⟨by rw [HN0.out _ hc, hv], HD.out.at_, HD.out.turns⟩
    clear hc HD
    generalize (r.2 : Int) = rc at *
    go_wp2
    go_ret2
    exact HX.out _ rfl
end
end Go.Proofs.YtanpocgojmflgaaGreatDoor

/- The document's own store, walked: Crash. -/
namespace Go.Proofs.YtanpocgojmflgaaGreatDoor
open Go.RowKit

theorem ens_cap' {w : World} {ao : Option Addr} {cap : Nat} {l : List Jn.E} (h : IsEns w ao cap l) : l.length ≤ cap := by
  obtain ⟨us, _, h2, _⟩ := h
  exact h2.1
theorem enc_ge' (e : Jn.E) : e.text.length ≤ (Jn.enc e).length := by simp [Jn.enc, Jn.inn]; omega
theorem dec_text' {b : List UInt8} {e : Jn.E} (h : e ∈ (Jn.dec b).1) : e.text.length ≤ b.length := by
  obtain ⟨_, h2, h3, _⟩ := Jn.dec_back _ b (Nat.le_refl _)
  have h4 : (Jn.enc e).length ≤ (((Jn.dec b).1.map Jn.enc).flatten).length := (List.sublist_flatten_of_mem (List.mem_map_of_mem h)).length_le
  rw [h3, List.length_take] at h4
  have := enc_ge' e
  omega
theorem turns_from {B : Nat} {w w' : World} (hb : Below B w w') : Turns (fun k => B ≤ k) w w' := ⟨hb.os, hb.tape, hb.output, hb.size, fun k _ hn => hb.block k (Nat.lt_of_not_le hn)⟩
theorem EnsAt.place {w : World} {S : Nat → Prop} {tU : Nat} {b o : Nat} {cap : Nat} {l : List Jn.E} (h : EnsAt w S tU (some ⟨b, o, none⟩) cap l) : S b := by
  obtain ⟨us, h1, h2, h3, h4⟩ := h
  exact h3 _ rfl
/-- while entries are done again: the shop's own block, its uploads in new ones -/
structure ReAt (w5 : World) (B : Nat) (l : List Jn.E) (k : Nat) (wr : World) : Prop where
  hold : HoldAt wr (fun j => B ≤ j) B (Sr.playAll Sp.new (l.take k))
  below : Below B w5 wr
set_option maxRecDepth 100000 in
set_option maxHeartbeats 3200000 in
theorem crashSh_any {s : Sr.Sh} {S : Nat → Prop} {g : Nat} {w : World} (h : ShAt w S g s) (ok : Sr.Ok s) (keep : Int) :
    Calls Tryz.prog 35 #[.pointer (some ⟨g, 0, none⟩), .int .i64 keep] w fun e w' => e = .returned (.tuple #[]) ∧ ShFell S w g (Sr.crash s keep) w' := by
  obtain ⟨gh, ao, ca, P, hI⟩ := h
  obtain ⟨⟨c0, c1, c2⟩, f0, f1, f2⟩ := row3 hI.row
  have hll := Sr.left_le ok.sure keep
  have hfew := ok.few
  have hsu := ok.sure
  have hcap : s.log.length ≤ ca := hI.own.isB.1
  obtain ⟨hd1, hd2, hd3⟩ := Sr.dec_le s keep
  have hlen : (s.log.take (Sr.left s keep)).length = Sr.left s keep := by rw [List.length_take]; omega
  have hst : Sr.left s keep = s.sure + Sr.stays keep (s.log.length - s.sure) := rfl
  obtain ⟨n1, hn1⟩ : ∃ n1 : Int, n1 = if keep < (s.log.length : Int) - s.sure then keep else (s.log.length : Int) - s.sure := ⟨_, rfl⟩
  have hn2 : ((Sr.stays keep (s.log.length - s.sure) : Nat) : Int) = if n1 < 0 then 0 else n1 := by
    rw [hn1]; unfold Sr.stays
    split <;> split <;> omega
  have HN1 := Hid.mk' hn1; have HN2 := Hid.mk' hn2
  clear hn1 hn2
  have HI := Hid.mk' hI; have HOk := Hid.mk' ok
  have hw1 : IntKind.i64.wrap ((s.log.length : Int) - s.sure) = (s.log.length : Int) - s.sure := wrap_id (by omega) (by omega)
  clear hI ok
  generalize hln : s.log.length = ln at *
  generalize hsn : s.sure = sn at *
  generalize hq : Sr.stays keep (ln - sn) = n2 at *
  go_enter Tryz.func35, Tryz.ntmps35
  go_wp2_with fail
  go_quiet (fail)
  go_upto_if 20 with fail
  go_cut [4] (fun t wd => t = .int .i64 n1 ∧ ∃ q, wd = w.drewN q)
  case first =>
    by_cases hk : keep < (ln : Int) - sn
    · have e := HN1.out
      rw [if_pos hk] at e
      subst e
      go_wp2
      go_meet
      exact ⟨rfl, _, rfl⟩
    · have e := HN1.out
      rw [if_neg hk] at e
      go_wp2
      go_meet
      exact ⟨by rw [e], _, rfl⟩
  case rest =>
    obtain ⟨rfl, q1, rfl⟩ := hcut
    go_upto_if 23 with fail
    go_cut [4] (fun t wd => t = .int .i64 (n2 : Int) ∧ wd = w.drewN q1)
    case first =>
      by_cases hk : n1 < 0
      · have e := HN2.out
        rw [if_pos hk] at e
        go_wp2
        go_meet
        exact ⟨by rw [e], rfl⟩
      · have e := HN2.out
        rw [if_neg hk] at e
        go_wp2
        go_meet
        exact ⟨by rw [e], rfl⟩
    case rest =>
      obtain ⟨rfl, rfl⟩ := hcut
      have hB1 : Below w.heap.size w (w.drewN q1) := below_drewsN w q1
      have hI1 := HI.out.stay hB1
      have HB1 := Hid.mk' hB1
      clear c0 c1 c2 f0 f1 f2
      obtain ⟨⟨c0, c1, c2⟩, f0, f1, f2⟩ := row3 hI1.row
      rw [hln] at c1; rw [hsn] at c2
      clear hB1 hI1
      generalize w.drewN q1 = w1 at *
      have hb12 : Below w1.heap.size w1 w1.drew := below_drew _ _
      have hleft : Sr.left s keep = sn + n2 := by rw [hst]
      have HE := Hid.mk' (entriesR_any (s.log.take (Sr.left s keep)) ao ca (sn + n2) w1.drew (((HI.out.stay HB1.out).stay hb12).own.less _ (by rw [hln]; exact hll)).isB (by rw [hlen, hleft]) (by omega))
      unfold DecPost at HE
      have HK : Hid (∀ e ∈ (Jn.dec (s.log.take (Sr.left s keep))).1, e.text.length ≤ 1000000) := fun e he => by have := dec_text' he; omega
      have HCr : Hid (∀ h, h = Sr.playAll Sp.new (Jn.dec (s.log.take (Sr.left s keep))).1 → Sr.crash s keep = ⟨h, s.log.take (Jn.dec (s.log.take (Sr.left s keep))).2, (Jn.dec (s.log.take (Sr.left s keep))).2⟩) := fun h e => by rw [e]; rfl
      have hw2 : IntKind.i64.wrap ((sn : Int) + n2) = (sn : Int) + n2 := wrap_id (by omega) (by omega)
      have hx1 : (sn : Int) + n2 ≤ ca := by omega
      have hx0 : 0 ≤ (sn : Int) + n2 := by omega
      have hx2 : ((sn : Int) + n2).toNat = sn + n2 := by omega
      have HC : Hid (∀ w', Below w1.heap.size w1 w' → w'.cell? ⟨g, 1, none⟩ = some (.slice ao ln ca) ∧ w'.cell? ⟨g, 2, none⟩ = some (.int .i64 (sn : Int))) := fun w' hb => by
        obtain ⟨⟨_, e1, e2⟩, _⟩ := row3 (((HI.out.stay HB1.out).stay hb)).row
        rw [hln] at e1; rw [hsn] at e2; exact ⟨e1, e2⟩
      have Hb12 := Hid.mk' hb12
      clear hb12 hst hq hleft hlen HN1 HN2
      generalize s.log.take (Sr.left s keep) = b at *
      go_upto_region 5 with fail
      go_region_held3 (fun w' => w'.cell? ⟨g, 1, none⟩ = some (.slice ao ln ca) ∧ w'.cell? ⟨g, 2, none⟩ = some (.int .i64 (sn : Int))) (go_keep) (first | (go_at_call 63; refine HE.out.mono ?_; rintro e w2 ⟨a2, ca2, rfl, hE2, hb2⟩; have hB2 := then_ Hb12.out hb2; obtain ⟨c1', c2'⟩ := HC.out w2 hB2; have HE2 := Hid.mk' hE2; have HB2 := Hid.mk' hB2; clear hE2 hb2 hB2))
      have hI2 := (HI.out.stay HB1.out).stay HB2.out
      clear c0 c1 c2 f0 f1 f2
      obtain ⟨⟨c0, _, _⟩, f0, f1, f2⟩ := row3 hI2.row
      have hBw : w.heap.size ≤ w2.heap.size := Nat.le_trans HB1.out.size HB2.out.size
      have hB1w : w1.heap.size ≤ w2.heap.size := HB2.out.size
      have hgl : g < w2.heap.size := hI2.lt
      have HX : Hid (∀ w5, w5 = (((w2.setCell ⟨g, 1, none⟩ (.slice ao (Jn.dec b).2 ca)).setCell ⟨g, 2, none⟩ (.int .i64 ((Jn.dec b).2 : Int))).setCell ⟨g, 0, none⟩ (.pointer (some ⟨w2.heap.size, 0, none⟩))).alloc (.cells #[.slice none 0 0, .int .i64 0] 49) →
          ShIn w5 (orNew S w) g w2.heap.size ao ca (fun j => w2.heap.size ≤ j) ⟨Sp.new, s.log.take (Jn.dec b).2, (Jn.dec b).2⟩ ∧ EnsAt w5 (fun k => w1.heap.size ≤ k ∧ k < w2.heap.size) 80 a2 ca2 (Jn.dec b).1 ∧ Turns S w w5 ∧ w2.heap.size ≤ w5.heap.size) := fun w5 h5 => by
        have hta : Turns (fun k => k = g) w2 (((w2.setCell ⟨g, 1, none⟩ (.slice ao (Jn.dec b).2 ca)).setCell ⟨g, 2, none⟩ (.int .i64 ((Jn.dec b).2 : Int))).setCell ⟨g, 0, none⟩ (.pointer (some ⟨w2.heap.size, 0, none⟩))) := ((Turns.setCell (fun k => k = g) w2 _ _ rfl).trans (Turns.setCell (fun k => k = g) _ _ _ rfl) (fun _ e _ => e)).trans (Turns.setCell (fun k => k = g) _ _ _ rfl) (fun _ e _ => e)
        have hra := (store3 (store3 (store3 hI2.row (.slice ao (Jn.dec b).2 ca)).2.1 (.int .i64 ((Jn.dec b).2 : Int))).2.2 (.pointer (some ⟨w2.heap.size, 0, none⟩))).1
        have hsa : (((w2.setCell ⟨g, 1, none⟩ (.slice ao (Jn.dec b).2 ca)).setCell ⟨g, 2, none⟩ (.int .i64 ((Jn.dec b).2 : Int))).setCell ⟨g, 0, none⟩ (.pointer (some ⟨w2.heap.size, 0, none⟩))).heap.size = w2.heap.size := by simp [World.setCell]
        generalize ((w2.setCell ⟨g, 1, none⟩ (.slice ao (Jn.dec b).2 ca)).setCell ⟨g, 2, none⟩ (.int .i64 ((Jn.dec b).2 : Int))).setCell ⟨g, 0, none⟩ (.pointer (some ⟨w2.heap.size, 0, none⟩)) = wa at *
        have hbA := (Below.refl _ wa).alloc (Nat.le_refl _) (.cells #[.slice none 0 0, .int .i64 0] 49)
        have hnew : (wa.alloc (.cells #[.slice none 0 0, .int .i64 0] 49)).heap[w2.heap.size]? = some (.cells #[.slice none 0 0, .int .i64 0] 49 (0, 0)) := by rw [← hsa]; exact heap_alloc_new wa _
        have hrb := (hbA.block g (by omega)).trans hra
        have htt : Turns (fun k => k = g) w2 w5 := by rw [h5]; exact hta.trans (Turns.of_below hbA) (fun _ e _ => e)
        have hown : OwnB w2 0 5 ao ca (s.log.take (Jn.dec b).2) := hI2.own.less _ (by rw [hln]; exact hd1)
        have hle5 : (s.log.take (Jn.dec b).2).length = (Jn.dec b).2 := by rw [List.length_take, hln]; omega
        refine ⟨⟨?_, ?_, hown.turns htt (fun a e e2 => (hI2.inL a.block (by rw [e]; rfl)).2 e2), Or.inl hI2.self, fun k e => ⟨Or.inr (by omega), by omega, fun e2 => ?_⟩, fun k e => ⟨Or.inl (hI2.inL k e).1, (hI2.inL k e).2⟩⟩, ?_, ?_, ?_⟩
        · rw [h5]; simp only [hle5]; exact hrb
        · rw [h5]; exact ⟨none, 0, hnew, Nat.le_refl _, UpO.nil _ _ _ _⟩
        · have := hI2.far k e2; omega
        · exact (HE2.out.mono (S' := fun k => w1.heap.size ≤ k ∧ k < w2.heap.size) (fun k hk e => ⟨e, hk⟩)).turns htt (fun k e e2 => by subst e2; have := HI.out.lt; have := HB1.out.size; omega)
        · exact (((Turns.of_below HB1.out).trans (Turns.of_below HB2.out) (fun _ e _ => e)).trans (htt.mono (fun k e => by subst e; exact hI2.self)) (fun _ e _ => e))
        · exact htt.size
      have hdc : ((Jn.dec b).2 : Int) ≤ ca := by omega
      have hen : (Jn.dec b).1.length ≤ 100000 := by omega
      clear hI2 HE HB1 HB2 HE2 HC Hb12 hd2 hd3 hll HI HOk hw1 hw2 hx0 hx1 hx2
      have hea : ∃ el, (Jn.dec b).1 = el := ⟨_, rfl⟩
      obtain ⟨el, hel⟩ := hea
      rw [hel] at HK HX hen ⊢
      simp only [hel] at HCr
      clear hel
      generalize (Jn.dec b).2 = dn at *
      have HCr0 := Hid.mk' HCr.out
      clear c1' c2' HCr
      go_upto_region 9 with fail
      obtain ⟨hI5, hE5, hT5, hs5⟩ := HX.out _ rfl
      have HI5 := Hid.mk' hI5; have HE5 := Hid.mk' hE5; have HT5 := Hid.mk' hT5
      clear HX hI5 hE5 hT5 c0 f0 f1 f2
      generalize (((w2.setCell ⟨g, 1, none⟩ (.slice ao dn ca)).setCell ⟨g, 2, none⟩ (.int .i64 (dn : Int))).setCell ⟨g, 0, none⟩ (.pointer (some ⟨w2.heap.size, 0, none⟩))).alloc (.cells #[.slice none 0 0, .int .i64 0] 49) = w5 at *
      generalize w2.heap.size = B at *
      have hec := ens_cap' HE5.out.isEns
      go_wp2
      go_loopw [7] (fun t wr => ∃ k : Nat, k ≤ el.length ∧ t = .int .i64 k ∧ ReAt w5 B el k wr) (fun t _ => el.length - (intOf t).toNat)
      case atStart => exact ⟨0, Nat.zero_le _, rfl, by rw [List.take_zero]; exact HI5.out.hold, Below.refl _ _⟩
      case round =>
        obtain ⟨k, hk, rfl, hR⟩ := hrel
        have HR := Hid.mk' hR
        clear hR
        by_cases hlt : k < el.length
        · have hEr := HE5.out.turns (turns_from HR.out.below) (fun j e e2 => by omega)
          obtain ⟨bb, oo, q, ha, hc0, hc1, hc2, hc3, hIB⟩ := hEr.isEns.at_ k hlt
          subst ha
          have hbb : bb < B := hEr.place.2
          have hlt' : (k : Int) < el.length := by omega
          have hgp : wr.cell? ⟨g, 0, none⟩ = some (.pointer (some ⟨B, 0, none⟩)) := by rw [HR.out.below.cell (p := ⟨g, 0, none⟩) hgl]; exact (row3 HI5.out.row).1.1
          have hx := HK.out _ (List.getElem_mem hlt)
          have hok : Sp.Ok (Sr.playAll Sp.new (el.take k)) := Sr.playAll_ok _ Sp.Ok.new
          have hla : (Sr.playAll Sp.new (el.take k)).last ≤ 1000000 := by
            have := Sr.playAll_last (el.take k) Sp.new
            rw [List.length_take] at this
            have h0 : Sp.new.last = 0 := rfl
            omega
          have hbd : Below wr.heap.size wr wr.drew := below_drew _ _
          have HP := Hid.mk' (playedH_any (Sr.playAll Sp.new (el.take k)) (fun j => B ≤ j) B el[k] q.bo el[k].text.length q.bcap wr.drew (HR.out.hold.stay hbd) hok hla (hIB.stay hbd) rfl hx)
          have hszr : B ≤ wr.drew.heap.size := Nat.le_trans hs5 HR.out.below.size
          have HPt : Hid ((Sr.played (Sr.playAll Sp.new (el.take k)) el[k]).1 = Sr.playAll Sp.new (el.take (k + 1))) := (Sr.playAll_take Sp.new el k hlt).symm
          have HN : Hid (∀ e w', Did (fun j => B ≤ j) 49 wr.drew B (Sr.played (Sr.playAll Sp.new (el.take k)) el[k]) e w' → (∃ c : Nat, e = .returned (.int .i64 (c : Int))) ∧ ReAt w5 B el (k + 1) w' ∧ w'.cell? ⟨g, 0, none⟩ = some (.pointer (some ⟨B, 0, none⟩)) ∧ w'.cell? ⟨bb, oo + k * 4, none⟩ = some (.int .i64 el[k].kind) ∧ w'.cell? ⟨bb, oo + k * 4 + 1, none⟩ = some (.int .i64 el[k].id) ∧ w'.cell? ⟨bb, oo + k * 4 + 2, none⟩ = some (.int .i64 el[k].n) ∧ w'.cell? ⟨bb, oo + k * 4 + 3, none⟩ = some (.slice q.bo el[k].text.length q.bcap)) := fun e w' hd => by
            obtain ⟨h1, h2, h3⟩ := hd.newH hszr
            rw [HPt.out] at h2
            have h4 : Below B wr w' := (hbd.mono (Nat.le_trans hs5 HR.out.below.size)).trans h3
            exact ⟨⟨_, h1⟩, ⟨h2, HR.out.below.trans h4⟩, (h4.cell (p := ⟨g, 0, none⟩) hgl).trans hgp, (h4.cell (p := ⟨bb, oo + k * 4, none⟩) hbb).trans hc0, (h4.cell (p := ⟨bb, oo + k * 4 + 1, none⟩) hbb).trans hc1, (h4.cell (p := ⟨bb, oo + k * 4 + 2, none⟩) hbb).trans hc2, (h4.cell (p := ⟨bb, oo + k * 4 + 3, none⟩) hbb).trans hc3⟩
          clear hEr hx hok hla hbd hIB hszr HPt
          generalize Sr.played (Sr.playAll Sp.new (el.take k)) el[k] = pr at *
          generalize el[k] = p at *
          go_wp2_with fail
          go_region_held3 (fun w' => w'.cell? ⟨g, 0, none⟩ = some (.pointer (some ⟨B, 0, none⟩)) ∧ w'.cell? ⟨bb, oo + k * 4, none⟩ = some (.int .i64 p.kind) ∧ w'.cell? ⟨bb, oo + k * 4 + 1, none⟩ = some (.int .i64 p.id) ∧ w'.cell? ⟨bb, oo + k * 4 + 2, none⟩ = some (.int .i64 p.n) ∧ w'.cell? ⟨bb, oo + k * 4 + 3, none⟩ = some (.slice q.bo p.text.length q.bcap)) (go_keep) (first | (go_at_call 64; refine HP.out.mono ?_; intro e w6 hd; obtain ⟨⟨c, rfl⟩, hR6, y0, y1, y2, y3, y4⟩ := HN.out _ _ hd; have HR6 := Hid.mk' hR6; clear hd hR6))
          go_wp2
          go_roundw
          case rel => exact ⟨k + 1, by omega, by go_num, HR6.out⟩
          case measure => simp [intOf]; omega
        · obtain rfl : k = el.length := by omega
          have HF : Hid (ShFell S w g (Sr.crash s keep) wr) := by
            have htb := turns_from HR.out.below
            have hh := HR.out.hold
            rw [List.take_length] at hh
            rw [HCr0.out _ rfl]
            refine ⟨⟨B, ao, ca, fun j => B ≤ j, htb.row HI5.out.row (by omega), hh, HI5.out.own.turns htb (fun a e e2 => ?_), HI5.out.self, HI5.out.inP, HI5.out.inL⟩, HT5.out.trans htb (fun j e hj => ?_)⟩
            · exact (HI5.out.inP a.block e2).2.2 (by rw [e]; rfl)
            · omega
          go_wp2
          go_end0
          exact ⟨rfl, HF.out⟩
end Go.Proofs.YtanpocgojmflgaaGreatDoor

/- The statements' own: shopStep, walked. -/
namespace Go.Proofs.YtanpocgojmflgaaGreatDoor
open Go.RowKit

/-- what a step answered, and what became of the object -/
structure ShRan (S : Nat → Prop) (w : World) (g : Nat) (s : Sr.Sh) (x : Sr.X) (e : Ending) (w' : World) : Prop where
  ret : e = .returned (.tuple #[.int .i64 (Sr.gave_ s x), .int .i64 ((Sr.step s x).2 : Int)])
  at_ : ShAt w' (orNew S w) g (Sr.step s x).1
  turns : Turns S w w'
theorem ShRan.from_ {S : Nat → Prop} {w w1 w' : World} {g : Nat} {s : Sr.Sh} {x : Sr.X} {e : Ending} (hb : Below w.heap.size w w1) (h : ShRan S w1 g s x e w') : ShRan S w g s x e w' := by
  have hsz := hb.size
  refine ⟨h.ret, h.at_.mono (fun k _ e => ?_), (Turns.of_below hb).trans h.turns (fun _ e _ => e)⟩
  rcases e with e | e
  · exact Or.inl e
  · exact Or.inr (by omega)
set_option maxRecDepth 100000 in
set_option maxHeartbeats 3200000 in
theorem shopStep_any {s : Sr.Sh} {S : Nat → Prop} {g : Nat} {w : World} (h : ShAt w S g s) (ok : Sr.Ok s) (x : Sr.X) (hm : x.text.size ≤ 1000000) :
    Calls Tryz.prog 9 #[.pointer (some ⟨g, 0, none⟩), .agg #[.int .i64 x.op, .int .i64 x.id, .int .i64 x.n, .string x.text]] w (ShRan S w g s x) := by
  obtain ⟨op, id, n, tx⟩ := x
  simp only at hm ⊢
  have hbA := (Below.refl _ w).alloc (Nat.le_refl _) (.cells #[.int .i64 op, .int .i64 id, .int .i64 n, .string tx] 32)
  have h1 := h.stay hbA
  obtain ⟨⟨x0, x1, x2, x3⟩, _⟩ := row4 (heap_alloc_new w (.cells #[.int .i64 op, .int .i64 id, .int .i64 n, .string tx] 32))
  obtain ⟨W, hW⟩ : ∃ W, (w.alloc (.cells #[.int .i64 op, .int .i64 id, .int .i64 n, .string tx] 32)) = W := ⟨_, rfl⟩
  rw [hW] at hbA h1 x0 x1 x2 x3
  have HB := Hid.mk' hbA
  have HFr : Hid (∀ e w', ShRan S W g s ⟨op, id, n, tx⟩ e w' → ShRan S w g s ⟨op, id, n, tx⟩ e w') := fun e w' hr => hr.from_ HB.out
  by_cases o0 : op = 0
  · subst o0
    have HC := Hid.mk' (createSh_any h1 ok n tx hm)
    have HP : Hid (∀ e w', ShMade S W g s (Sr.create s n tx) e w' → ShRan S W g s ⟨0, id, n, tx⟩ e w') := fun e w' hd => ⟨hd.ret, hd.at_, hd.turns⟩
    clear h ok h1 hbA hm
    generalize Sr.create s n tx = q at *
    go_enter Tryz.func9, Tryz.ntmps9
    go_wp2_with fail
    refine HC.out.mono ?_
    intro e w2 hd
    have HD := Hid.mk' (HFr.out _ _ (HP.out _ _ hd))
    obtain ⟨rfl, _, _⟩ := hd
    clear HP
    generalize Sr.numb s q.2 = nu at *
    go_wp2
    go_ret2
    exact HD.out
  by_cases o1 : op = 1
  · subst o1
    obtain ⟨bc, W3, hcv, hb3, hs3, hIB⟩ := bytes_of (P := Tryz.prog) W tx 9 34 5 Tryz.underlying9 Tryz.underlying34 Tryz.underlying5
    have HB3 := Hid.mk' hb3
    have HC := Hid.mk' (appendSh_any (h1.stay hb3) ok id n _ tx.size bc tx.data.toList hIB (by simp) hm)
    have HP : Hid (∀ e w', ShDid S W3 g (Sr.append s id n tx.data.toList) e w' → ShRan S W g s ⟨1, id, n, tx⟩ (.returned (.tuple #[.int .i64 0, .int .i64 ((Sr.append s id n tx.data.toList).2 : Int)])) w') := fun e w' hd => ShRan.from_ HB3.out ⟨rfl, hd.at_, hd.turns⟩
    clear h ok h1 hbA hm hb3 hs3 hIB
    generalize Sr.append s id n tx.data.toList = q at *
    go_enter Tryz.func9, Tryz.ntmps9
    go_wp2_with fail
    refine HC.out.mono ?_
    intro e w2 hd
    have HD := Hid.mk' (HFr.out _ _ (HP.out _ _ hd))
    obtain ⟨rfl, _, _⟩ := hd
    clear HP
    go_wp2
    go_ret2
    exact HD.out
  by_cases o2 : op = 2
  · subst o2
    have HC := Hid.mk' (declareSh_any h1 ok id n)
    have HP : Hid (∀ e w', ShDid S W g (Sr.declare s id n) e w' → ShRan S W g s ⟨2, id, n, tx⟩ (.returned (.tuple #[.int .i64 0, .int .i64 ((Sr.declare s id n).2 : Int)])) w') := fun e w' hd => ⟨rfl, hd.at_, hd.turns⟩
    clear h ok h1 hbA hm
    generalize Sr.declare s id n = q at *
    go_enter Tryz.func9, Tryz.ntmps9
    go_wp2_with fail
    refine HC.out.mono ?_
    intro e w2 hd
    have HD := Hid.mk' (HFr.out _ _ (HP.out _ _ hd))
    obtain ⟨rfl, _, _⟩ := hd
    clear HP
    go_wp2
    go_ret2
    exact HD.out
  by_cases o3 : op = 3
  · subst o3
    have HC := Hid.mk' (dropSh_any h1 ok id)
    have HP : Hid (∀ e w', ShDid S W g (Sr.drop s id) e w' → ShRan S W g s ⟨3, id, n, tx⟩ (.returned (.tuple #[.int .i64 0, .int .i64 ((Sr.drop s id).2 : Int)])) w') := fun e w' hd => ⟨rfl, hd.at_, hd.turns⟩
    clear h ok h1 hbA hm
    generalize Sr.drop s id = q at *
    go_enter Tryz.func9, Tryz.ntmps9
    go_wp2_with fail
    refine HC.out.mono ?_
    intro e w2 hd
    have HD := Hid.mk' (HFr.out _ _ (HP.out _ _ hd))
    obtain ⟨rfl, _, _⟩ := hd
    clear HP
    go_wp2
    go_ret2
    exact HD.out
  by_cases o4 : op = 4
  · subst o4
    have HC := Hid.mk' (beginSh_any h1 ok id)
    have HP : Hid (∀ e w', ShDid S W g (Sr.begins s id) e w' → ShRan S W g s ⟨4, id, n, tx⟩ (.returned (.tuple #[.int .i64 0, .int .i64 ((Sr.begins s id).2 : Int)])) w') := fun e w' hd => ⟨rfl, hd.at_, hd.turns⟩
    clear h ok h1 hbA hm
    generalize Sr.begins s id = q at *
    go_enter Tryz.func9, Tryz.ntmps9
    go_wp2_with fail
    refine HC.out.mono ?_
    intro e w2 hd
    have HD := Hid.mk' (HFr.out _ _ (HP.out _ _ hd))
    obtain ⟨rfl, _, _⟩ := hd
    clear HP
    go_wp2
    go_ret2
    exact HD.out
  by_cases o5 : op = 5
  · subst o5
    have HC := Hid.mk' (endSh_any h1 ok id)
    have HP : Hid (∀ e w', ShDid S W g (Sr.ends s id) e w' → ShRan S W g s ⟨5, id, n, tx⟩ (.returned (.tuple #[.int .i64 0, .int .i64 ((Sr.ends s id).2 : Int)])) w') := fun e w' hd => ⟨rfl, hd.at_, hd.turns⟩
    clear h ok h1 hbA hm
    generalize Sr.ends s id = q at *
    go_enter Tryz.func9, Tryz.ntmps9
    go_wp2_with fail
    refine HC.out.mono ?_
    intro e w2 hd
    have HD := Hid.mk' (HFr.out _ _ (HP.out _ _ hd))
    obtain ⟨rfl, _, _⟩ := hd
    clear HP
    go_wp2
    go_ret2
    exact HD.out
  by_cases o6 : op = 6
  · subst o6
    have HC := Hid.mk' (syncSh_any h1)
    have HP : Hid (∀ w', ShAt w' S g (Sr.sync s) → Turns S W w' → ShRan S W g s ⟨6, id, n, tx⟩ (.returned (.tuple #[.int .i64 0, .int .i64 0])) w') := fun w' h1 h2 => ⟨rfl, h1.mono (fun _ _ e => Or.inl e), h2⟩
    clear h ok h1 hbA hm
    go_enter Tryz.func9, Tryz.ntmps9
    go_wp2_with fail
    refine HC.out.mono ?_
    rintro e w2 ⟨rfl, hA, hT⟩
    have HD := Hid.mk' (HFr.out _ _ (HP.out _ hA hT))
    clear HP hA hT
    go_wp2
    go_ret2
    exact HD.out
  by_cases o7 : op = 7
  · subst o7
    have HC := Hid.mk' (crashSh_any h1 ok n)
    have HP : Hid (∀ w', ShFell S W g (Sr.crash s n) w' → ShRan S W g s ⟨7, id, n, tx⟩ (.returned (.tuple #[.int .i64 0, .int .i64 0])) w') := fun w' hd => ⟨rfl, hd.at_, hd.turns⟩
    clear h ok h1 hbA hm
    go_enter Tryz.func9, Tryz.ntmps9
    go_wp2_with fail
    refine HC.out.mono ?_
    rintro e w2 ⟨rfl, hA⟩
    have HD := Hid.mk' (HFr.out _ _ (HP.out _ hA))
    clear HP hA
    go_wp2
    go_ret2
    exact HD.out
  have HD : Hid (ShRan S W g s ⟨op, id, n, tx⟩ (.returned (.tuple #[.int .i64 0, .int .i64 0])) W) := by
    refine ⟨?_, ?_, Turns.refl _ _⟩
    · simp only [Sr.gave_, Sr.step, if_neg o0, if_neg o1, if_neg o2, if_neg o3, if_neg o4, if_neg o5, if_neg o6, if_neg o7]; rfl
    · simp only [Sr.step, if_neg o0, if_neg o1, if_neg o2, if_neg o3, if_neg o4, if_neg o5, if_neg o6, if_neg o7]
      exact h1.mono (fun _ _ e => Or.inl e)
  have HD2 := Hid.mk' (HFr.out _ _ HD.out)
  clear h ok h1 hbA hm HD HFr
  go_enter Tryz.func9, Tryz.ntmps9
  go_wp2
  go_ret2
  exact HD2.out
end Go.Proofs.YtanpocgojmflgaaGreatDoor
