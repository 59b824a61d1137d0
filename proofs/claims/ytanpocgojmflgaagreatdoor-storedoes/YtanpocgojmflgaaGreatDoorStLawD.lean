/- StoreDoes, walked. -/
import Derived.Test.YtanpocgojmflgaaGreatDoorLwStS
import Derived.Test.YtanpocgojmflgaaGreatDoorPk20
import Derived.Test.YtanpocgojmflgaaGreatDoorLwStB
import Derived.Test.YtanpocgojmflgaaGreatDoorPk11
import Derived.Test.YtanpocgojmflgaaGreatDoorPk16
import Derived.Test.YtanpocgojmflgaaGreatDoorRfHS
import Derived.Deep.RegionHeld3
namespace Go.Proofs.YtanpocgojmflgaaGreatDoor
open Go.RowKit

/-- a store, and the document's own, apart from each other, in new memory -/
structure Du (w W : World) (gs gr : Nat) (s r : Sr.Sh) (A B : Nat → Prop) : Prop where
  st : StAt W A gs s
  sh : ShAt W B gr r
  a : ∀ k, A k → w.heap.size ≤ k ∧ k < W.heap.size ∧ ¬ B k
  b : ∀ k, B k → w.heap.size ≤ k ∧ k < W.heap.size
  below : Below w.heap.size w W
section
variable {w W W' : World} {gs gr : Nat} {s r s' r' : Sr.Sh} {A B : Nat → Prop}
theorem Du.fst (h : Du w W gs gr s r A B) (hr : StAt W' (orNew A W) gs s') (ht : Turns A W W') : Du w W' gs gr s' r (fun k => A k ∨ (W.heap.size ≤ k ∧ k < W'.heap.size)) B := by
  have hsz := h.below.size
  have hs2 := ht.size
  refine ⟨hr.mono (fun k hk e => ?_), h.sh.turns ht (fun k e e2 => (h.a k e2).2.2 e), fun k e => ?_, fun k e => ⟨(h.b k e).1, by have := (h.b k e).2; omega⟩, h.below.trans (ht.below (fun k e => (h.a k e).1) hsz)⟩
  · rcases e with e | e
    · exact Or.inl e
    · exact Or.inr ⟨e, hk⟩
  · rcases e with e | e
    · have := h.a k e; exact ⟨this.1, by omega, this.2.2⟩
    · exact ⟨by omega, e.2, fun e2 => by have := h.b k e2; omega⟩
theorem Du.snd (h : Du w W gs gr s r A B) (hr : ShAt W' (orNew B W) gr r') (ht : Turns B W W') : Du w W' gs gr s r' A (fun k => B k ∨ (W.heap.size ≤ k ∧ k < W'.heap.size)) := by
  have hsz := h.below.size
  have hs2 := ht.size
  refine ⟨h.st.turns ht (fun k e e2 => (h.a k e).2.2 e2), hr.mono (fun k hk e => ?_), fun k e => ⟨(h.a k e).1, by have := (h.a k e).2.1; omega, fun e2 => ?_⟩, fun k e => ?_, h.below.trans (ht.below (fun k e => (h.b k e).1) hsz)⟩
  · rcases e with e | e
    · exact Or.inl e
    · exact Or.inr ⟨e, hk⟩
  · rcases e2 with e2 | e2
    · exact (h.a k e).2.2 e2
    · have := (h.a k e).2.1; omega
  · rcases e with e | e
    · have := h.b k e; exact ⟨this.1, by omega⟩
    · exact ⟨by omega, e.2⟩
theorem Du.stay (h : Du w W gs gr s r A B) (hb : Below W.heap.size W W') : Du w W' gs gr s r A B := by
  have hs2 := hb.size
  exact ⟨h.st.stay hb, h.sh.stay hb, fun k e => ⟨(h.a k e).1, by have := (h.a k e).2.1; omega, (h.a k e).2.2⟩, fun k e => ⟨(h.b k e).1, by have := (h.b k e).2; omega⟩, then_ h.below hb⟩
end
set_option maxRecDepth 100000 in
set_option maxHeartbeats 20000000 in
theorem storeDoes_any (l : List Stp) (ao : Option Addr) (cap n : Nat) (room : Int) (w : World) (hl : IsV w ao cap n (stpV l)) (hn : l.length = n) (hz : ∀ p ∈ l, p.text.size ≤ 140737488355328) (hN : n ≤ 9223372036854775807) :
    Calls Tryz.prog 3 #[.slice ao n cap, .int .i64 room] w fun e w' => e = .returned (.bool true) ∧ Below w.heap.size w w' := by
  subst hn
  have hcap := hl.1
  have H := Hid.mk' hl
  have HSb := Hid.mk' (storeBegun_any w)
  have HG : Hid (∀ W, Below w.heap.size w W → Calls Tryz.prog 5 #[.slice ao l.length cap] W fun e w' => ∃ b : Bool, e = .returned (.bool b) ∧ (b = false → l.length ≤ 150 ∧ stpN l ≤ 20000) ∧ w' = W) := fun W hW => greatStore_any l ao cap l.length W (hl.stay hW) rfl hz hN
  clear hl hz
  go_enter Tryz.func3, Tryz.ntmps3
  go_wp2_with fail
  refine HSb.out.mono ?_
  rintro e w1 ⟨rfl, hb1⟩
  have HB1 := Hid.mk' hb1
  have HG1 := Hid.mk' (HG.out w1 hb1)
  clear hb1 HG
  go_wp2_with fail
  refine HG1.out.mono ?_
  rintro e w1' ⟨b, rfl, hsm, hw1⟩
  rw [hw1]
  clear hw1 w1'
  cases b with
  | true =>
    go_wp2
    go_ret
    exact ⟨rfl, HB1.out⟩
  | false =>
    obtain ⟨h150, h20⟩ := hsm rfl
    have HNw := Hid.mk' (newSt_any w1)
    have HNr := Hid.mk' (fun W => newSh_any W)
    clear hsm
    go_wp2_with fail
    refine HNw.out.mono ?_
    rintro e w2 ⟨gs, rfl, hS2, hb2⟩
    have HS2 := Hid.mk' hS2; have Hb2 := Hid.mk' hb2
    clear hS2 hb2
    go_wp2_with fail
    refine (HNr.out w2).mono ?_
    rintro e w3 ⟨gr, rfl, hR3, hb3⟩
    have HD3 : Hid (Du w1 w3 gs gr Sr.new Sr.new (fun k => w1.heap.size ≤ k ∧ k < w2.heap.size) (fun k => w2.heap.size ≤ k ∧ k < w3.heap.size)) := by
      have e1 := Hb2.out.size
      have e2 := hb3.size
      exact ⟨(HS2.out.mono (fun k hk e => ⟨e, hk⟩)).stay hb3, hR3.mono (fun k hk e => ⟨e, hk⟩), fun k e => ⟨e.1, by omega, fun e2 => by omega⟩, fun k e => ⟨by omega, e.2⟩, then_ Hb2.out hb3⟩
    clear hR3 hb3 HS2 Hb2 HNw HNr HSb HG1
    go_wp2
    go_loopw [7] (fun t wr => ∃ (k : Nat) (s : Sr.Sh) (A B : Nat → Prop), k ≤ l.length ∧ t = .int .i64 k ∧ Sr.Ok s ∧ Du w1 wr gs gr s s A B) (fun t _ => l.length - (intOf t).toNat)
    case atStart => exact ⟨0, Sr.new, _, _, Nat.zero_le _, rfl, Sr.Ok.new, HD3.out⟩
    case round =>
      obtain ⟨k, s, A, B, hk, rfl, ok, hD⟩ := hrel
      have HD := Hid.mk' hD
      clear hD
      by_cases hlt : k < l.length
      · have HW : Hid (∀ W, Below w1.heap.size w1 W → IsV W ao cap l.length (stpV l)) := fun W hW => H.out.stay (HB1.out.trans (hW.mono HB1.out.size))
        obtain ⟨bb, oo, ha, hc0, hc1, hc2, hc3⟩ := stp_at (HW.out _ HD.out.below) k hlt
        subst ha
        have HC : Hid (∀ W, Below w1.heap.size w1 W → W.cell? ⟨bb, oo + k * 4, none⟩ = some (.int .i64 l[k].op) ∧ W.cell? ⟨bb, oo + k * 4 + 1, none⟩ = some (.int .i64 l[k].id) ∧ W.cell? ⟨bb, oo + k * 4 + 2, none⟩ = some (.int .i64 l[k].n) ∧ W.cell? ⟨bb, oo + k * 4 + 3, none⟩ = some (.string l[k].text)) := fun W hW => by
          obtain ⟨b', o', e, h⟩ := stp_at (HW.out W hW) k hlt
          injection e with e; injection e with e1 e2; subst e1; subst e2
          exact h
        have hlt' : (k : Int) < l.length := by omega
        have hm : l[k].text.size ≤ 1000000 := by have := stpN_one l k hlt; omega
        have HS := Hid.mk' (step_any HD.out.st ok l[k] hm)
        have HR : Hid (∀ W A', Du w1 W gs gr (Sr.step s l[k]).1 s A' B → Calls Tryz.prog 9 #[.pointer (some ⟨gr, 0, none⟩), .agg #[.int .i64 l[k].op, .int .i64 l[k].id, .int .i64 l[k].n, .string l[k].text]] W (ShRan B W gr s l[k])) := fun W A' hW => shopStep_any hW.sh ok l[k] hm
        have ok2 := ok.step l[k]
        clear hm HW
        have HSp : Hid (∀ e w', StRan A wr gs s l[k] e w' → e = .returned (.tuple #[.int .i64 (Sr.gave_ s l[k]), .int .i64 ((Sr.step s l[k]).2 : Int)]) ∧ ∃ A', Du w1 w' gs gr (Sr.step s l[k]).1 s A' B) := fun e w' hd => ⟨hd.ret, _, HD.out.fst hd.at_ hd.turns⟩
        have HRp : Hid (∀ W A' e w', Du w1 W gs gr (Sr.step s l[k]).1 s A' B → ShRan B W gr s l[k] e w' → e = .returned (.tuple #[.int .i64 (Sr.gave_ s l[k]), .int .i64 ((Sr.step s l[k]).2 : Int)]) ∧ ∃ B', Du w1 w' gs gr (Sr.step s l[k]).1 (Sr.step s l[k]).1 A' B') := fun W A' e w' hW hd => ⟨hd.ret, _, hW.snd hd.at_ hd.turns⟩
        generalize (Sr.step s l[k]).1 = s2 at *
        generalize (Sr.step s l[k]).2 = c at *
        generalize Sr.gave_ s l[k] = nu at *
        generalize l[k] = p at *
        clear ok HD
        go_wp2_with fail
        refine HS.out.mono ?_
        intro e w4 hd
        obtain ⟨rfl, A', hD4⟩ := HSp.out _ _ hd
        clear hc0 hc1 hc2 hc3
        obtain ⟨hc0, hc1, hc2, hc3⟩ := HC.out w4 hD4.below
        have HD4 := Hid.mk' hD4
        have HR4 := Hid.mk' (HR.out w4 A' hD4)
        clear hd hD4 HS HR HSp
        go_wp2_with fail
        refine HR4.out.mono ?_
        intro e w5 hd
        obtain ⟨rfl, B', hD5⟩ := HRp.out _ _ _ _ HD4.out hd
        have HD5 := Hid.mk' hD5
        have HLg := Hid.mk' (logSt_any hD5.st)
        clear hd hD5 HRp HR4 HD4 hc0 hc1 hc2 hc3 HC
        go_wp2_with fail
        refine HLg.out.mono ?_
        rintro e w6 ⟨a6, ca6, rfl, hI6, hb6⟩
        have hD6 := HD5.out.stay hb6
        have HD6 := Hid.mk' hD6
        obtain ⟨ks, kl, kao, kca, P1, hst⟩ := hD6.st
        obtain ⟨kh, hao, hca, P2, hsh⟩ := hD6.sh
        obtain ⟨⟨y0, y1⟩, _⟩ := row2 hst.row
        obtain ⟨⟨z0, z1, z2⟩, _⟩ := row3 hsh.row
        obtain ⟨uo, uc, v0, v1, _, _, _, _, hUh⟩ := hsh.hold.cells
        have hla := ok2.last_
        have hla0 := ok2.h.last0
        have HCc : Hid (∀ W, Below w6.heap.size w6 W → W.cell? ⟨gs, 0, none⟩ = some (.pointer (some ⟨ks, 0, none⟩)) ∧ W.cell? ⟨gr, 0, none⟩ = some (.pointer (some ⟨kh, 0, none⟩)) ∧ W.cell? ⟨gr, 1, none⟩ = some (.slice hao s2.log.length hca) ∧ W.cell? ⟨gr, 2, none⟩ = some (.int .i64 (s2.sure : Int)) ∧ W.cell? ⟨kh, 0, none⟩ = some (.slice uo s2.h.l.length uc) ∧ W.cell? ⟨kh, 1, none⟩ = some (.int .i64 s2.h.last)) := fun W hW => ⟨(hW.cell (p := ⟨gs, 0, none⟩) hst.lt).trans y0, (hW.cell (p := ⟨gr, 0, none⟩) hsh.lt).trans z0, (hW.cell (p := ⟨gr, 1, none⟩) hsh.lt).trans z1, (hW.cell (p := ⟨gr, 2, none⟩) hsh.lt).trans z2, (hW.cell (p := ⟨kh, 0, none⟩) hsh.hold.lt).trans v0, (hW.cell (p := ⟨kh, 1, none⟩) hsh.hold.lt).trans v1⟩
        have HSB : Hid (∀ W, Below w6.heap.size w6 W → Calls Tryz.prog 11 #[.slice a6 s2.log.length ca6, .slice hao s2.log.length hca] W fun e w' => e = .returned (.bool true) ∧ Below w6.heap.size w6 w') := fun W hW => (sameBytes_any W a6 hao ca6 hca _ _ s2.log s2.log rfl rfl (hI6.stay hW) (hsh.own.isB.stay hW)).mono fun e w' ⟨h1, h2⟩ => ⟨by rw [h1, decide_eq_true rfl], by rw [h2]; exact hW⟩
        have HLs : Hid (∀ W, Below w6.heap.size w6 W → Calls Tryz.prog 13 #[.pointer (some ⟨ks, 0, none⟩)] W fun e w' => ∃ al, e = .returned (.slice al s2.h.l.length s2.h.l.length) ∧ IsUps w' al s2.h.l.length s2.h.l ∧ Below w6.heap.size w6 w') := fun W hW => (listU_any _ P1 _ W (hst.spool.stay hW) ok2.h.small).mono fun e w' ⟨al, h1, h2, h3⟩ => ⟨al, h1, h2.isUps, then_ hW h3⟩
        have HSU : Hid (∀ W al, IsUps W al s2.h.l.length s2.h.l → Below w6.heap.size w6 W → Calls Tryz.prog 12 #[.slice al s2.h.l.length s2.h.l.length, .slice uo s2.h.l.length uc] W fun e w' => e = .returned (.bool true) ∧ Below w6.heap.size w6 w') := fun W al hI hW => (sameUps_yes _ al _ _ _ W hI (hUh.isUps.stay hW) (by have := ok2.h.few; omega)).mono fun e w' ⟨h1, q, h2⟩ => ⟨h1, by rw [h2]; exact then_ hW (below_drewsN W q)⟩
        have HNx : Hid (∀ W, Below w6.heap.size w6 W → Calls Tryz.prog 14 #[.pointer (some ⟨ks, 0, none⟩)] W fun e w' => e = .returned (.int .i64 (s2.h.last + 1)) ∧ Below w6.heap.size w6 w') := fun W hW => (nextU_any _ P1 _ W (hst.spool.stay hW) hla0 (by omega)).mono fun e w' ⟨h1, h2⟩ => ⟨h1, by rw [h2]; exact hW⟩
        have HR1 : Hid (∀ W, Below w6.heap.size w6 W → Calls Tryz.prog 15 #[.pointer (some ⟨gs, 0, none⟩), .int .i64 room] W fun e w' => e = .returned (.bool (decide (0 ≤ room) && decide (room ≤ 100000 - (s2.log.length : Int)))) ∧ Below w6.heap.size w6 w') := fun W hW => (roomSt_any (hD6.st.stay hW) room).mono fun e w' ⟨h1, h2⟩ => ⟨h1, by rw [h2]; exact hW⟩
        have HR2 : Hid (∀ W, Below w6.heap.size w6 W → Calls Tryz.prog 16 #[.pointer (some ⟨gr, 0, none⟩), .int .i64 room] W fun e w' => e = .returned (.bool (decide (0 ≤ room) && decide (room ≤ 100000 - (s2.log.length : Int)))) ∧ Below w6.heap.size w6 w') := fun W hW => (roomSh_any (hD6.sh.stay hW) ok2 room).mono fun e w' ⟨h1, h2⟩ => ⟨h1, by rw [h2]; exact hW⟩
        have hwa : IntKind.i64.wrap (s2.h.last + 1) = s2.h.last + 1 := wrap_id (by omega) (by omega)
        have HOk2 := Hid.mk' ok2
        clear hst hsh hUh hI6 hb6 hD6 ok2 HD5 HLg
        generalize (decide (0 ≤ room) && decide (room ≤ 100000 - (s2.log.length : Int))) = rb at *
        generalize s2.log.length = ln at *
        generalize s2.h.l.length = un at *
        generalize s2.h.last = la at *
        generalize (s2.sure : Int) = su at *
        have HBc : Hid (Below w6.heap.size w6 w6.drew) := below_drew _ _
        go_wp2_with fail
        (try simp only [List.append])
        clear HD3
        go_region_held3 (fun w' => w'.cell? ⟨gs, 0, none⟩ = some (.pointer (some ⟨ks, 0, none⟩)) ∧ w'.cell? ⟨gr, 0, none⟩ = some (.pointer (some ⟨kh, 0, none⟩)) ∧ w'.cell? ⟨gr, 1, none⟩ = some (.slice hao ln hca) ∧ w'.cell? ⟨gr, 2, none⟩ = some (.int .i64 su) ∧ w'.cell? ⟨kh, 0, none⟩ = some (.slice uo un uc) ∧ w'.cell? ⟨kh, 1, none⟩ = some (.int .i64 la)) (go_keep) (first
          | (go_at_call 11; refine (HSB.out _ HBc.out).mono ?_; rintro e u1 ⟨rfl, hb1⟩; obtain ⟨a0, a1, a2, a3, a4, a5⟩ := HCc.out u1 hb1; have HBc := Hid.mk' hb1; clear hb1)
          | (go_at_call 13; refine (HLs.out _ HBc.out).mono ?_; rintro e u1 ⟨al, rfl, hu1, hb1⟩; have HUa := Hid.mk' hu1; clear hu1; obtain ⟨a0, a1, a2, a3, a4, a5⟩ := HCc.out u1 hb1; have HBc := Hid.mk' hb1; clear hb1)
          | (go_at_call 12; refine (HSU.out _ _ HUa.out HBc.out).mono ?_; rintro e u1 ⟨rfl, hb1⟩; obtain ⟨a0, a1, a2, a3, a4, a5⟩ := HCc.out u1 hb1; have HBc := Hid.mk' hb1; clear hb1)
          | (go_at_call 14; refine (HNx.out _ HBc.out).mono ?_; rintro e u1 ⟨rfl, hb1⟩; obtain ⟨a0, a1, a2, a3, a4, a5⟩ := HCc.out u1 hb1; have HBc := Hid.mk' hb1; clear hb1)
          | (go_at_call 15; refine (HR1.out _ HBc.out).mono ?_; rintro e u1 ⟨rfl, hb1⟩; obtain ⟨a0, a1, a2, a3, a4, a5⟩ := HCc.out u1 hb1; have HBc := Hid.mk' hb1; clear hb1)
          | (go_at_call 16; refine (HR2.out _ HBc.out).mono ?_; rintro e u1 ⟨rfl, hb1⟩; obtain ⟨a0, a1, a2, a3, a4, a5⟩ := HCc.out u1 hb1; have HBc := Hid.mk' hb1; clear hb1))
        all_goals
          go_wp2
          go_roundw
          case rel => exact ⟨k + 1, s2, _, _, by omega, by go_num, HOk2.out, HD6.out.stay HBc.out⟩
          case measure => simp [intOf]; omega
      · obtain rfl : k = l.length := by omega
        have HE : Hid (Below w.heap.size w wr) := HB1.out.trans (HD.out.below.mono HB1.out.size)
        go_wp2
        go_ret
        exact ⟨rfl, HE.out⟩
end Go.Proofs.YtanpocgojmflgaaGreatDoor
