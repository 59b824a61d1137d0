/- JournalLogs, walked. -/
import Derived.Test.YtankilclhknbkaaJlC
import Derived.Test.YtankilclhknbkaaMemLs
import Derived.Test.YtankilclhknbkaaJrBg
import Derived.Test.YtankilclhknbkaaRfSame
namespace Go.Proofs.Ytankilclhknbkaa
open Go.RowKit

theorem IsLs.cap_ {w : World} {ao : Option Addr} {cap : Nat} {l : List Ls} (h : IsLs w ao cap l) : l.length ≤ cap := by
  obtain ⟨us, _, hv, _⟩ := h
  exact hv.1
/-- a step's block, and the log beside the same bytes -/
structure LxAt (w : World) (xb : Nat) (p : Ls) (so : Option Addr) (sn sc : Nat) (g : Nat) (b : List UInt8) (sure : Nat) (ao : Option Addr) (ca : Nat) (bo : Option Addr) (bc : Nat) (W : World) : Prop where
  x : W.heap[xb]? = some (.cells #[.int .i64 p.op, .int .i64 p.n, .slice so sn sc] 48 (0, 0))
  lg : LgAt w W g b sure ao ca bo bc
set_option maxRecDepth 100000 in
set_option maxHeartbeats 8000000 in
theorem journalLogs_any (l : List Ls) (lo : Option Addr) (n cap : Nat) (room : Int) (w : World) (hE : IsLs w lo cap l) (hn : l.length = n) :
    Calls Try.prog 6 #[.slice lo n cap, .int .i64 room] w fun e w' => e = .returned (.bool true) ∧ Below w.heap.size w w' := by
  have HI := Hid.mk' hE
  have HBg := Hid.mk' (journalBegun_any w)
  have hcap := hE.cap_
  obtain ⟨i0, hi0, hz0, hz1, hz2⟩ := info_parts info_u8
  have Hi := Hid.mk' hi0; have Hz0 := Hid.mk' hz0; have Hz1 := Hid.mk' hz1; have Hz2 := Hid.mk' hz2
  clear hE hi0 hz0 hz1 hz2
  by_cases h1 : 200 < n
  · have h1' : (200 : Int) < n := by omega
    go_enter Try.func6, Try.ntmps6
    go_wp2_with (go_at_call 7; refine HBg.out.mono ?_; rintro e w2 ⟨rfl, hb2⟩; have HB2 := Hid.mk' hb2; clear hb2)
    go_ret
    exact ⟨rfl, HB2.out⟩
  · have h1' : ¬ (200 : Int) < n := by omega
    have HNw := Hid.mk' (fun W => newLog_any W)
    go_enter Try.func6, Try.ntmps6
    go_upto_region 6 with (first
      | (go_at_call 7; refine HBg.out.mono ?_; rintro e w2 ⟨rfl, hb2⟩; have HB2 := Hid.mk' hb2; clear hb2)
      | (go_at_call 15; refine (HNw.out _).mono ?_; rintro e w3 ⟨rfl, hL3, hb3⟩; have HL3 := Hid.mk' hL3; have HB3 := Hid.mk' hb3; clear hL3 hb3))
    have HG0 : Hid (LgAt w w3 w2.heap.size [] 0 none 0 none 0) := ⟨⟨HL3.out.row, OwnB.nil _ _ _, HB2.out.size, Nat.le_refl _, by decide⟩, OwnB.nil _ _ _, (fun k e => by cases e), then_ HB2.out HB3.out⟩
    clear HL3 HB3 HNw HBg HB2
    generalize w2.heap.size = g at *
    go_wp2
    go_loopw [6, 7, 8] (fun v6 v7 v8 wr => ∃ (i m bc ca sure : Nat) (ao bo : Option Addr) (b : List UInt8), i ≤ n ∧ v8 = .int .i64 i ∧ b.length = m ∧ v6 = .slice bo m bc ∧ v7 = .int .i64 sure ∧ LgAt w wr g b sure ao ca bo bc) (fun _ _ v8 _ => n - (intOf v8).toNat)
    case atStart => exact ⟨0, 0, 0, 0, 0, none, none, [], Nat.zero_le _, rfl, rfl, rfl, rfl, HG0.out⟩
    case round =>
      obtain ⟨i, m, bc, ca, sure, ao, bo, b, hi, rfl, hm, rfl, rfl, hG⟩ := hrel
      have HG := Hid.mk' hG
      have hle := hG.log.le
      have hfew := hG.log.few
      have hbc := hG.own.isB.1
      rw [hm] at hle hfew hbc
      clear hG HG0
      generalize wr = wo at *
      by_cases hlt : i < n
      · have hlt' : (i : Int) < n := by omega
        obtain ⟨bb, oo, s1, rfl, x0, x1, x2, x5⟩ := (HI.out.stay HG.out.below).at_ i (by omega)
        have HSb : Hid (∃ so sn sc, s1 = ⟨so, sc⟩ ∧ sn = l[i].bs.length) := ⟨s1.bo, _, s1.bcap, rfl, rfl⟩
        have hbA := (Below.refl _ wo).alloc (Nat.le_refl _) (.cells #[.int .i64 l[i].op, .int .i64 l[i].n, .slice s1.bo l[i].bs.length s1.bcap] 48)
        have HX0 : Hid (LxAt w wo.heap.size l[i] s1.bo l[i].bs.length s1.bcap g b sure ao ca bo bc (wo.alloc (.cells #[.int .i64 l[i].op, .int .i64 l[i].n, .slice s1.bo l[i].bs.length s1.bcap] 48))) := ⟨heap_alloc_new wo _, HG.out.stay hbA⟩
        obtain ⟨bb2, oo2, s2, eA, _, _, y2, y5⟩ := HI.out.at_ i (by omega)
        have hss : s2 = s1 := by
          injection eA with eA; injection eA with eA eB _; subst eA; subst eB
          have := HG.out.below.cell (p := ⟨bb, oo + i * 3 + 2, none⟩) (World.block_lt_of_cell? w _ y2)
          rw [x2, y2] at this
          injection this with this; injection this with e1 _ e3
          cases s1; cases s2; simp_all
        subst hss
        have HIx : Hid (∀ W, Below w.heap.size w W → IsB W s2.bo s2.bcap l[i].bs) := fun W hW => y5.stay hW
        have HFr := Hid.mk' HG.out.far
        clear x5 y2 y5 eA hbA HSb
        generalize l[i] = p at *
        generalize s2.bo = so at *
        generalize s2.bcap = sc at *
        obtain ⟨sn, hsn⟩ : ∃ sn, p.bs.length = sn := ⟨_, rfl⟩
        rw [hsn] at x2 HX0
        have HSn := Hid.mk' hsn
        clear hsn
        go_upto_region 12 with fail
        generalize wo.alloc (.cells #[.int .i64 p.op, .int .i64 p.n, .slice so sn sc] 48) = w1 at *
        obtain ⟨⟨c0, c1, c2⟩, hff⟩ := row3 HX0.out.x
        clear hff
        by_cases hbig : 60000 < sn
        · have hbig' : (60000 : Int) < sn := by omega
          go_wp2
          go_ret
          exact ⟨rfl, HX0.out.lg.below⟩
        · have hbig' : ¬ (60000 : Int) < sn := by omega
          generalize hxb : wo.heap.size = xb at *
          go_upto_region 14 with fail
          go_cut [34] from 19 to 148 (fun t wd => t = .int .i64 p.op ∧ wd = w1)
          case first =>
            go_wp2
            go_meet
            exact ⟨rfl, rfl⟩
          case rest =>
            obtain ⟨rfl, rfl⟩ := hcut
            rename_i hkk
            refine hkk _ _ ?_
            go_cut [6, 7] from 19 to 148 (fun v6 v7 wd => ∃ (m' bc' ca' sure' : Nat) (ao' bo' : Option Addr) (b' : List UInt8), b'.length = m' ∧ v6 = .slice bo' m' bc' ∧ v7 = .int .i64 sure' ∧ LgAt w wd g b' sure' ao' ca' bo' bc')
            case first =>
              have HXr : Hid (∀ w2, Turns (LgF g ao) wc w2 → w2.cell? ⟨xb, 0, none⟩ = some (.int .i64 p.op) ∧ w2.cell? ⟨xb, 1, none⟩ = some (.int .i64 p.n) ∧ w2.cell? ⟨xb, 2, none⟩ = some (.slice so sn sc)) := fun w2 ht => (row3 (ht.row HX0.out.x (fun e => by have := HFr.out _ e; omega))).1
              by_cases o0 : p.op = 0
              · by_cases hf : m + sn ≤ 100000
                · have hfi : ¬ (100000 : Int) < (m : Int) + sn := by omega
                  have hww : IntKind.i64.wrap ((m : Int) + sn) = (m : Int) + sn := wrap_id (by omega) (by omega)
                  have HWr := Hid.mk' (writeLog_yes HX0.out.lg.log so sc sn p.bs (HIx.out _ HX0.out.lg.below) HSn.out (by rw [hm]; exact hf))
                  have HKp : Hid (∀ w2, Turns (LgF g ao) wc w2 → OwnB w2 w.heap.size 5 bo bc b ∧ Below w.heap.size w w2) := fun w2 ht => HX0.out.lg.kept ht
                  have HLen : Hid ((b ++ p.bs).length = m + sn) := by unfold Hid; rw [List.length_append, hm, HSn.out]
                  have HMl := Hid.mk' hm
                  go_wp2_with (first
                    | (go_at_call 16; refine HWr.out.mono ?_; rintro e w2 ⟨ao', ca', rfl, hL2, ht2, hat2⟩; obtain ⟨d0, d1, d2⟩ := HXr.out w2 ht2; have HL2 := Hid.mk' hL2; have HT2 := Hid.mk' ht2; have HA2 := Hid.mk' hat2; clear hL2 ht2 hat2)
                    | (at_builtin; refine wpList_append_at rfl (.tmp 62) (.tmp 64) 22 rfl w.heap.size 5 i0 Try.underlying22 Hi.out Hz0.out Hz1.out Hz2.out (l := b) (l2 := p.bs) rfl HMl.out (HKp.out w2 HT2.out).1 rfl HSn.out (HIx.out w2 (HKp.out w2 HT2.out).2) (by omega) (HKp.out w2 HT2.out).2.size ?_; intro a4 c4 w4 hO4 hG4 hat4; have HG4 := Hid.mk' (HX0.out.lg.write HL2.out HT2.out HA2.out hO4 hG4 hat4); clear hO4 hG4 hat4))
                  go_meet
                  exact ⟨m + sn, c4, ca', sure, ao', a4, b ++ p.bs, HLen.out, rfl, rfl, HG4.out⟩
                · have hfi : (100000 : Int) < (m : Int) + sn := by omega
                  have hww : IntKind.i64.wrap ((m : Int) + sn) = (m : Int) + sn := wrap_id (by omega) (by omega)
                  have HWr := Hid.mk' (writeLog_no HX0.out.lg.log so sc sn (by rw [hm]; exact hf))
                  have HMl := Hid.mk' hm
                  go_wp2_with (go_at_call 16; refine HWr.out.mono ?_; rintro e w2 ⟨rfl, hw⟩; rw [hw]; clear hw)
                  go_meet
                  exact ⟨m, bc, ca, sure, ao, bo, b, HMl.out, rfl, rfl, HX0.out.lg⟩
              · by_cases o1 : p.op = 1
                · have HSy := Hid.mk' (syncLog_any HX0.out.lg.log)
                  rw [hm] at HSy
                  have HMl := Hid.mk' hm
                  go_wp2_with (go_at_call 17; refine HSy.out.mono ?_; rintro e w2 ⟨rfl, hL2, ht2⟩; have HG2 := Hid.mk' (HX0.out.lg.same hL2 ht2); clear hL2 ht2)
                  go_meet
                  exact ⟨m, bc, ca, m, ao, bo, b, HMl.out, rfl, rfl, HG2.out⟩
                · by_cases o2 : p.op = 2
                  · have HCr := Hid.mk' (crashLog_any HX0.out.lg.log p.n)
                    rw [hm] at HCr
                    have hstl : stay_ p.n (m - sure) ≤ m - sure := by unfold stay_; omega
                    have HFin : Hid (∀ w2, LogAt w2 w.heap.size g (b.take (sure + stay_ p.n (m - sure))) (sure + stay_ p.n (m - sure)) ao ca → Turns (fun k => k = g) wc w2 → (b.take (sure + stay_ p.n (m - sure))).length = sure + stay_ p.n (m - sure) ∧ LgAt w w2 g (b.take (sure + stay_ p.n (m - sure))) (sure + stay_ p.n (m - sure)) ao ca bo bc) := fun w2 hL ht => ⟨by rw [List.length_take, hm]; omega, HX0.out.lg.turn (by omega) hL ht⟩
                    have HXg : Hid (∀ w2, Turns (fun k => k = g) wc w2 → w2.cell? ⟨xb, 0, none⟩ = some (.int .i64 p.op) ∧ w2.cell? ⟨xb, 1, none⟩ = some (.int .i64 p.n) ∧ w2.cell? ⟨xb, 2, none⟩ = some (.slice so sn sc)) := fun w2 ht => HXr.out w2 (ht.mono (fun k e => Or.inl e))
                    have HSt : Hid ((stay_ p.n (m - sure) : Int) = if p.n < (m : Int) - sure then (if p.n < 0 then 0 else p.n) else (m : Int) - sure) := by
                      unfold Hid stay_
                      split
                      · split <;> omega
                      · omega
                    have HMl := Hid.mk' hm
                    clear HXr
                    generalize p.n = pn at *
                    generalize stay_ pn (m - sure) = st at *
                    have hwd : IntKind.i64.wrap ((m : Int) - sure) = (m : Int) - sure := wrap_id (by omega) (by omega)
                    by_cases k1 : pn < (m : Int) - sure
                    · by_cases k2 : pn < 0
                      · have e : st = 0 := by have := HSt.out; rw [if_pos k1, if_pos k2] at this; omega
                        subst e
                        have hsm : (sure : Int) ≤ bc := by omega
                        clear HSt
                        go_wp2_with (go_at_call 18; refine HCr.out.mono ?_; rintro e w2 ⟨rfl, hL2, ht2⟩; obtain ⟨d0, d1, d2⟩ := HXg.out w2 ht2; have HG2 := Hid.mk' (HFin.out w2 hL2 ht2); clear hL2 ht2)
                        go_meet
                        exact ⟨sure, bc, ca, sure, ao, bo, b.take (sure + 0), HG2.out.1, rfl, rfl, HG2.out.2⟩
                      · have e : pn = (st : Int) := by have := HSt.out; rw [if_pos k1, if_neg k2] at this; omega
                        subst e
                        have hsm : (sure : Int) + st ≤ bc := by omega
                        have hsz : (0 : Int) ≤ (sure : Int) + st := by omega
                        have hsn2 : ((sure : Int) + st).toNat = sure + st := by omega
                        have hws : IntKind.i64.wrap ((sure : Int) + st) = (sure : Int) + st := wrap_id (by omega) (by omega)
                        clear HSt
                        go_wp2_with (go_at_call 18; refine HCr.out.mono ?_; rintro e w2 ⟨rfl, hL2, ht2⟩; obtain ⟨d0, d1, d2⟩ := HXg.out w2 ht2; have HG2 := Hid.mk' (HFin.out w2 hL2 ht2); clear hL2 ht2)
                        go_meet
                        exact ⟨sure + st, bc, ca, sure + st, ao, bo, b.take (sure + st), HG2.out.1, by first | rfl | simp, by first | rfl | simp, HG2.out.2⟩
                    · have e : m = sure + st := by have := HSt.out; rw [if_neg k1] at this; omega
                      subst e
                      have k1' : ¬ pn < (st : Int) := by omega
                      have k3 : ¬ (st : Int) < 0 := by omega
                      have hsm : (sure : Int) + st ≤ bc := by omega
                      have hsz : (0 : Int) ≤ (sure : Int) + st := by omega
                      have hsn2 : ((sure : Int) + st).toNat = sure + st := by omega
                      have hws : IntKind.i64.wrap ((sure : Int) + st) = (sure : Int) + st := wrap_id (by omega) (by omega)
                      have hwt : IntKind.i64.wrap (st : Int) = (st : Int) := wrap_id (by omega) (by omega)
                      clear HSt k1 hwd
                      go_wp2_with (go_at_call 18; refine HCr.out.mono ?_; rintro e w2 ⟨rfl, hL2, ht2⟩; obtain ⟨d0, d1, d2⟩ := HXg.out w2 ht2; have HG2 := Hid.mk' (HFin.out w2 hL2 ht2); clear hL2 ht2)
                      go_meet
                      exact ⟨sure + st, bc, ca, sure + st, ao, bo, b.take (sure + st), HG2.out.1, by first | rfl | simp, by first | rfl | simp, HG2.out.2⟩
                  · by_cases o3 : p.op = 3
                    · have HXg : Hid (∀ w2, Turns (fun k => k = g) wc w2 → w2.cell? ⟨xb, 0, none⟩ = some (.int .i64 p.op) ∧ w2.cell? ⟨xb, 1, none⟩ = some (.int .i64 p.n) ∧ w2.cell? ⟨xb, 2, none⟩ = some (.slice so sn sc)) := fun w2 ht => HXr.out w2 (ht.mono (fun k e => Or.inl e))
                      have HMl := Hid.mk' hm
                      clear HXr
                      by_cases hc : 0 ≤ p.n ∧ p.n < (m : Int)
                      · obtain ⟨hc1, hc2⟩ := hc
                        have HCu : Hid (Calls Try.prog 19 #[.pointer (some ⟨g, 0, none⟩), .int .i64 ((p.n.toNat : Nat) : Int)] wc fun e w' => e = .returned (.tuple #[]) ∧ LogAt w' w.heap.size g (b.take p.n.toNat) (min sure p.n.toNat) ao ca ∧ Turns (fun k => k = g) wc w') := cutLog_yes HX0.out.lg.log p.n.toNat (by rw [hm]; omega)
                        have HFin : Hid (∀ w2, LogAt w2 w.heap.size g (b.take p.n.toNat) (min sure p.n.toNat) ao ca → Turns (fun k => k = g) wc w2 → (b.take p.n.toNat).length = p.n.toNat ∧ LgAt w w2 g (b.take p.n.toNat) (min sure p.n.toNat) ao ca bo bc) := fun w2 hL ht => ⟨by rw [List.length_take, hm]; omega, HX0.out.lg.turn (by omega) hL ht⟩
                        obtain ⟨q, hq⟩ : ∃ q : Nat, p.n = q := ⟨p.n.toNat, by omega⟩
                        have hqn : p.n.toNat = q := by omega
                        rw [hqn] at HCu HFin
                        generalize p.n = pn at *
                        subst hq
                        clear hqn
                        have hqc : (q : Int) ≤ bc := by omega
                        by_cases hs : q < sure
                        · have hs' : (q : Int) < sure := by omega
                          have em : min sure q = q := by omega
                          rw [em] at HCu HFin
                          go_wp2_with (go_at_call 19; refine HCu.out.mono ?_; rintro e w2 ⟨rfl, hL2, ht2⟩; obtain ⟨d0, d1, d2⟩ := HXg.out w2 ht2; have HG2 := Hid.mk' (HFin.out w2 hL2 ht2); clear hL2 ht2)
                          go_meet
                          exact ⟨q, bc, ca, q, ao, bo, b.take q, HG2.out.1, rfl, rfl, HG2.out.2⟩
                        · have hs' : ¬ (q : Int) < sure := by omega
                          have em : min sure q = sure := by omega
                          rw [em] at HCu HFin
                          go_wp2_with (go_at_call 19; refine HCu.out.mono ?_; rintro e w2 ⟨rfl, hL2, ht2⟩; obtain ⟨d0, d1, d2⟩ := HXg.out w2 ht2; have HG2 := Hid.mk' (HFin.out w2 hL2 ht2); clear hL2 ht2)
                          go_meet
                          exact ⟨q, bc, ca, sure, ao, bo, b.take q, HG2.out.1, rfl, rfl, HG2.out.2⟩
                      · have HCu := Hid.mk' (cutLog_no HX0.out.lg.log p.n (by rw [hm]; exact hc))
                        by_cases hc1 : p.n < 0
                        · clear hc
                          go_wp2_with (go_at_call 19; refine HCu.out.mono ?_; rintro e w2 ⟨rfl, hw⟩; rw [hw]; clear hw)
                          go_meet
                          exact ⟨m, bc, ca, sure, ao, bo, b, HMl.out, rfl, rfl, HX0.out.lg⟩
                        · have hc2 : ¬ p.n < (m : Int) := by omega
                          clear hc
                          go_wp2_with (go_at_call 19; refine HCu.out.mono ?_; rintro e w2 ⟨rfl, hw⟩; rw [hw]; clear hw)
                          go_meet
                          exact ⟨m, bc, ca, sure, ao, bo, b, HMl.out, rfl, rfl, HX0.out.lg⟩
                    · have HMl := Hid.mk' hm
                      go_wp2
                      go_meet
                      exact ⟨m, bc, ca, sure, ao, bo, b, HMl.out, rfl, rfl, HX0.out.lg⟩
            case rest =>
              obtain ⟨m', bc', ca', sure', ao', bo', b', hm', rfl, rfl, hG'⟩ := hcut
              have HG' := Hid.mk' hG'
              have hfew' := hG'.log.few
              rw [hm'] at hfew'
              have HSu := Hid.mk' (sureLog_any hG'.log)
              have HBy := Hid.mk' (bytesLog_any hG'.log)
              have HRo := Hid.mk' (fun W (hW : Below wc.heap.size wc W) => roomLog_any (hG'.log.stay hW) room)
              have HSm : Hid (∀ W a1 c1, Below wc.heap.size wc W → IsB W a1 c1 b' → Calls Try.prog 13 #[.slice a1 m' c1, .slice bo' m' bc'] W fun e w' => e = .returned (.bool true) ∧ w' = W) := fun W a1 c1 hW hI => by
                have := sameBytes_any W a1 bo' c1 bc' m' m' b' b' hm' hm' hI (HG'.out.own.stay hW).isB
                rw [decide_eq_true rfl] at this; exact this
              rw [hm'] at HBy HRo
              have HMl := Hid.mk' hm'
              have hwm : IntKind.i64.wrap (100000 - (m' : Int)) = 100000 - (m' : Int) := wrap_id (by omega) (by omega)
              clear hG' hm' HX0 HG HFr c0 c1 c2
              by_cases r1 : 0 ≤ room
              · by_cases r2 : room ≤ 100000 - (m' : Int)
                · have HR2 : Hid (∀ W, Below wc.heap.size wc W → Calls Try.prog 22 #[.pointer (some ⟨g, 0, none⟩), .int .i64 room] W fun e w' => e = .returned (.bool true) ∧ w' = W) := fun W hW => by
                    have := HRo.out W hW
                    rw [decide_eq_true r1, decide_eq_true r2] at this; exact this
                  clear HRo
                  go_wp2_with (first
                    | (go_at_call 20; refine HSu.out.mono ?_; rintro e w2 ⟨rfl, hw⟩; rw [hw]; clear hw)
                    | (go_at_call 21; refine HBy.out.mono ?_; rintro e w3 ⟨a3, c3, rfl, hI3, hb3⟩; have HI3 := Hid.mk' hI3; have HB3 := Hid.mk' hb3; clear hI3 hb3)
                    | (go_at_call 13; refine (HSm.out _ _ _ HB3.out HI3.out).mono ?_; rintro e w4 ⟨rfl, hw⟩; rw [hw]; clear hw)
                    | (go_at_call 22; refine (HR2.out _ HB3.out).mono ?_; rintro e w5 ⟨rfl, hw⟩; rw [hw]; clear hw))
                  go_roundw
                  case rel => exact ⟨i + 1, m', bc', ca', sure', ao', bo', b', by omega, by go_num, HMl.out, rfl, rfl, HG'.out.stay HB3.out⟩
                  case measure => simp [intOf]; omega
                · have HR2 : Hid (∀ W, Below wc.heap.size wc W → Calls Try.prog 22 #[.pointer (some ⟨g, 0, none⟩), .int .i64 room] W fun e w' => e = .returned (.bool false) ∧ w' = W) := fun W hW => by
                    have := HRo.out W hW
                    rw [decide_eq_true r1, decide_eq_false r2] at this; exact this
                  clear HRo
                  go_wp2_with (first
                    | (go_at_call 20; refine HSu.out.mono ?_; rintro e w2 ⟨rfl, hw⟩; rw [hw]; clear hw)
                    | (go_at_call 21; refine HBy.out.mono ?_; rintro e w3 ⟨a3, c3, rfl, hI3, hb3⟩; have HI3 := Hid.mk' hI3; have HB3 := Hid.mk' hb3; clear hI3 hb3)
                    | (go_at_call 13; refine (HSm.out _ _ _ HB3.out HI3.out).mono ?_; rintro e w4 ⟨rfl, hw⟩; rw [hw]; clear hw)
                    | (go_at_call 22; refine (HR2.out _ HB3.out).mono ?_; rintro e w5 ⟨rfl, hw⟩; rw [hw]; clear hw))
                  go_roundw
                  case rel => exact ⟨i + 1, m', bc', ca', sure', ao', bo', b', by omega, by go_num, HMl.out, rfl, rfl, HG'.out.stay HB3.out⟩
                  case measure => simp [intOf]; omega
              · have HR2 : Hid (∀ W, Below wc.heap.size wc W → Calls Try.prog 22 #[.pointer (some ⟨g, 0, none⟩), .int .i64 room] W fun e w' => e = .returned (.bool false) ∧ w' = W) := fun W hW => by
                  have := HRo.out W hW
                  rw [decide_eq_false r1] at this; exact this
                clear HRo
                go_wp2_with (first
                  | (go_at_call 20; refine HSu.out.mono ?_; rintro e w2 ⟨rfl, hw⟩; rw [hw]; clear hw)
                  | (go_at_call 21; refine HBy.out.mono ?_; rintro e w3 ⟨a3, c3, rfl, hI3, hb3⟩; have HI3 := Hid.mk' hI3; have HB3 := Hid.mk' hb3; clear hI3 hb3)
                  | (go_at_call 13; refine (HSm.out _ _ _ HB3.out HI3.out).mono ?_; rintro e w4 ⟨rfl, hw⟩; rw [hw]; clear hw)
                  | (go_at_call 22; refine (HR2.out _ HB3.out).mono ?_; rintro e w5 ⟨rfl, hw⟩; rw [hw]; clear hw))
                go_roundw
                case rel => exact ⟨i + 1, m', bc', ca', sure', ao', bo', b', by omega, by go_num, HMl.out, rfl, rfl, HG'.out.stay HB3.out⟩
                case measure => simp [intOf]; omega
      · obtain rfl : i = n := by omega
        go_wp2
        go_ret
        exact ⟨rfl, HG.out.below⟩
end Go.Proofs.Ytankilclhknbkaa
