/- JournalBack, walked. -/
import Derived.Test.YtankilclhknbkaaJrBg
import Derived.Test.YtankilclhknbkaaRfSame
import Derived.Test.YtankilclhknbkaaJrS
namespace Go.Proofs.Ytankilclhknbkaa
open Go.RowKit

/-- what the loop of the law keeps: so many entries are written again -/
structure JbAt (w : World) (bo : Option Addr) (bc : Nat) (b : List UInt8) (lo : Option Addr) (lc : Nat) (i : Nat) (ao : Option Addr) (ca m : Nat) (W : World) : Prop where
  bytes : IsB W bo bc b
  ens : ∃ B, EnsAt W (fun k => w.heap.size ≤ k ∧ k < B) 24 lo lc (Jn.dec b).1 ∧ OwnB W B 5 ao ca (Jn.all ((Jn.dec b).1.take i)) ∧ B ≤ W.heap.size ∧ w.heap.size ≤ B
  len : (Jn.all ((Jn.dec b).1.take i)).length = m
  below : Below w.heap.size w W
theorem all_take (l : List Jn.E) (i : Nat) (hi : i < l.length) : Jn.all (l.take (i + 1)) = Jn.all (l.take i) ++ Jn.enc l[i] := by
  rw [List.take_succ_eq_append_getElem hi, Jn.all_append]; simp [Jn.all]
theorem all_take_le (l : List Jn.E) (i : Nat) : (Jn.all (l.take i)).length ≤ (Jn.all l).length := by
  have : Jn.all l = Jn.all (l.take i) ++ Jn.all (l.drop i) := by rw [← Jn.all_append, List.take_append_drop]
  rw [this, List.length_append]; omega

set_option maxRecDepth 100000 in
set_option maxHeartbeats 4000000 in
theorem journalBack_any (bo : Option Addr) (n bc : Nat) (b : List UInt8) (w : World) (hB : IsB w bo bc b) (hn : b.length = n) :
    Calls Try.prog 5 #[.slice bo n bc] w fun e w' => e = .returned (.bool true) ∧ Below w.heap.size w w' := by
  have HI : Hid (∀ W, Below w.heap.size w W → IsB W bo bc b) := fun W hW => hB.stay hW
  have HBg := Hid.mk' (journalBegun_any w)
  have hcap := hB.1
  obtain ⟨i0, hi0, hz0, hz1, hz2⟩ := info_parts info_u8
  have Hi := Hid.mk' hi0; have Hz0 := Hid.mk' hz0; have Hz1 := Hid.mk' hz1; have Hz2 := Hid.mk' hz2
  clear hB hi0 hz0 hz1 hz2
  by_cases h1 : 20000 < n
  · have h1' : (20000 : Int) < n := by omega
    go_enter Try.func5, Try.ntmps5
    go_wp2_with (go_at_call 7; refine HBg.out.mono ?_; rintro e w2 ⟨rfl, hb2⟩; have HB2 := Hid.mk' hb2; clear hb2)
    go_ret
    exact ⟨rfl, HB2.out⟩
  · have h1' : ¬ (20000 : Int) < n := by omega
    have HDc : Hid (∀ W, IsB W bo bc b → Calls Try.prog 11 #[.slice bo n bc] W fun e w' => ∃ ao ca, e = .returned (.tuple #[.slice ao (Jn.dec b).1.length ca, .int .i64 ((Jn.dec b).2 : Int)]) ∧ EnsAt w' (fun k => W.heap.size ≤ k) 24 ao ca (Jn.dec b).1 ∧ Below W.heap.size W w') := fun W h => decode_any b bo bc n W h hn (by omega)
    have hdb := Jn.dec_back _ b (Nat.le_refl _)
    obtain ⟨hfit, hdn, hfl, hdl⟩ := hdb
    have HFt := Hid.mk' hfit
    have HFl : Hid (Jn.all (Jn.dec b).1 = b.take (Jn.dec b).2) := hfl
    have hal : (Jn.all (Jn.dec b).1).length ≤ 20000 := by rw [HFl.out, List.length_take]; omega
    have HAl := Hid.mk' hal
    have HLw : Hid (∃ q, (Jn.dec b).1.length = q) := ⟨_, rfl⟩
    generalize hll : (Jn.dec b).1.length = ll at *
    generalize hdd : (Jn.dec b).2 = dn at *
    clear hfit hfl hal
    go_enter Try.func5, Try.ntmps5
    go_upto_region 6 with (first
      | (go_at_call 7; refine HBg.out.mono ?_; rintro e w2 ⟨rfl, hb2⟩; have HB2 := Hid.mk' hb2; have HI2 := Hid.mk' (HI.out _ hb2); clear hb2)
      | (go_at_call 11; refine (HDc.out _ HI2.out).mono ?_; rintro e w3 ⟨lo, lc, rfl, hE3, hb3⟩; have HE3 := Hid.mk' hE3; have HB3 := Hid.mk' hb3; clear hE3 hb3))
    have HR0 : Hid (JbAt w bo bc b lo lc 0 none 0 0 w3) := ⟨HI2.out.stay HB3.out, ⟨w3.heap.size, HE3.out.mono (fun k hk e => ⟨by have := HB2.out.size; omega, hk⟩), OwnB.nil _ _ _, Nat.le_refl _, by have := HB2.out.size; have := HB3.out.size; omega⟩, by simp [Jn.all], then_ HB2.out HB3.out⟩
    clear HE3 HB3 HI2 HDc HBg
    go_wp2
    go_loopw [5, 6] (fun va vi wr => ∃ (i m : Nat) (ao : Option Addr) (ca : Nat), i ≤ ll ∧ va = .slice ao m ca ∧ vi = .int .i64 i ∧ JbAt w bo bc b lo lc i ao ca m wr) (fun _ vi _ => ll - (intOf vi).toNat)
    case atStart => exact ⟨0, 0, none, 0, Nat.zero_le _, rfl, rfl, HR0.out⟩
    case round =>
      obtain ⟨i, m, ao, ca, hi, rfl, rfl, hJ⟩ := hrel
      have HJ := Hid.mk' hJ
      have hm : m ≤ 20000 := by have := all_take_le (Jn.dec b).1 i; have := HAl.out; have := hJ.len; omega
      clear hJ
      by_cases hlt : i < ll
      · have hlt' : (i : Int) < ll := by omega
        obtain ⟨B, hEn, hOw, hBs, hwB⟩ := HJ.out.ens
        obtain ⟨bb, oo, s1, rfl, x0, x1, x2, x3, x5⟩ := hEn.isEns.at_ i (by omega)
        have hfi := HFt.out _ (List.getElem_mem (show i < (Jn.dec b).1.length by omega))
        have HTk := Hid.mk' (all_take (Jn.dec b).1 i (by omega))
        have hlc := hEn.isEns.cap_
        rw [hll] at hlc
        have HEn : Hid (Calls Try.prog 8 #[.agg #[.int .i64 (Jn.dec b).1[i].kind, .int .i64 (Jn.dec b).1[i].id, .int .i64 (Jn.dec b).1[i].n, .slice s1.bo (Jn.dec b).1[i].text.length s1.bcap]] wr fun e w' => ∃ ao cap, e = .returned (.tuple #[.slice ao (Jn.enc (Jn.dec b).1[i]).length cap, .int .i64 0]) ∧ IsB w' ao cap (Jn.enc (Jn.dec b).1[i]) ∧ Below wr.heap.size wr w') := (encode_any (Jn.dec b).1[i] s1.bo _ s1.bcap wr x5 rfl).mono fun e w' h => by
          obtain ⟨ao, cap, h1, h2, h3⟩ := h
          unfold encOut at h1 h2
          rw [if_pos hfi] at h1 h2
          exact ⟨ao, cap, h1, h2.isB, h3⟩
        have hel : m + (Jn.enc (Jn.dec b).1[i]).length ≤ 20000 := by
          have h2 := all_take_le (Jn.dec b).1 (i + 1)
          rw [HTk.out, List.length_append, HJ.out.len] at h2
          have := HAl.out; omega
        have HSt : Hid (∀ w4 w5 ao5 ca5, Below wr.heap.size wr w4 → OwnB w5 B 5 ao5 ca5 (Jn.all ((Jn.dec b).1.take i) ++ Jn.enc (Jn.dec b).1[i]) → w4.grownBy w5 (blockOf ao) → JbAt w bo bc b (some ⟨bb, oo, none⟩) lc (i + 1) ao5 ca5 (m + (Jn.enc (Jn.dec b).1[i]).length) w5) := fun w4 w5 ao5 ca5 hb4 hO5 hG5 => by
          have hb5 : Below B w4 w5 := grown_base (hOw.stay hb4) hG5 (by have := hb4.size; omega)
          have hbw : Below w.heap.size w w5 := (then_ HJ.out.below hb4).trans (hb5.mono hwB)
          refine ⟨HI.out _ hbw, ⟨B, (hEn.stay hb4).turns (Turns.of_grown (S := fun k => blockOf ao = some k) hG5 (fun k e => e)) (fun k e e2 => ?_), by rw [HTk.out]; exact hO5, by have := hb4.size; have := hb5.size; omega, hwB⟩, by rw [HTk.out, List.length_append, HJ.out.len], hbw⟩
          cases ao with
          | none => cases e2
          | some a =>
            injection e2 with e2
            have := (hOw.block a rfl).1
            omega
        have HOw := Hid.mk' hOw
        have HLn := Hid.mk' HJ.out.len
        clear hEn hOw x5 hfi HTk
        generalize Jn.all ((Jn.dec b).1.take i) = pr at *
        generalize (Jn.dec b).1[i] = q at *
        generalize hqe : Jn.enc q = qe at *
        generalize hql : q.text.length = ql at *
        clear hqe hql
        obtain ⟨el, hel'⟩ : ∃ el, qe.length = el := ⟨_, rfl⟩
        rw [hel'] at HEn hel HSt
        have HEl := Hid.mk' hel'
        clear hel'
        go_wp2_with (first
          | (go_at_call 8; refine HEn.out.mono ?_; rintro e w4 ⟨ao4, ca4, rfl, hI4, hb4⟩; have HI4 := Hid.mk' hI4; have HB4 := Hid.mk' hb4; clear hI4 hb4)
          | (at_builtin; refine wpList_append_b rfl (.tmp 35) (.tmp 36) 22 rfl B 5 i0 Try.underlying22 Hi.out Hz0.out Hz1.out Hz2.out (l := pr) (l2 := qe) rfl HLn.out (HOw.out.stay HB4.out) rfl HEl.out HI4.out (by omega) (by have := HB4.out.size; omega) ?_; intro ao5 ca5 w5 hO5 hG5; have HS5 := Hid.mk' (HSt.out w4 w5 ao5 ca5 HB4.out hO5 hG5); clear hO5 hG5))
        go_roundw
        case rel => exact ⟨i + 1, m + el, ao5, ca5, by omega, rfl, by go_num, HS5.out⟩
        case measure => simp [intOf]; omega
      · obtain rfl : i = ll := by omega
        obtain ⟨B, hEn, hOw, hBs, hwB⟩ := HJ.out.ens
        have hfu : Jn.all ((Jn.dec b).1.take i) = b.take dn := by rw [← HFl.out, ← hll, List.take_length]
        have hmd : m = dn := by rw [← HJ.out.len, hfu, List.length_take]; omega
        subst hmd
        have HSm : Hid (Calls Try.prog 13 #[.slice ao m ca, .slice bo m bc] wr fun e w' => e = .returned (.bool true) ∧ w' = wr) := by
          have h2 := HJ.out.bytes.first m hdn
          rw [← hfu] at h2
          have := sameBytes_any wr ao bo ca bc m m _ _ HJ.out.len HJ.out.len hOw.isB h2
          rw [decide_eq_true rfl] at this; exact this
        have t1 : (m : Int) ≤ n := by omega
        have t2 : (m : Int) ≤ bc := by omega
        clear hEn hOw hfu
        go_wp2_with (go_at_call 13; refine HSm.out.mono ?_; rintro e w8 ⟨rfl, hw⟩; rw [hw]; clear hw)
        go_ret
        exact ⟨rfl, HJ.out.below⟩
end Go.Proofs.Ytankilclhknbkaa
