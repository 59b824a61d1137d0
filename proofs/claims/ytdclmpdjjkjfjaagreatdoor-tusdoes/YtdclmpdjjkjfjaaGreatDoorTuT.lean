/- The document's own answer, walked: Tus. -/
import Derived.Test.YtdclmpdjjkjfjaaGreatDoorPk27
import Derived.Test.YtdclmpdjjkjfjaaGreatDoorPk19
import Derived.BigQuiet
import Derived.Deep.RegionWith
namespace Go.Proofs.YtdclmpdjjkjfjaaGreatDoor
open Go.RowKit

set_option maxRecDepth 100000 in
set_option maxHeartbeats 4000000 in
theorem tusSh_any {w : World} {S : Nat → Prop} {g : Nat} {s : Sr.Sh} (h : ShAt w S g s) (ok : Sr.Ok s) (m t : ByteArray) (mi ln : Int) (l : List (ByteArray × ByteArray)) (fo : Option Addr) (fcap : Nat) (hl : IsV w fo fcap l.length (pairV l)) (hN : l.length ≤ 1000) (hs : ∀ p ∈ l, p.1.size ≤ 2000 ∧ p.2.size ≤ 2000) (bo : Option Addr) (bcap nb : Nat) (body : List UInt8) (hb : body.length = nb) (hB : IsB w bo bcap body) (hnb : nb ≤ 100000) (ht : t.size ≤ 100000) :
    Calls Tryz.prog 11 #[.pointer (some ⟨g, 0, none⟩), .agg #[.string m, .string t, .int .i64 mi, .slice fo l.length fcap, .int .i64 ln], .slice bo nb bcap] w fun e w' => TuDid ShAt S w g (Tu.tus s m t l body) e w' := by
  subst hb
  have L := shLaw
  have hsz1 : (w.alloc (.cells #[.string m, .string t, .int .i64 mi, .slice fo l.length fcap, .int .i64 ln] 35)).heap.size = w.heap.size + 1 := World.size_alloc ..
  have T2 : TbAt ShAt S w g [.cells #[.string m, .string t, .int .i64 mi, .slice fo l.length fcap, .int .i64 ln] 35 (0, 0), .cells #[.int .i64 0, .slice none 0 0, .slice none 0 0] 32 (0, 0)] s (fun k => S k ∧ k < w.heap.size) ((w.alloc (.cells #[.string m, .string t, .int .i64 mi, .slice fo l.length fcap, .int .i64 ln] 35)).alloc (.cells #[.int .i64 0, .slice none 0 0, .slice none 0 0] 32)) :=
    ((TbAt.start L h).box L rfl (fun k e => e.2) _).box L hsz1 (fun k e => by rw [hsz1]; have := e.2; omega) _
  have HC : Hid (∀ W s' S', TbAt ShAt S w g [.cells #[.string m, .string t, .int .i64 mi, .slice fo l.length fcap, .int .i64 ln] 35 (0, 0), .cells #[.int .i64 0, .slice none 0 0, .slice none 0 0] 32 (0, 0)] s' S' W → W.cell? ⟨w.heap.size, 0, none⟩ = some (.string m) ∧ W.cell? ⟨w.heap.size, 1, none⟩ = some (.string t) ∧ W.cell? ⟨w.heap.size, 2, none⟩ = some (.int .i64 mi) ∧ W.cell? ⟨w.heap.size, 3, none⟩ = some (.slice fo l.length fcap) ∧ W.cell? ⟨w.heap.size, 4, none⟩ = some (.int .i64 ln)) := fun W s' S' hT => by
    have r0 := hT.row 0 rfl
    exact ⟨cell_of_row W _ 0 _ _ _ r0, cell_of_row W _ 1 _ _ _ r0, cell_of_row W _ 2 _ _ _ r0, cell_of_row W _ 3 _ _ _ r0, cell_of_row W _ 4 _ _ _ r0⟩
  have HW2 : Hid (Below w.heap.size w ((w.alloc (.cells #[.string m, .string t, .int .i64 mi, .slice fo l.length fcap, .int .i64 ln] 35)).alloc (.cells #[.int .i64 0, .slice none 0 0, .slice none 0 0] 32))) := then_ ((Below.refl _ w).alloc (Nat.le_refl _) _) ((Below.refl _ _).alloc (Nat.le_refl _) _)
  have H2 := Hid.mk' T2
  have HOn : Hid (∀ n : ByteArray, n.size ≤ 2000 → ∀ W, Below w.heap.size w W → Calls Tryz.prog 20 #[.slice fo l.length fcap, .string n] W fun e w' => e = .returned (txVal (Tu.one (Tu.vals n l))) ∧ Below W.heap.size W w') := fun n hn W hW => by
    have := oneOf_any l n fo fcap l.length W (hl.stay hW) rfl (by omega) (fun p hp => (hs p hp).1) hn
    rw [Tu.one_eq, Tu.vals_eq] at this
    exact this
  have HNi : Hid (∀ n : ByteArray, n.size ≤ 2000 → ∀ W, Below w.heap.size w W → Calls Tryz.prog 30 #[.agg #[.string m, .string t, .int .i64 mi, .slice fo l.length fcap, .int .i64 ln], .string n] W fun e w' => e = .returned (.tuple #[.int .i64 (Tu.numIn (Tu.one (Tu.vals n l))).1, .bool (Tu.numIn (Tu.one (Tu.vals n l))).2]) ∧ Below W.heap.size W w') := fun n hn W hW => numberIn_any m t mi ln l fo fcap n W (hl.stay hW) (by omega) hs hn
  have HVz : Hid (∀ n : ByteArray, (Tu.one (Tu.vals n l)).1.length ≤ 2000) := fun n => Tu.one_size l n 2000 (fun p hp => (hs p hp).2)
  have HBd : Hid (∀ W, Below w.heap.size w W → IsB W bo bcap body) := fun W hW => hB.stay hW
  have HV : Hid (∀ W, Below w.heap.size w W → IsV W fo fcap l.length (pairV l)) := fun W hW => hl.stay hW
  have HS := Hid.mk' hs
  have HOk := Hid.mk' ok
  obtain ⟨x0, x1, x2, x3, x4⟩ := HC.out _ _ _ T2
  clear T2 hsz1 h hl hs hB ok
  obtain ⟨R, hR⟩ : ∃ R, R = Tu.tus s m t l body := ⟨_, rfl⟩
  rw [← hR]
  unfold Tu.tus at hR
  have HD := Hid.mk' hR
  clear hR
  obtain ⟨bf, hbf⟩ : ∃ b, (t.toList == ([47, 102, 105, 108, 101, 115] : List UInt8)) = b := ⟨_, rfl⟩
  have eF : t = Tu.bFiles ↔ bf = true := by rw [← hbf]; exact Tu.eqL t Tu.bFiles _ rfl
  go_enter Tryz.func11, Tryz.ntmps11
  cases bf with
  | true =>
    obtain ⟨bo_, hbo_⟩ : ∃ b, (m.toList == ([79, 80, 84, 73, 79, 78, 83] : List UInt8)) = b := ⟨_, rfl⟩
    have HF := Hid.mk' (eF.2 rfl)
    have eO : m = Tu.mOpt ↔ bo_ = true := by rw [← hbo_]; exact Tu.eqL m Tu.mOpt _ rfl
    cases bo_ with
    | true =>
      rw [if_pos ⟨eF.2 rfl, eO.2 rfl⟩] at HD
      have HN2 : Hid (∀ W, Calls Tryz.prog 21 #[.int .i64 2000] W fun e w' => e = .returned (.string Tu.v2000) ∧ ∃ m, w' = W.drewN m) := fun W => by
        have := numI_any 2000 (by decide) (by decide) W
        rw [show Tu.dec (2000 : Int).toNat = Tu.v2000 from by decide +kernel] at this
        exact this
      go_wp2_with fail
      refine (HN2.out _).mono ?_
      rintro e w1 ⟨rfl, q1, hw⟩
      have H1 := Hid.mk' (H2.out.stay L (W' := w1) (by rw [hw]; exact below_drewN (Below.refl _ _) q1))
      clear hw HN2
      have HSd := Hid.mk' (said_three_any 204 Tu.fTV Tu.v100 Tu.fTX Tu.v2000 Tu.fTE Tu.vTE (some ⟨w1.heap.size, 0, none⟩) 6 _ (IsV.made w1 #[.string Tu.fTV, .string Tu.v100, .string Tu.fTX, .string Tu.v2000, .string Tu.fTE, .string Tu.vTE] 6 9 (0, 0)))
      have H1a := Hid.mk' (H1.out.stay L ((Below.refl _ w1).alloc (Nat.le_refl _) (.cells #[.string Tu.fTV, .string Tu.v100, .string Tu.fTX, .string Tu.v2000, .string Tu.fTE, .string Tu.vTE] 9)))
      unfold Tu.fTV Tu.v100 Tu.fTX Tu.v2000 Tu.fTE Tu.vTE at HSd H1a
      go_wp2_with fail
      refine HSd.out.mono ?_
      rintro e w9 ⟨ao9, cap9, rfl, hO9, hB9⟩
      obtain ⟨⟨z0, z1, z2, y0, y1, y2⟩, HE⟩ := H1a.out.ends L (i := 1) rfl (b := w.heap.size + 1) (by first | rfl | omega) (st := 204) (sti := 204) rfl rfl (Nat.le_trans (Nat.le_add_right _ _) H1a.out.sz) hO9 hB9
      clear hO9 hB9
      go_wp2
      generalize (((w9.setCell ⟨w.heap.size + 1, 0, none⟩ (.int .i64 204)).setCell ⟨w.heap.size + 1, 1, none⟩ (.slice ao9 4 cap9)).setCell ⟨w.heap.size + 1, 2, none⟩ (.slice none 0 0)) = wf at *
      obtain ⟨q0, q1, q2, q3⟩ := HE.out
      refine bodyPost_ret (v := .agg #[.int .i64 204, .slice ao9 4 cap9, .slice none 0 0]) (by simp [results, Tryz.results11, go_sem, q0, q1, q2]) rfl ?_
      rw [HD.out]
      exact q3
    | false =>
      rw [if_neg (fun e => by have := eO.1 e.2; cases this)] at HD
      have HOr := Hid.mk' (HOn.out Tu.nTR (by decide) _ HW2.out)
      have hzr := HVz.out Tu.nTR
      unfold Tu.nTR at HOr
      go_wp2_with fail
      refine HOr.out.mono ?_
      rintro e w3 ⟨rfl, hbr⟩
      rw [show (⟨#[116, 117, 115, 45, 114, 101, 115, 117, 109, 97, 98, 108, 101]⟩ : ByteArray) = Tu.nTR from rfl]
      unfold txVal
      have H3 := Hid.mk' (H2.out.stay L hbr); have HW3 := Hid.mk' (then_ HW2.out hbr)
      clear hbr HOr x0 x1 x2 x3 x4
      obtain ⟨x0, x1, x2, x3, x4⟩ := HC.out _ _ _ H3.out
      generalize Tu.one (Tu.vals Tu.nTR l) = rr at *
      obtain ⟨vr, cr⟩ := rr
      simp only at hzr HD ⊢
      by_cases hr9 : cr = 9
      · subst hr9
        rw [if_pos rfl] at HD
        generalize (⟨vr.toArray⟩ : ByteArray) = vb at *
        go_wp2_with fail
        refine (said_none_any 400 _).mono ?_
        rintro e w9 ⟨ao9, cap9, rfl, hO9, hB9⟩
        obtain ⟨⟨z0, z1, z2, y0, y1, y2⟩, HE⟩ := H3.out.ends L (i := 1) rfl (b := w.heap.size + 1) (by first | rfl | omega) (st := 400) (sti := 400) rfl rfl (Nat.le_trans (Nat.le_add_right _ _) H3.out.sz) hO9 hB9
        clear hO9 hB9
        go_wp2
        generalize (((w9.setCell ⟨w.heap.size + 1, 0, none⟩ (.int .i64 400)).setCell ⟨w.heap.size + 1, 1, none⟩ (.slice ao9 1 cap9)).setCell ⟨w.heap.size + 1, 2, none⟩ (.slice none 0 0)) = wf at *
        obtain ⟨q0, q1, q2, q3⟩ := HE.out
        refine bodyPost_ret (v := .agg #[.int .i64 400, .slice ao9 1 cap9, .slice none 0 0]) (by simp [results, Tryz.results11, go_sem, q0, q1, q2]) rfl ?_
        rw [HD.out]
        exact q3
      rw [if_neg hr9] at HD
      have tr9 : ((cr : Int) == 9) = false := by rw [beq_eq_false_iff_ne]; omega
      obtain ⟨bv, hbv⟩ : ∃ b, ((⟨vr.toArray⟩ : ByteArray).toList == ([49, 46, 48, 46, 48] : List UInt8)) = b := ⟨_, rfl⟩
      have eV : vr = Tu.v100.data.toList ↔ bv = true := by rw [← hbv]; exact Tu.eqV vr _
      generalize (⟨vr.toArray⟩ : ByteArray) = vb at *
      cases bv with
      | false =>
        rw [if_pos (fun e => by have := eV.1 e; cases this)] at HD
        have HSd := Hid.mk' (said_one_any 412 Tu.fTV Tu.v100 (some ⟨w3.heap.size, 0, none⟩) _ (IsV.made w3 #[.string Tu.fTV, .string Tu.v100] 2 9 (0, 0)))
        have H3a := Hid.mk' (H3.out.stay L ((Below.refl _ w3).alloc (Nat.le_refl _) (.cells #[.string Tu.fTV, .string Tu.v100] 9)))
        unfold Tu.fTV Tu.v100 at HSd H3a
        go_wp2_with fail
        refine HSd.out.mono ?_
        rintro e w9 ⟨ao9, cap9, rfl, hO9, hB9⟩
        obtain ⟨⟨z0, z1, z2, y0, y1, y2⟩, HE⟩ := H3a.out.ends L (i := 1) rfl (b := w.heap.size + 1) (by first | rfl | omega) (st := 412) (sti := 412) rfl rfl (Nat.le_trans (Nat.le_add_right _ _) H3a.out.sz) hO9 hB9
        clear hO9 hB9
        go_wp2
        generalize (((w9.setCell ⟨w.heap.size + 1, 0, none⟩ (.int .i64 412)).setCell ⟨w.heap.size + 1, 1, none⟩ (.slice ao9 2 cap9)).setCell ⟨w.heap.size + 1, 2, none⟩ (.slice none 0 0)) = wf at *
        obtain ⟨q0, q1, q2, q3⟩ := HE.out
        refine bodyPost_ret (v := .agg #[.int .i64 412, .slice ao9 2 cap9, .slice none 0 0]) (by simp [results, Tryz.results11, go_sem, q0, q1, q2]) rfl ?_
        rw [HD.out]
        exact q3
      | true =>
      rw [if_neg (fun e => e (eV.2 rfl))] at HD
      rw [if_pos HF.out] at HD
      unfold Tu.post at HD
      obtain ⟨bp, hbp⟩ : ∃ bp, (m.toList == ([80, 79, 83, 84] : List UInt8)) = bp := ⟨_, rfl⟩
      have eP : m = Tu.mPost ↔ bp = true := by rw [← hbp]; exact Tu.eqL m Tu.mPost _ rfl
      cases bp with
      | false =>
        rw [if_pos (fun e => by have := eP.1 e; cases this)] at HD
        go_wp2_with fail
        refine (said_none_any 405 _).mono ?_
        rintro e w9 ⟨ao9, cap9, rfl, hO9, hB9⟩
        obtain ⟨⟨z0, z1, z2, y0, y1, y2⟩, HE⟩ := H3.out.ends L (i := 1) rfl (b := w.heap.size + 1) (by first | rfl | omega) (st := 405) (sti := 405) rfl rfl (Nat.le_trans (Nat.le_add_right _ _) H3.out.sz) hO9 hB9
        clear hO9 hB9
        go_wp2
        generalize (((w9.setCell ⟨w.heap.size + 1, 0, none⟩ (.int .i64 405)).setCell ⟨w.heap.size + 1, 1, none⟩ (.slice ao9 1 cap9)).setCell ⟨w.heap.size + 1, 2, none⟩ (.slice none 0 0)) = wf at *
        obtain ⟨q0, q1, q2, q3⟩ := HE.out
        refine bodyPost_ret (v := .agg #[.int .i64 405, .slice ao9 1 cap9, .slice none 0 0]) (by simp [results, Tryz.results11, go_sem, q0, q1, q2]) rfl ?_
        rw [HD.out]
        exact q3
      | true =>
      rw [if_neg (fun e => e (eP.2 rfl))] at HD
      have HO4 := Hid.mk' (HNi.out Tu.nUL (by decide) _ HW3.out)
      unfold Tu.nUL at HO4
      go_wp2_with fail
      refine HO4.out.mono ?_
      rintro e w4 ⟨rfl, hb4⟩
      rw [show (⟨#[117, 112, 108, 111, 97, 100, 45, 108, 101, 110, 103, 116, 104]⟩ : ByteArray) = Tu.nUL from rfl]
      have H4 := Hid.mk' (H3.out.stay L hb4); have HW4 := Hid.mk' (then_ HW3.out hb4)
      clear hb4 HO4 H3 HW3 x0 x1 x2 x3 x4
      obtain ⟨x0, x1, x2, x3, x4⟩ := HC.out _ _ _ H4.out
      generalize Tu.numIn (Tu.one (Tu.vals Tu.nUL l)) = rn at *
      obtain ⟨n, okn⟩ := rn
      simp only at HD ⊢
      cases okn with
      | false =>
        rw [if_pos rfl] at HD
        go_wp2_with fail
        refine (said_none_any 400 _).mono ?_
        rintro e w9 ⟨ao9, cap9, rfl, hO9, hB9⟩
        obtain ⟨⟨z0, z1, z2, y0, y1, y2⟩, HE⟩ := H4.out.ends L (i := 1) rfl (b := w.heap.size + 1) (by first | rfl | omega) (st := 400) (sti := 400) rfl rfl (Nat.le_trans (Nat.le_add_right _ _) H4.out.sz) hO9 hB9
        clear hO9 hB9
        go_wp2
        generalize (((w9.setCell ⟨w.heap.size + 1, 0, none⟩ (.int .i64 400)).setCell ⟨w.heap.size + 1, 1, none⟩ (.slice ao9 1 cap9)).setCell ⟨w.heap.size + 1, 2, none⟩ (.slice none 0 0)) = wf at *
        obtain ⟨q0, q1, q2, q3⟩ := HE.out
        refine bodyPost_ret (v := .agg #[.int .i64 400, .slice ao9 1 cap9, .slice none 0 0]) (by simp [results, Tryz.results11, go_sem, q0, q1, q2]) rfl ?_
        rw [HD.out]
        exact q3
      | true =>
      rw [if_neg (by simp)] at HD
      have HOd := Hid.mk' (HOn.out Tu.nUD (by decide) _ HW4.out)
      have hzd := HVz.out Tu.nUD
      unfold Tu.nUD at HOd
      go_wp2_with fail
      refine HOd.out.mono ?_
      rintro e w5 ⟨rfl, hbd⟩
      rw [show (⟨#[117, 112, 108, 111, 97, 100, 45, 100, 101, 102, 101, 114, 45, 108, 101, 110, 103, 116, 104]⟩ : ByteArray) = Tu.nUD from rfl]
      unfold txVal
      have H5 := Hid.mk' (H4.out.stay L hbd); have HW5 := Hid.mk' (then_ HW4.out hbd)
      clear hbd HOd x0 x1 x2 x3 x4
      obtain ⟨x0, x1, x2, x3, x4⟩ := HC.out _ _ _ H5.out
      generalize Tu.one (Tu.vals Tu.nUD l) = rd at *
      obtain ⟨vd, cd⟩ := rd
      simp only at hzd HD ⊢
      by_cases hd9 : cd = 9
      · subst hd9
        rw [if_pos (Or.inl rfl)] at HD
        generalize (⟨vd.toArray⟩ : ByteArray) = db at *
        go_wp2_with fail
        refine (said_none_any 400 _).mono ?_
        rintro e w9 ⟨ao9, cap9, rfl, hO9, hB9⟩
        obtain ⟨⟨z0, z1, z2, y0, y1, y2⟩, HE⟩ := H5.out.ends L (i := 1) rfl (b := w.heap.size + 1) (by first | rfl | omega) (st := 400) (sti := 400) rfl rfl (Nat.le_trans (Nat.le_add_right _ _) H5.out.sz) hO9 hB9
        clear hO9 hB9
        go_wp2
        generalize (((w9.setCell ⟨w.heap.size + 1, 0, none⟩ (.int .i64 400)).setCell ⟨w.heap.size + 1, 1, none⟩ (.slice ao9 1 cap9)).setCell ⟨w.heap.size + 1, 2, none⟩ (.slice none 0 0)) = wf at *
        obtain ⟨q0, q1, q2, q3⟩ := HE.out
        refine bodyPost_ret (v := .agg #[.int .i64 400, .slice ao9 1 cap9, .slice none 0 0]) (by simp [results, Tryz.results11, go_sem, q0, q1, q2]) rfl ?_
        rw [HD.out]
        exact q3
      have td9 : ((cd : Int) == 9) = false := by rw [beq_eq_false_iff_ne]; omega
      obtain ⟨bo1, hbo1⟩ : ∃ b, ((⟨vd.toArray⟩ : ByteArray).toList == ([49] : List UInt8)) = b := ⟨_, rfl⟩
      have e1 : vd = Tu.vOne.data.toList ↔ bo1 = true := by rw [← hbo1]; exact Tu.eqV vd _
      generalize (⟨vd.toArray⟩ : ByteArray) = db at *
      have H1e := Hid.mk' e1
      clear e1
      by_cases hd0 : cd = 0
      · subst hd0
        cases bo1 with
        | false =>
          rw [if_pos (Or.inr (Or.inl ⟨rfl, fun e => by have := H1e.out.1 e; cases this⟩))] at HD
          go_wp2_with fail
          refine (said_none_any 400 _).mono ?_
          rintro e w9 ⟨ao9, cap9, rfl, hO9, hB9⟩
          obtain ⟨⟨z0, z1, z2, y0, y1, y2⟩, HE⟩ := H5.out.ends L (i := 1) rfl (b := w.heap.size + 1) (by first | rfl | omega) (st := 400) (sti := 400) rfl rfl (Nat.le_trans (Nat.le_add_right _ _) H5.out.sz) hO9 hB9
          clear hO9 hB9
          go_wp2
          generalize (((w9.setCell ⟨w.heap.size + 1, 0, none⟩ (.int .i64 400)).setCell ⟨w.heap.size + 1, 1, none⟩ (.slice ao9 1 cap9)).setCell ⟨w.heap.size + 1, 2, none⟩ (.slice none 0 0)) = wf at *
          obtain ⟨q0, q1, q2, q3⟩ := HE.out
          refine bodyPost_ret (v := .agg #[.int .i64 400, .slice ao9 1 cap9, .slice none 0 0]) (by simp [results, Tryz.results11, go_sem, q0, q1, q2]) rfl ?_
          rw [HD.out]
          exact q3
        | true =>
        by_cases hn0 : 0 ≤ n
        · have tn0 : decide (n ≥ 0) = true := decide_eq_true hn0
          rw [if_pos (Or.inr (Or.inr ⟨fun _ => rfl, fun _ => hn0⟩))] at HD
          go_wp2_with fail
          refine (said_none_any 400 _).mono ?_
          rintro e w9 ⟨ao9, cap9, rfl, hO9, hB9⟩
          obtain ⟨⟨z0, z1, z2, y0, y1, y2⟩, HE⟩ := H5.out.ends L (i := 1) rfl (b := w.heap.size + 1) (by first | rfl | omega) (st := 400) (sti := 400) rfl rfl (Nat.le_trans (Nat.le_add_right _ _) H5.out.sz) hO9 hB9
          clear hO9 hB9
          go_wp2
          generalize (((w9.setCell ⟨w.heap.size + 1, 0, none⟩ (.int .i64 400)).setCell ⟨w.heap.size + 1, 1, none⟩ (.slice ao9 1 cap9)).setCell ⟨w.heap.size + 1, 2, none⟩ (.slice none 0 0)) = wf at *
          obtain ⟨q0, q1, q2, q3⟩ := HE.out
          refine bodyPost_ret (v := .agg #[.int .i64 400, .slice ao9 1 cap9, .slice none 0 0]) (by simp [results, Tryz.results11, go_sem, q0, q1, q2]) rfl ?_
          rw [HD.out]
          exact q3
        · have tn0 : decide (n ≥ 0) = false := decide_eq_false hn0
          rw [if_neg (by
            rintro (e | e | e)
            · cases e
            · exact e.2 (H1e.out.2 rfl)
            · exact hn0 (e.2 rfl))] at HD
          have HOm := Hid.mk' (HOn.out Tu.nUM (by decide) _ HW5.out)
          have hzm := HVz.out Tu.nUM
          unfold Tu.nUM at HOm
          go_wp2_with fail
          refine HOm.out.mono ?_
          rintro e w6 ⟨rfl, hbm⟩
          rw [show (⟨#[117, 112, 108, 111, 97, 100, 45, 109, 101, 116, 97, 100, 97, 116, 97]⟩ : ByteArray) = Tu.nUM from rfl]
          unfold txVal
          have H6 := Hid.mk' (H5.out.stay L hbm); have HW6 := Hid.mk' (then_ HW5.out hbm)
          clear hbm HOm x0 x1 x2 x3 x4
          obtain ⟨x0, x1, x2, x3, x4⟩ := HC.out _ _ _ H6.out
          generalize Tu.one (Tu.vals Tu.nUM l) = rm at *
          obtain ⟨vm, cm⟩ := rm
          simp only at hzm HD ⊢
          by_cases hm9 : cm = 9
          · subst hm9
            rw [if_pos rfl] at HD
            generalize (⟨vm.toArray⟩ : ByteArray) = mb at *
            go_wp2_with fail
            refine (said_none_any 400 _).mono ?_
            rintro e w9 ⟨ao9, cap9, rfl, hO9, hB9⟩
            obtain ⟨⟨z0, z1, z2, y0, y1, y2⟩, HE⟩ := H6.out.ends L (i := 1) rfl (b := w.heap.size + 1) (by first | rfl | omega) (st := 400) (sti := 400) rfl rfl (Nat.le_trans (Nat.le_add_right _ _) H6.out.sz) hO9 hB9
            clear hO9 hB9
            go_wp2
            generalize (((w9.setCell ⟨w.heap.size + 1, 0, none⟩ (.int .i64 400)).setCell ⟨w.heap.size + 1, 1, none⟩ (.slice ao9 1 cap9)).setCell ⟨w.heap.size + 1, 2, none⟩ (.slice none 0 0)) = wf at *
            obtain ⟨q0, q1, q2, q3⟩ := HE.out
            refine bodyPost_ret (v := .agg #[.int .i64 400, .slice ao9 1 cap9, .slice none 0 0]) (by simp [results, Tryz.results11, go_sem, q0, q1, q2]) rfl ?_
            rw [HD.out]
            exact q3
          · rw [if_neg hm9] at HD
            have tm9 : ((cm : Int) == 9) = false := by rw [beq_eq_false_iff_ne]; omega
            have HCr := Hid.mk' (createSh_any H6.out.sh HOk.out n (Sr.ofL vm) (by rw [Sr.ofL_size]; omega))
            rw [show (⟨vm.toArray⟩ : ByteArray) = Sr.ofL vm from rfl]
            generalize Sr.ofL vm = mb at *
            clear hm9 hzm
            have HSm : Hid ((Sr.create s n mb).2 ≠ 0 → (Sr.create s n mb).1 = s) := fun e => by unfold Sr.create at e ⊢; exact Tu.write_same e
            go_wp2_with fail
            refine HCr.out.mono ?_
            rintro e w7 ⟨rfl, hat, hT⟩
            have H7 := Hid.mk' (H6.out.did hat hT)
            clear hat hT HCr H6 HW6 x0 x1 x2 x3 x4
            generalize Sr.create s n mb = ra at *
            obtain ⟨sa, ca⟩ := ra
            simp only at HD HSm H7 ⊢
            by_cases hca : ca = 0
            · subst hca
              rw [if_neg (by simp)] at HD
              have hlast0 := HOk.out.h.last0
              have hlast1 := HOk.out.last_
              have hnum : Sr.numb s 0 = s.h.last + 1 := by unfold Sr.numb; rw [if_pos rfl]
              rw [hnum]
              clear hnum
              have HSy := Hid.mk' (syncSh_any H7.out.sh)
              have HNm := Hid.mk' (fun W => numI_any (s.h.last + 1) (by omega) (by omega) W)
              have hdz : (Tu.dec (s.h.last + 1).toNat).size ≤ 9 := by
                show (Ch.decF 8 _).toArray.size ≤ 9
                rw [List.size_toArray]; have := Ch.decF_length 8 (s.h.last + 1).toNat; omega
              generalize Tu.dec (s.h.last + 1).toNat = db at *
              generalize s.h.last + 1 = lid at *
              go_wp2_with fail
              refine HSy.out.mono ?_
              rintro e w8 ⟨rfl, hat8, hT8⟩
              have H8 := Hid.mk' (H7.out.turned hat8 hT8)
              clear hat8 hT8 HSy H7
              go_wp2_with fail
              refine (HNm.out _).mono ?_
              rintro e wn ⟨rfl, qn, hw⟩
              have Hn := Hid.mk' (H8.out.stay L (W' := wn) (by rw [hw]; exact below_drewN (Below.refl _ _) qn))
              clear hw HNm
              have HSd := Hid.mk' (said_one_any 201 Tu.fLo (Tu.bFilesS ++ db) (some ⟨wn.heap.size, 0, none⟩) _ (IsV.made wn #[.string Tu.fLo, .string (Tu.bFilesS ++ db)] 2 9 (0, 0)))
              have Hna := Hid.mk' (Hn.out.stay L ((Below.refl _ wn).alloc (Nat.le_refl _) (.cells #[.string Tu.fLo, .string (Tu.bFilesS ++ db)] 9)))
              unfold Tu.fLo Tu.bFilesS at HSd Hna
              go_wp2_with fail
              refine HSd.out.mono ?_
              rintro e w9 ⟨ao9, cap9, rfl, hO9, hB9⟩
              obtain ⟨⟨z0, z1, z2, y0, y1, y2⟩, HE⟩ := Hna.out.ends L (i := 1) rfl (b := w.heap.size + 1) (by first | rfl | omega) (st := 201) (sti := 201) rfl rfl (Nat.le_trans (Nat.le_add_right _ _) Hna.out.sz) hO9 hB9
              clear hO9 hB9
              go_wp2
              generalize (((w9.setCell ⟨w.heap.size + 1, 0, none⟩ (.int .i64 201)).setCell ⟨w.heap.size + 1, 1, none⟩ (.slice ao9 2 cap9)).setCell ⟨w.heap.size + 1, 2, none⟩ (.slice none 0 0)) = wf at *
              obtain ⟨q0, q1, q2, q3⟩ := HE.out
              refine bodyPost_ret (v := .agg #[.int .i64 201, .slice ao9 2 cap9, .slice none 0 0]) (by simp [results, Tryz.results11, go_sem, q0, q1, q2]) rfl ?_
              rw [HD.out]
              exact q3
            · rw [if_pos hca] at HD
              have hsa := HSm.out hca
              subst hsa
              have tca : ((ca : Int) != 0) = true := by rw [bne_iff_ne]; omega
              go_wp2_with fail
              refine (statusOf_any ca _).mono ?_
              rintro e w8 ⟨rfl, hw⟩
              subst hw
              go_wp2_with fail
              refine (said_none_any ((Tu.status ca : Nat) : Int) _).mono ?_
              rintro e w9 ⟨ao9, cap9, rfl, hO9, hB9⟩
              obtain ⟨⟨z0, z1, z2, y0, y1, y2⟩, HE⟩ := H7.out.ends L (i := 1) rfl (b := w.heap.size + 1) (by first | rfl | omega) (st := Tu.status ca) (sti := ((Tu.status ca : Nat) : Int)) rfl rfl (Nat.le_trans (Nat.le_add_right _ _) H7.out.sz) hO9 hB9
              clear hO9 hB9
              go_wp2
              generalize (((w9.setCell ⟨w.heap.size + 1, 0, none⟩ (.int .i64 ((Tu.status ca : Nat) : Int))).setCell ⟨w.heap.size + 1, 1, none⟩ (.slice ao9 1 cap9)).setCell ⟨w.heap.size + 1, 2, none⟩ (.slice none 0 0)) = wf at *
              obtain ⟨q0, q1, q2, q3⟩ := HE.out
              refine bodyPost_ret (v := .agg #[.int .i64 ((Tu.status ca : Nat) : Int), .slice ao9 1 cap9, .slice none 0 0]) (by simp [results, Tryz.results11, go_sem, q0, q1, q2]) rfl ?_
              rw [HD.out]
              exact q3
      · have td0 : ((cd : Int) == 0) = false := by rw [beq_eq_false_iff_ne]; omega
        by_cases hn0 : 0 ≤ n
        · have tn0 : decide (n ≥ 0) = true := decide_eq_true hn0
          rw [if_neg (by
            rintro (e | e | e)
            · exact hd9 e
            · exact hd0 e.1
            · exact hd0 (e.1 hn0))] at HD
          have HOm := Hid.mk' (HOn.out Tu.nUM (by decide) _ HW5.out)
          have hzm := HVz.out Tu.nUM
          unfold Tu.nUM at HOm
          go_wp2_with fail
          refine HOm.out.mono ?_
          rintro e w6 ⟨rfl, hbm⟩
          rw [show (⟨#[117, 112, 108, 111, 97, 100, 45, 109, 101, 116, 97, 100, 97, 116, 97]⟩ : ByteArray) = Tu.nUM from rfl]
          unfold txVal
          have H6 := Hid.mk' (H5.out.stay L hbm); have HW6 := Hid.mk' (then_ HW5.out hbm)
          clear hbm HOm x0 x1 x2 x3 x4
          obtain ⟨x0, x1, x2, x3, x4⟩ := HC.out _ _ _ H6.out
          generalize Tu.one (Tu.vals Tu.nUM l) = rm at *
          obtain ⟨vm, cm⟩ := rm
          simp only at hzm HD ⊢
          by_cases hm9 : cm = 9
          · subst hm9
            rw [if_pos rfl] at HD
            generalize (⟨vm.toArray⟩ : ByteArray) = mb at *
            go_wp2_with fail
            refine (said_none_any 400 _).mono ?_
            rintro e w9 ⟨ao9, cap9, rfl, hO9, hB9⟩
            obtain ⟨⟨z0, z1, z2, y0, y1, y2⟩, HE⟩ := H6.out.ends L (i := 1) rfl (b := w.heap.size + 1) (by first | rfl | omega) (st := 400) (sti := 400) rfl rfl (Nat.le_trans (Nat.le_add_right _ _) H6.out.sz) hO9 hB9
            clear hO9 hB9
            go_wp2
            generalize (((w9.setCell ⟨w.heap.size + 1, 0, none⟩ (.int .i64 400)).setCell ⟨w.heap.size + 1, 1, none⟩ (.slice ao9 1 cap9)).setCell ⟨w.heap.size + 1, 2, none⟩ (.slice none 0 0)) = wf at *
            obtain ⟨q0, q1, q2, q3⟩ := HE.out
            refine bodyPost_ret (v := .agg #[.int .i64 400, .slice ao9 1 cap9, .slice none 0 0]) (by simp [results, Tryz.results11, go_sem, q0, q1, q2]) rfl ?_
            rw [HD.out]
            exact q3
          · rw [if_neg hm9] at HD
            have tm9 : ((cm : Int) == 9) = false := by rw [beq_eq_false_iff_ne]; omega
            have HCr := Hid.mk' (createSh_any H6.out.sh HOk.out n (Sr.ofL vm) (by rw [Sr.ofL_size]; omega))
            rw [show (⟨vm.toArray⟩ : ByteArray) = Sr.ofL vm from rfl]
            generalize Sr.ofL vm = mb at *
            clear hm9 hzm
            have HSm : Hid ((Sr.create s n mb).2 ≠ 0 → (Sr.create s n mb).1 = s) := fun e => by unfold Sr.create at e ⊢; exact Tu.write_same e
            go_wp2_with fail
            refine HCr.out.mono ?_
            rintro e w7 ⟨rfl, hat, hT⟩
            have H7 := Hid.mk' (H6.out.did hat hT)
            clear hat hT HCr H6 HW6 x0 x1 x2 x3 x4
            generalize Sr.create s n mb = ra at *
            obtain ⟨sa, ca⟩ := ra
            simp only at HD HSm H7 ⊢
            by_cases hca : ca = 0
            · subst hca
              rw [if_neg (by simp)] at HD
              have hlast0 := HOk.out.h.last0
              have hlast1 := HOk.out.last_
              have hnum : Sr.numb s 0 = s.h.last + 1 := by unfold Sr.numb; rw [if_pos rfl]
              rw [hnum]
              clear hnum
              have HSy := Hid.mk' (syncSh_any H7.out.sh)
              have HNm := Hid.mk' (fun W => numI_any (s.h.last + 1) (by omega) (by omega) W)
              have hdz : (Tu.dec (s.h.last + 1).toNat).size ≤ 9 := by
                show (Ch.decF 8 _).toArray.size ≤ 9
                rw [List.size_toArray]; have := Ch.decF_length 8 (s.h.last + 1).toNat; omega
              generalize Tu.dec (s.h.last + 1).toNat = db at *
              generalize s.h.last + 1 = lid at *
              go_wp2_with fail
              refine HSy.out.mono ?_
              rintro e w8 ⟨rfl, hat8, hT8⟩
              have H8 := Hid.mk' (H7.out.turned hat8 hT8)
              clear hat8 hT8 HSy H7
              go_wp2_with fail
              refine (HNm.out _).mono ?_
              rintro e wn ⟨rfl, qn, hw⟩
              have Hn := Hid.mk' (H8.out.stay L (W' := wn) (by rw [hw]; exact below_drewN (Below.refl _ _) qn))
              clear hw HNm
              have HSd := Hid.mk' (said_one_any 201 Tu.fLo (Tu.bFilesS ++ db) (some ⟨wn.heap.size, 0, none⟩) _ (IsV.made wn #[.string Tu.fLo, .string (Tu.bFilesS ++ db)] 2 9 (0, 0)))
              have Hna := Hid.mk' (Hn.out.stay L ((Below.refl _ wn).alloc (Nat.le_refl _) (.cells #[.string Tu.fLo, .string (Tu.bFilesS ++ db)] 9)))
              unfold Tu.fLo Tu.bFilesS at HSd Hna
              go_wp2_with fail
              refine HSd.out.mono ?_
              rintro e w9 ⟨ao9, cap9, rfl, hO9, hB9⟩
              obtain ⟨⟨z0, z1, z2, y0, y1, y2⟩, HE⟩ := Hna.out.ends L (i := 1) rfl (b := w.heap.size + 1) (by first | rfl | omega) (st := 201) (sti := 201) rfl rfl (Nat.le_trans (Nat.le_add_right _ _) Hna.out.sz) hO9 hB9
              clear hO9 hB9
              go_wp2
              generalize (((w9.setCell ⟨w.heap.size + 1, 0, none⟩ (.int .i64 201)).setCell ⟨w.heap.size + 1, 1, none⟩ (.slice ao9 2 cap9)).setCell ⟨w.heap.size + 1, 2, none⟩ (.slice none 0 0)) = wf at *
              obtain ⟨q0, q1, q2, q3⟩ := HE.out
              refine bodyPost_ret (v := .agg #[.int .i64 201, .slice ao9 2 cap9, .slice none 0 0]) (by simp [results, Tryz.results11, go_sem, q0, q1, q2]) rfl ?_
              rw [HD.out]
              exact q3
            · rw [if_pos hca] at HD
              have hsa := HSm.out hca
              subst hsa
              have tca : ((ca : Int) != 0) = true := by rw [bne_iff_ne]; omega
              go_wp2_with fail
              refine (statusOf_any ca _).mono ?_
              rintro e w8 ⟨rfl, hw⟩
              subst hw
              go_wp2_with fail
              refine (said_none_any ((Tu.status ca : Nat) : Int) _).mono ?_
              rintro e w9 ⟨ao9, cap9, rfl, hO9, hB9⟩
              obtain ⟨⟨z0, z1, z2, y0, y1, y2⟩, HE⟩ := H7.out.ends L (i := 1) rfl (b := w.heap.size + 1) (by first | rfl | omega) (st := Tu.status ca) (sti := ((Tu.status ca : Nat) : Int)) rfl rfl (Nat.le_trans (Nat.le_add_right _ _) H7.out.sz) hO9 hB9
              clear hO9 hB9
              go_wp2
              generalize (((w9.setCell ⟨w.heap.size + 1, 0, none⟩ (.int .i64 ((Tu.status ca : Nat) : Int))).setCell ⟨w.heap.size + 1, 1, none⟩ (.slice ao9 1 cap9)).setCell ⟨w.heap.size + 1, 2, none⟩ (.slice none 0 0)) = wf at *
              obtain ⟨q0, q1, q2, q3⟩ := HE.out
              refine bodyPost_ret (v := .agg #[.int .i64 ((Tu.status ca : Nat) : Int), .slice ao9 1 cap9, .slice none 0 0]) (by simp [results, Tryz.results11, go_sem, q0, q1, q2]) rfl ?_
              rw [HD.out]
              exact q3
        · have tn0 : decide (n ≥ 0) = false := decide_eq_false hn0
          rw [if_pos (Or.inr (Or.inr ⟨fun e => absurd e hn0, fun e => absurd e hd0⟩))] at HD
          go_wp2_with fail
          refine (said_none_any 400 _).mono ?_
          rintro e w9 ⟨ao9, cap9, rfl, hO9, hB9⟩
          obtain ⟨⟨z0, z1, z2, y0, y1, y2⟩, HE⟩ := H5.out.ends L (i := 1) rfl (b := w.heap.size + 1) (by first | rfl | omega) (st := 400) (sti := 400) rfl rfl (Nat.le_trans (Nat.le_add_right _ _) H5.out.sz) hO9 hB9
          clear hO9 hB9
          go_wp2
          generalize (((w9.setCell ⟨w.heap.size + 1, 0, none⟩ (.int .i64 400)).setCell ⟨w.heap.size + 1, 1, none⟩ (.slice ao9 1 cap9)).setCell ⟨w.heap.size + 1, 2, none⟩ (.slice none 0 0)) = wf at *
          obtain ⟨q0, q1, q2, q3⟩ := HE.out
          refine bodyPost_ret (v := .agg #[.int .i64 400, .slice ao9 1 cap9, .slice none 0 0]) (by simp [results, Tryz.results11, go_sem, q0, q1, q2]) rfl ?_
          rw [HD.out]
          exact q3
  | false =>
    have HF : Hid (¬ t = Tu.bFiles) := fun e => by have := eF.1 e; cases this
    rw [if_neg (fun e => HF.out e.1)] at HD
    have HOr := Hid.mk' (HOn.out Tu.nTR (by decide) _ HW2.out)
    have hzr := HVz.out Tu.nTR
    unfold Tu.nTR at HOr
    go_wp2_with fail
    refine HOr.out.mono ?_
    rintro e w3 ⟨rfl, hbr⟩
    rw [show (⟨#[116, 117, 115, 45, 114, 101, 115, 117, 109, 97, 98, 108, 101]⟩ : ByteArray) = Tu.nTR from rfl]
    unfold txVal
    have H3 := Hid.mk' (H2.out.stay L hbr); have HW3 := Hid.mk' (then_ HW2.out hbr)
    clear hbr HOr x0 x1 x2 x3 x4
    obtain ⟨x0, x1, x2, x3, x4⟩ := HC.out _ _ _ H3.out
    generalize Tu.one (Tu.vals Tu.nTR l) = rr at *
    obtain ⟨vr, cr⟩ := rr
    simp only at hzr HD ⊢
    by_cases hr9 : cr = 9
    · subst hr9
      rw [if_pos rfl] at HD
      generalize (⟨vr.toArray⟩ : ByteArray) = vb at *
      go_wp2_with fail
      refine (said_none_any 400 _).mono ?_
      rintro e w9 ⟨ao9, cap9, rfl, hO9, hB9⟩
      obtain ⟨⟨z0, z1, z2, y0, y1, y2⟩, HE⟩ := H3.out.ends L (i := 1) rfl (b := w.heap.size + 1) (by first | rfl | omega) (st := 400) (sti := 400) rfl rfl (Nat.le_trans (Nat.le_add_right _ _) H3.out.sz) hO9 hB9
      clear hO9 hB9
      go_wp2
      generalize (((w9.setCell ⟨w.heap.size + 1, 0, none⟩ (.int .i64 400)).setCell ⟨w.heap.size + 1, 1, none⟩ (.slice ao9 1 cap9)).setCell ⟨w.heap.size + 1, 2, none⟩ (.slice none 0 0)) = wf at *
      obtain ⟨q0, q1, q2, q3⟩ := HE.out
      refine bodyPost_ret (v := .agg #[.int .i64 400, .slice ao9 1 cap9, .slice none 0 0]) (by simp [results, Tryz.results11, go_sem, q0, q1, q2]) rfl ?_
      rw [HD.out]
      exact q3
    rw [if_neg hr9] at HD
    have tr9 : ((cr : Int) == 9) = false := by rw [beq_eq_false_iff_ne]; omega
    obtain ⟨bv, hbv⟩ : ∃ b, ((⟨vr.toArray⟩ : ByteArray).toList == ([49, 46, 48, 46, 48] : List UInt8)) = b := ⟨_, rfl⟩
    have eV : vr = Tu.v100.data.toList ↔ bv = true := by rw [← hbv]; exact Tu.eqV vr _
    generalize (⟨vr.toArray⟩ : ByteArray) = vb at *
    cases bv with
    | false =>
      rw [if_pos (fun e => by have := eV.1 e; cases this)] at HD
      have HSd := Hid.mk' (said_one_any 412 Tu.fTV Tu.v100 (some ⟨w3.heap.size, 0, none⟩) _ (IsV.made w3 #[.string Tu.fTV, .string Tu.v100] 2 9 (0, 0)))
      have H3a := Hid.mk' (H3.out.stay L ((Below.refl _ w3).alloc (Nat.le_refl _) (.cells #[.string Tu.fTV, .string Tu.v100] 9)))
      unfold Tu.fTV Tu.v100 at HSd H3a
      go_wp2_with fail
      refine HSd.out.mono ?_
      rintro e w9 ⟨ao9, cap9, rfl, hO9, hB9⟩
      obtain ⟨⟨z0, z1, z2, y0, y1, y2⟩, HE⟩ := H3a.out.ends L (i := 1) rfl (b := w.heap.size + 1) (by first | rfl | omega) (st := 412) (sti := 412) rfl rfl (Nat.le_trans (Nat.le_add_right _ _) H3a.out.sz) hO9 hB9
      clear hO9 hB9
      go_wp2
      generalize (((w9.setCell ⟨w.heap.size + 1, 0, none⟩ (.int .i64 412)).setCell ⟨w.heap.size + 1, 1, none⟩ (.slice ao9 2 cap9)).setCell ⟨w.heap.size + 1, 2, none⟩ (.slice none 0 0)) = wf at *
      obtain ⟨q0, q1, q2, q3⟩ := HE.out
      refine bodyPost_ret (v := .agg #[.int .i64 412, .slice ao9 2 cap9, .slice none 0 0]) (by simp [results, Tryz.results11, go_sem, q0, q1, q2]) rfl ?_
      rw [HD.out]
      exact q3
    | true =>
    rw [if_neg (fun e => e (eV.2 rfl))] at HD
    rw [if_neg HF.out] at HD
    by_cases h7 : 7 < t.size
    · have t7 : decide ((t.size : Int) > 7) = true := decide_eq_true (by omega)
      have h7a : (7 : Int) ≤ (t.size : Int) := by omega
      have h7b : 7 ≤ t.size := by omega
      obtain ⟨bq, hbq⟩ : ∃ b, ((t.extract 0 7).toList == ([47, 102, 105, 108, 101, 115, 47] : List UInt8)) = b := ⟨_, rfl⟩
      have eQ : t.data.toList.take 7 = Tu.bFilesS.data.toList ↔ bq = true := by rw [← hbq, Tu.pre7, beq_iff_eq]; rfl
      cases bq with
      | false =>
        rw [Tu.numT_no (fun e => by have := eQ.1 e.2.1; cases this)] at HD
        simp only at HD
        go_wp2_with fail
        refine (said_none_any 404 _).mono ?_
        rintro e w9 ⟨ao9, cap9, rfl, hO9, hB9⟩
        obtain ⟨⟨z0, z1, z2, y0, y1, y2⟩, HE⟩ := H3.out.ends L (i := 1) rfl (b := w.heap.size + 1) (by first | rfl | omega) (st := 404) (sti := 404) rfl rfl (Nat.le_trans (Nat.le_add_right _ _) H3.out.sz) hO9 hB9
        clear hO9 hB9
        go_wp2
        generalize (((w9.setCell ⟨w.heap.size + 1, 0, none⟩ (.int .i64 404)).setCell ⟨w.heap.size + 1, 1, none⟩ (.slice ao9 1 cap9)).setCell ⟨w.heap.size + 1, 2, none⟩ (.slice none 0 0)) = wf at *
        obtain ⟨q0, q1, q2, q3⟩ := HE.out
        refine bodyPost_ret (v := .agg #[.int .i64 404, .slice ao9 1 cap9, .slice none 0 0]) (by simp [results, Tryz.results11, go_sem, q0, q1, q2]) rfl ?_
        rw [HD.out]
        exact q3
      | true =>
      have HQ := Hid.mk' (eQ.2 rfl)
      have HNo := Hid.mk' (fun W => numberOf_any (t.extract 7 t.size) W (by unfold maxLen; rw [ByteArray.size_extract]; omega))
      rw [Tu.from7] at HNo
      go_wp2_with fail
      refine (HNo.out _).mono ?_
      rintro e w4 ⟨rfl, hb4⟩
      have H4 := Hid.mk' (H3.out.stay L hb4); have HW4 := Hid.mk' (then_ HW3.out hb4)
      clear hb4 HNo H3 HW3 x0 x1 x2 x3 x4
      obtain ⟨x0, x1, x2, x3, x4⟩ := HC.out _ _ _ H4.out
      have hsm : (Ch.number 10 9 (t.data.toList.drop 7)).2 = true → 0 ≤ (Ch.number 10 9 (t.data.toList.drop 7)).1 ∧ (Ch.number 10 9 (t.data.toList.drop 7)).1 < 1000000000 := Ch.number_small
      have hno : ((Ch.number 10 9 (t.data.toList.drop 7)).2 = false ∨ Ch.decF 8 (Ch.number 10 9 (t.data.toList.drop 7)).1.toNat ≠ t.data.toList.drop 7) → Tu.upAt s.h t = none := fun e => Tu.numT_no (fun x => e.elim (fun e => by have h3 := x.2.2.1; rw [e] at h3; cases h3) (fun e => e x.2.2.2)) s.h
      have hye := fun (e : (Ch.number 10 9 (t.data.toList.drop 7)).2 = true) (e2 : Ch.decF 8 (Ch.number 10 9 (t.data.toList.drop 7)).1.toNat = t.data.toList.drop 7) => Tu.numT_yes (t := t) ⟨h7, HQ.out, e, e2⟩ s.h
      generalize Ch.number 10 9 (t.data.toList.drop 7) = rn at *
      obtain ⟨n, okn⟩ := rn
      simp only at hsm hno hye ⊢
      cases okn with
      | false =>
        rw [hno (Or.inl rfl)] at HD
        simp only at HD
        clear hno hye hsm
        go_wp2
        go_quiet (fail)
        have H4q := Hid.mk' (H4.out.stay L (below_drewN (Below.refl _ _) nq)); have HW4q := Hid.mk' (then_ HW4.out (below_drewN (Below.refl _ _) nq))
        go_wp2_with fail
        refine (said_none_any 404 _).mono ?_
        rintro e w9 ⟨ao9, cap9, rfl, hO9, hB9⟩
        obtain ⟨⟨z0, z1, z2, y0, y1, y2⟩, HE⟩ := H4q.out.ends L (i := 1) rfl (b := w.heap.size + 1) (by first | rfl | omega) (st := 404) (sti := 404) rfl rfl (Nat.le_trans (Nat.le_add_right _ _) H4q.out.sz) hO9 hB9
        clear hO9 hB9
        go_wp2
        generalize (((w9.setCell ⟨w.heap.size + 1, 0, none⟩ (.int .i64 404)).setCell ⟨w.heap.size + 1, 1, none⟩ (.slice ao9 1 cap9)).setCell ⟨w.heap.size + 1, 2, none⟩ (.slice none 0 0)) = wf at *
        obtain ⟨q0, q1, q2, q3⟩ := HE.out
        refine bodyPost_ret (v := .agg #[.int .i64 404, .slice ao9 1 cap9, .slice none 0 0]) (by simp [results, Tryz.results11, go_sem, q0, q1, q2]) rfl ?_
        rw [HD.out]
        exact q3
      | true =>
      obtain ⟨hn0, hn1⟩ := hsm rfl
      have HNm := Hid.mk' (fun W => numI_any n hn0 hn1 W)
      obtain ⟨bs, hbs⟩ : ∃ b, ((Tu.dec n.toNat).toList == (t.extract 7 t.size).toList) = b := ⟨_, rfl⟩
      have eS : Ch.decF 8 n.toNat = t.data.toList.drop 7 ↔ bs = true := by
        rw [← hbs, Lib.toList_data, Lib.toList_data, Tu.from7, beq_iff_eq]; rfl
      generalize Tu.dec n.toNat = nb at *
      cases bs with
      | false =>
        rw [hno (Or.inr (fun e => by have := eS.1 e; cases this))] at HD
        simp only at HD
        clear hno hye hsm
        go_wp2
        go_quiet ((go_at_call 21; exact Calls.quiet_of (HNm.out _)))
        have H4q := Hid.mk' (H4.out.stay L (below_drewN (Below.refl _ _) nq)); have HW4q := Hid.mk' (then_ HW4.out (below_drewN (Below.refl _ _) nq))
        go_wp2_with fail
        refine (said_none_any 404 _).mono ?_
        rintro e w9 ⟨ao9, cap9, rfl, hO9, hB9⟩
        obtain ⟨⟨z0, z1, z2, y0, y1, y2⟩, HE⟩ := H4q.out.ends L (i := 1) rfl (b := w.heap.size + 1) (by first | rfl | omega) (st := 404) (sti := 404) rfl rfl (Nat.le_trans (Nat.le_add_right _ _) H4q.out.sz) hO9 hB9
        clear hO9 hB9
        go_wp2
        generalize (((w9.setCell ⟨w.heap.size + 1, 0, none⟩ (.int .i64 404)).setCell ⟨w.heap.size + 1, 1, none⟩ (.slice ao9 1 cap9)).setCell ⟨w.heap.size + 1, 2, none⟩ (.slice none 0 0)) = wf at *
        obtain ⟨q0, q1, q2, q3⟩ := HE.out
        refine bodyPost_ret (v := .agg #[.int .i64 404, .slice ao9 1 cap9, .slice none 0 0]) (by simp [results, Tryz.results11, go_sem, q0, q1, q2]) rfl ?_
        rw [HD.out]
        exact q3
      | true =>
        rw [hye rfl (eS.2 rfl)] at HD
        clear hno hye hsm
        obtain ⟨gh, P, hcg, hHo⟩ := H4.out.sh.open_
        have HAt : Hid (∀ q, Calls Tryz.prog 34 #[.pointer (some ⟨gh, 0, none⟩), .int .i64 n] (w4.drewN q) fun e w' => e = .returned (.int .i64 (Sp.pl s.h.l n)) ∧ w' = w4.drewN q) := fun q => atH_any s.h P gh n _ (hHo.stay (below_drewN (Below.refl _ _) q)) (by have := HOk.out.h.few; omega)
        cases hp : Sp.place s.h.l n with
        | none =>
          rw [hp] at HD
          simp only at HD
          rw [Sp.pl_none hp] at HAt
          clear hp hHo
          go_wp2
          go_quiet ((go_at_call 21; exact Calls.quiet_of (HNm.out _)))
          have H4q := Hid.mk' (H4.out.stay L (below_drewN (Below.refl _ _) nq)); have HW4q := Hid.mk' (then_ HW4.out (below_drewN (Below.refl _ _) nq))
          go_wp2_with fail
          refine (HAt.out _).mono ?_
          rintro e w5 ⟨rfl, hw⟩
          subst hw
          go_wp2_with fail
          refine (said_none_any 404 _).mono ?_
          rintro e w9 ⟨ao9, cap9, rfl, hO9, hB9⟩
          obtain ⟨⟨z0, z1, z2, y0, y1, y2⟩, HE⟩ := H4q.out.ends L (i := 1) rfl (b := w.heap.size + 1) (by first | rfl | omega) (st := 404) (sti := 404) rfl rfl (Nat.le_trans (Nat.le_add_right _ _) H4q.out.sz) hO9 hB9
          clear hO9 hB9
          go_wp2
          generalize (((w9.setCell ⟨w.heap.size + 1, 0, none⟩ (.int .i64 404)).setCell ⟨w.heap.size + 1, 1, none⟩ (.slice ao9 1 cap9)).setCell ⟨w.heap.size + 1, 2, none⟩ (.slice none 0 0)) = wf at *
          obtain ⟨q0, q1, q2, q3⟩ := HE.out
          refine bodyPost_ret (v := .agg #[.int .i64 404, .slice ao9 1 cap9, .slice none 0 0]) (by simp [results, Tryz.results11, go_sem, q0, q1, q2]) rfl ?_
          rw [HD.out]
          exact q3
        | some i =>
          rw [hp] at HD
          simp only at HD
          rw [Sp.pl_some hp] at HAt
          have hi := Sp.place_lt hp
          rw [List.getElem?_eq_getElem hi] at HD
          simp only at HD
          obtain ⟨gu, hgu⟩ := RowAt.of hHo hi
          obtain ⟨q, u0, u1, u2, u3, u4, _, _⟩ := RowAt.up hHo hgu hi
          obtain ⟨ucap, hucap, huc⟩ := hgu
          have hi' : (i : Int) < s.h.l.length := by omega
          have hui := HOk.out.h.all _ (List.getElem_mem hi)
          have hul := hui.long; have hus0 := hui.size0; have hus1 := hui.size1
          clear hp hHo hui
          generalize s.h.l[i] = u at *
          go_wp2
          go_quiet ((go_at_call 21; exact Calls.quiet_of (HNm.out _)))
          have H4q := Hid.mk' (H4.out.stay L (below_drewN (Below.refl _ _) nq)); have HW4q := Hid.mk' (then_ HW4.out (below_drewN (Below.refl _ _) nq))
          go_wp2_with fail
          refine (HAt.out _).mono ?_
          rintro e w5 ⟨rfl, hw⟩
          subst hw
          unfold Tu.ask at HD
          have hcg' : (w4.drewN nq).cell? ⟨g, 0, none⟩ = some (.pointer (some ⟨gh, 0, none⟩)) := by rw [World.cell?_drewN]; exact hcg
          have huc' : (w4.drewN nq).cell? ⟨gh, 0, none⟩ = some (.slice (some ⟨gu, 0, none⟩) s.h.l.length ucap) := by rw [World.cell?_drewN]; exact huc
          have u0' : (w4.drewN nq).cell? ⟨gu, i * 5, none⟩ = some (.int .i64 u.id) := by rw [World.cell?_drewN]; exact u0
          have u1' : (w4.drewN nq).cell? ⟨gu, i * 5 + 1, none⟩ = some (.int .i64 u.size) := by rw [World.cell?_drewN]; exact u1
          have u2' : (w4.drewN nq).cell? ⟨gu, i * 5 + 2, none⟩ = some (.string u.note) := by rw [World.cell?_drewN]; exact u2
          have u3' : (w4.drewN nq).cell? ⟨gu, i * 5 + 3, none⟩ = some (.slice q.bo u.bytes.length q.bcap) := by rw [World.cell?_drewN]; exact u3
          have u4' : (w4.drewN nq).cell? ⟨gu, i * 5 + 4, none⟩ = some (.int .i64 u.sent) := by rw [World.cell?_drewN]; exact u4
          clear HAt x0 x1 x2 x3 x4 hcg huc u0 u1 u2 u3 u4 H4 HW4 HNm
          obtain ⟨x0, x1, x2, x3, x4⟩ := HC.out _ _ _ H4q.out
          generalize w4.drewN nq = w5 at *
          have hb6 : Below w5.heap.size w5 (w5.alloc (.cells #[.int .i64 u.id, .int .i64 u.size, .string u.note, .slice q.bo u.bytes.length q.bcap, .int .i64 u.sent] 67)) := (Below.refl _ _).alloc (Nat.le_refl _) _
          have H6 := Hid.mk' (H4q.out.stay L hb6); have HW6 := Hid.mk' (then_ HW4q.out hb6)
          clear hb6
          have k0 : (w5.alloc (.cells #[.int .i64 u.id, .int .i64 u.size, .string u.note, .slice q.bo u.bytes.length q.bcap, .int .i64 u.sent] 67)).cell? ⟨w5.heap.size, 0, none⟩ = some (.int .i64 u.id) := World.cell?_alloc_mark w5 _ _ _ 0
          have k1 : (w5.alloc (.cells #[.int .i64 u.id, .int .i64 u.size, .string u.note, .slice q.bo u.bytes.length q.bcap, .int .i64 u.sent] 67)).cell? ⟨w5.heap.size, 1, none⟩ = some (.int .i64 u.size) := World.cell?_alloc_mark w5 _ _ _ 1
          have k2 : (w5.alloc (.cells #[.int .i64 u.id, .int .i64 u.size, .string u.note, .slice q.bo u.bytes.length q.bcap, .int .i64 u.sent] 67)).cell? ⟨w5.heap.size, 2, none⟩ = some (.string u.note) := World.cell?_alloc_mark w5 _ _ _ 2
          have k3 : (w5.alloc (.cells #[.int .i64 u.id, .int .i64 u.size, .string u.note, .slice q.bo u.bytes.length q.bcap, .int .i64 u.sent] 67)).cell? ⟨w5.heap.size, 3, none⟩ = some (.slice q.bo u.bytes.length q.bcap) := World.cell?_alloc_mark w5 _ _ _ 3
          have k4 : (w5.alloc (.cells #[.int .i64 u.id, .int .i64 u.size, .string u.note, .slice q.bo u.bytes.length q.bcap, .int .i64 u.sent] 67)).cell? ⟨w5.heap.size, 4, none⟩ = some (.int .i64 u.sent) := World.cell?_alloc_mark w5 _ _ _ 4
          obtain ⟨j0, j1, j2, j3, j4⟩ := HC.out _ _ _ H6.out
          obtain ⟨bh, hbh⟩ : ∃ b, (m.toList == ([72, 69, 65, 68] : List UInt8)) = b := ⟨_, rfl⟩
          have eH : m = Tu.mHead ↔ bh = true := by rw [← hbh]; exact Tu.eqL m Tu.mHead _ rfl
          cases bh with
          | true =>
            rw [if_pos (eH.2 rfl)] at HD
            unfold Tu.head at HD
            go_upto_region 35 with fail
            have hgu : w.heap.size + 2 ≤ w5.heap.size := H4q.out.sz
            clear x0 x1 x2 x3 x4 u0' u1' u2' u3' u4' hcg' huc' H4q HW4q j0 j1 j2 j3 j4 HW6 k0 k4
            have hb6 : w5.heap.size < (w5.alloc (.cells #[.int .i64 u.id, .int .i64 u.size, .string u.note, .slice q.bo u.bytes.length q.bcap, .int .i64 u.sent] 67)).heap.size := by rw [World.size_alloc]; omega
            generalize (w5.alloc (.cells #[.int .i64 u.id, .int .i64 u.size, .string u.note, .slice q.bo u.bytes.length q.bcap, .int .i64 u.sent] 67)) = w6 at *
            generalize w5.heap.size = ub at *
            have HNl : Hid (∀ W, Calls Tryz.prog 21 #[.int .i64 (u.bytes.length : Int)] W fun e w' => e = .returned (.string (Tu.dec u.bytes.length)) ∧ Below W.heap.size W w') := fun W => (num_f 8 u.bytes.length W (by omega) (by omega) (by omega)).mono fun e w' ⟨h1, m, h2⟩ => ⟨h1, by rw [h2]; exact below_drewN (Below.refl _ _) m⟩
            have HNz : Hid (∀ W, Calls Tryz.prog 21 #[.int .i64 u.size] W fun e w' => ∃ tz : ByteArray, e = .returned (.string tz) ∧ (0 ≤ u.size → tz = Tu.dec u.size.toNat) ∧ Below W.heap.size W w') := fun W => by
              by_cases hs0 : 0 ≤ u.size
              · exact (numI_any u.size hs0 (by omega) W).mono fun e w' ⟨h1, m, h2⟩ => ⟨_, h1, fun _ => rfl, by rw [h2]; exact below_drewN (Below.refl _ _) m⟩
              · have e1 : u.size = -1 := by omega
                rw [e1]
                exact (numNeg_any W).mono fun e w' ⟨tx, h1, m, h2⟩ => ⟨tx, h1, fun e => absurd e (by decide), by rw [h2]; exact below_drewN (Below.refl _ _) m⟩
            have HCe : Hid (∀ W, Below w6.heap.size w6 W → W.cell? ⟨ub, 3, none⟩ = some (.slice q.bo u.bytes.length q.bcap) ∧ W.cell? ⟨ub, 1, none⟩ = some (.int .i64 u.size)) := fun W hW => ⟨(hW.cell hb6).trans k3, (hW.cell hb6).trans k1⟩
            have HFi : Hid (∀ (v : World) (cs : Array Value), Below w6.heap.size w6 v → TbAt ShAt S w g [.cells #[.string m, .string t, .int .i64 mi, .slice fo l.length fcap, .int .i64 ln] 35 (0, 0), .cells #[.int .i64 0, .slice none 0 0, .slice none 0 0] 32 (0, 0)] s (fun k => S k ∧ k < w.heap.size) (v.alloc (.cells cs 9)) ∧ (v.alloc (.cells cs 9)).cell? ⟨ub, 1, none⟩ = some (.int .i64 u.size) ∧ (v.alloc (.cells cs 9)).cell? ⟨ub, 2, none⟩ = some (.string u.note) ∧ w.heap.size + 2 ≤ v.heap.size ∧ ub < v.heap.size) := fun v cs hv => by
              have hb := then_ hv ((Below.refl _ v).alloc (Nat.le_refl _) (.cells cs 9))
              have := hv.size
              exact ⟨H6.out.stay L hb, (hb.cell hb6).trans k1, (hb.cell hb6).trans k2, by omega, by omega⟩
            generalize hdl : Tu.dec u.bytes.length = dl at *
            clear hdl
            go_cut [19] (fun v wc => ∃ (gl : Nat) (tz : ByteArray), v = .slice (some ⟨gl, 0, none⟩) 6 6 ∧ wc.heap[gl]? = some (.cells #[.string ⟨#[85, 112, 108, 111, 97, 100, 45, 79, 102, 102, 115, 101, 116]⟩, .string dl, .string ⟨#[85, 112, 108, 111, 97, 100, 45, 76, 101, 110, 103, 116, 104]⟩, .string tz, .string ⟨#[67, 97, 99, 104, 101, 45, 67, 111, 110, 116, 114, 111, 108]⟩, .string ⟨#[110, 111, 45, 115, 116, 111, 114, 101]⟩] 9 (0, 0)) ∧ (0 ≤ u.size → tz = Tu.dec u.size.toNat) ∧ TbAt ShAt S w g [.cells #[.string m, .string t, .int .i64 mi, .slice fo l.length fcap, .int .i64 ln] 35 (0, 0), .cells #[.int .i64 0, .slice none 0 0, .slice none 0 0] 32 (0, 0)] s (fun k => S k ∧ k < w.heap.size) wc ∧ wc.cell? ⟨ub, 1, none⟩ = some (.int .i64 u.size) ∧ wc.cell? ⟨ub, 2, none⟩ = some (.string u.note) ∧ w.heap.size + 2 ≤ gl ∧ ub < gl)
            case first =>
              have HOd : Hid (Below w6.heap.size w6 w6.drew) := below_drew _ _
              go_region_held (fun W => W.cell? ⟨ub, 3, none⟩ = some (.slice q.bo u.bytes.length q.bcap) ∧ W.cell? ⟨ub, 1, none⟩ = some (.int .i64 u.size)) (first | go_keep | exact HCe.out _ HOd.out) (first
                | (go_at_call_of 21 (Value.int .i64 (u.bytes.length : Int)); refine (HNl.out _).mono ?_; rintro e v1 ⟨rfl, hb1⟩; have hOd := then_ HOd.out hb1; clear HOd; have HOd := Hid.mk' hOd; obtain ⟨p3, p1⟩ := HCe.out v1 hOd; clear hOd hb1)
                | (go_at_call_of 21 (Value.int .i64 u.size); refine (HNz.out _).mono ?_; rintro e v1 ⟨tz, rfl, htz, hb1⟩; have HTz := Hid.mk' htz; have hOd := then_ HOd.out hb1; clear HOd; have HOd := Hid.mk' hOd; obtain ⟨p3, p1⟩ := HCe.out v1 hOd; clear hOd hb1 htz))
              all_goals
                (try go_wp2)
                go_meet
                obtain ⟨f1, f2, f3, f4, f5⟩ := HFi.out _ #[.string ⟨#[85, 112, 108, 111, 97, 100, 45, 79, 102, 102, 115, 101, 116]⟩, .string dl, .string ⟨#[85, 112, 108, 111, 97, 100, 45, 76, 101, 110, 103, 116, 104]⟩, .string tz, .string ⟨#[67, 97, 99, 104, 101, 45, 67, 111, 110, 116, 114, 111, 108]⟩, .string ⟨#[110, 111, 45, 115, 116, 111, 114, 101]⟩] HOd.out
                exact ⟨_, tz, rfl, heap_alloc_new _ _, HTz.out, f1, f2, f3, f4, f5⟩
            case rest =>
              obtain ⟨gl, tz, rfl, hrow, htz, hTb, m1, m2, hgl, hug⟩ := hcut
              have HRow := Hid.mk' hrow; have Hc := Hid.mk' hTb; have HTz := Hid.mk' htz; have HGl := Hid.mk' hgl
              clear hTb htz hrow k1 k2 k3 HCe HFi HNl HNz H6
              by_cases hs0 : u.size < 0
              · rw [if_pos hs0] at HD
                have ts : decide (u.size < 0) = true := decide_eq_true hs0
                have g2 : wc.cell? ⟨gl, 2, none⟩ = some (.string ⟨#[85, 112, 108, 111, 97, 100, 45, 76, 101, 110, 103, 116, 104]⟩) := cell_of_row wc gl 2 _ _ _ HRow.out
                have g3 : wc.cell? ⟨gl, 3, none⟩ = some (.string tz) := cell_of_row wc gl 3 _ _ _ HRow.out
                have z2' : wc.frozen? ⟨gl, 2, none⟩ = false := frozen_of_row wc gl 2 _ _ HRow.out
                have z3' : wc.frozen? ⟨gl, 3, none⟩ = false := frozen_of_row wc gl 3 _ _ HRow.out
                have HRow2 : Hid (((wc.setCell ⟨gl, 2, none⟩ (.string ⟨#[85, 112, 108, 111, 97, 100, 45, 68, 101, 102, 101, 114, 45, 76, 101, 110, 103, 116, 104]⟩)).setCell ⟨gl, 3, none⟩ (.string ⟨#[49]⟩)).heap[gl]? = some (.cells #[.string ⟨#[85, 112, 108, 111, 97, 100, 45, 79, 102, 102, 115, 101, 116]⟩, .string dl, .string ⟨#[85, 112, 108, 111, 97, 100, 45, 68, 101, 102, 101, 114, 45, 76, 101, 110, 103, 116, 104]⟩, .string ⟨#[49]⟩, .string ⟨#[67, 97, 99, 104, 101, 45, 67, 111, 110, 116, 114, 111, 108]⟩, .string ⟨#[110, 111, 45, 115, 116, 111, 114, 101]⟩] 9 (0, 0))) := heap_setCell_same _ gl 3 _ _ _ (heap_setCell_same wc gl 2 _ _ _ HRow.out)
                have hT2 : Turns (fun k => k = gl) wc ((wc.setCell ⟨gl, 2, none⟩ (.string ⟨#[85, 112, 108, 111, 97, 100, 45, 68, 101, 102, 101, 114, 45, 76, 101, 110, 103, 116, 104]⟩)).setCell ⟨gl, 3, none⟩ (.string ⟨#[49]⟩)) := (Turns.setCell (fun k => k = gl) wc _ _ rfl).trans (Turns.setCell (fun k => k = gl) _ _ _ rfl) (fun _ e _ => e)
                have Hc2 := Hid.mk' (Hc.out.aside L hT2 HGl.out (fun e => by have := e.2; omega))
                have m2' : ((wc.setCell ⟨gl, 2, none⟩ (.string ⟨#[85, 112, 108, 111, 97, 100, 45, 68, 101, 102, 101, 114, 45, 76, 101, 110, 103, 116, 104]⟩)).setCell ⟨gl, 3, none⟩ (.string ⟨#[49]⟩)).cell? ⟨ub, 2, none⟩ = some (.string u.note) := by
                  rw [World.cell?_of_block (a := ⟨ub, 2, none⟩) (hT2.block ub (World.block_lt_of_cell? wc _ m2) (by omega))]; exact m2
                clear hT2
                go_upto_region 38 with fail
                generalize ((wc.setCell ⟨gl, 2, none⟩ (.string ⟨#[85, 112, 108, 111, 97, 100, 45, 68, 101, 102, 101, 114, 45, 76, 101, 110, 103, 116, 104]⟩)).setCell ⟨gl, 3, none⟩ (.string ⟨#[49]⟩)) = wd at *
                clear m1 m2 g2 g3 z2' z3'
                obtain ⟨bn, hbn⟩ : ∃ b, (u.note.toList == ([] : List UInt8)) = b := ⟨_, rfl⟩
                have eN : u.note.size = 0 ↔ bn = true := by
                  rw [← hbn, beq_iff_eq, Lib.toList_data]
                  refine ⟨fun e => List.eq_nil_of_length_eq_zero (by rw [Array.length_toList]; exact e), fun e => ?_⟩
                  have := congrArg List.length e
                  rw [Array.length_toList] at this; exact this
                cases bn with
                | true =>
                  rw [if_pos (eN.2 rfl)] at HD
                  have HSd := Hid.mk' (said_three_any 200 Tu.fUO dl Tu.fUD Tu.vOne Tu.fCC Tu.vNS (some ⟨gl, 0, none⟩) 6 wd (own_of_row (n := 6) HRow2.out rfl (by decide)).isV)
                  unfold Tu.fUO Tu.fCC Tu.vNS Tu.fUD Tu.vOne at HSd
                  clear eN
                  go_wp2_with fail
                  refine HSd.out.mono ?_
                  rintro e w9 ⟨ao9, cap9, rfl, hO9, hB9⟩
                  obtain ⟨⟨z0, z1, z2, y0, y1, y2⟩, HE⟩ := Hc2.out.ends L (i := 1) rfl (b := w.heap.size + 1) (by first | rfl | omega) (st := 200) (sti := 200) rfl rfl (Nat.le_trans (Nat.le_add_right _ _) Hc2.out.sz) hO9 hB9
                  clear hO9 hB9
                  go_wp2
                  generalize (((w9.setCell ⟨w.heap.size + 1, 0, none⟩ (.int .i64 200)).setCell ⟨w.heap.size + 1, 1, none⟩ (.slice ao9 4 cap9)).setCell ⟨w.heap.size + 1, 2, none⟩ (.slice none 0 0)) = wf at *
                  obtain ⟨q0, q1, q2, q3⟩ := HE.out
                  refine bodyPost_ret (v := .agg #[.int .i64 200, .slice ao9 4 cap9, .slice none 0 0]) (by simp [results, Tryz.results11, go_sem, q0, q1, q2]) rfl ?_
                  rw [HD.out]
                  exact q3
                | false =>
                  rw [if_neg (fun e => by have := eN.1 e; cases this)] at HD
                  obtain ⟨i0, hi0, hz0, hz1, hz2⟩ := info_parts info_str
                  have Hi := Hid.mk' hi0; have Hz0 := Hid.mk' hz0; have Hz1 := Hid.mk' hz1; have Hz2 := Hid.mk' hz2
                  clear hi0 hz0 hz1 hz2 eN
                  have HOw := Hid.mk' ((own_of_row (n := 6) HRow2.out rfl (by decide)).alloc (.cells #[.string ⟨#[85, 112, 108, 111, 97, 100, 45, 77, 101, 116, 97, 100, 97, 116, 97]⟩, .string u.note] 9))
                  have HSr := Hid.mk' (IsV.made wd #[.string ⟨#[85, 112, 108, 111, 97, 100, 45, 77, 101, 116, 97, 100, 97, 116, 97]⟩, .string u.note] 2 9 (0, 0))
                  have HAs : Hid (∀ w7, (wd.alloc (.cells #[.string ⟨#[85, 112, 108, 111, 97, 100, 45, 77, 101, 116, 97, 100, 97, 116, 97]⟩, .string u.note] 9)).grownBy w7 (some gl) → TbAt ShAt S w g [.cells #[.string m, .string t, .int .i64 mi, .slice fo l.length fcap, .int .i64 ln] 35 (0, 0), .cells #[.int .i64 0, .slice none 0 0, .slice none 0 0] 32 (0, 0)] s (fun k => S k ∧ k < w.heap.size) w7) := fun w7 hG => (Hc2.out.stay L ((Below.refl _ _).alloc (Nat.le_refl _) _)).aside L (b := gl) (Turns.of_grown hG (fun k e => by injection e with e; exact e.symm)) HGl.out (fun e => by have := e.2; have := HGl.out; omega)
                  go_wp2_with (at_builtin; refine wpList_append_v rfl (.tmp 179) (.tmp 182) 82 rfl 0 9 i0 (.string ⟨#[]⟩) 1 16 Tryz.underlying82 Hi.out Hz0.out Hz1.out Hz2.out rfl (by decide) rfl HOw.out rfl HSr.out rfl (fun x hx => by simp at hx; rcases hx with rfl | rfl <;> rfl) (by decide) (by decide) (Nat.zero_le _) ?_; intro ao7 cap7 w7 hO7 hG7 hat7; have HO7 := Hid.mk' hO7; have H7 := Hid.mk' (HAs.out w7 hG7); clear hO7 hG7 hat7)
                  have HSd := Hid.mk' (said_four_any 200 Tu.fUO dl Tu.fUD Tu.vOne Tu.fCC Tu.vNS Tu.fUM u.note ao7 cap7 w7 HO7.out.isV)
                  unfold Tu.fUO Tu.fCC Tu.vNS Tu.fUM Tu.fUD Tu.vOne at HSd
                  go_wp2_with fail
                  refine HSd.out.mono ?_
                  rintro e w9 ⟨ao9, cap9, rfl, hO9, hB9⟩
                  obtain ⟨⟨z0, z1, z2, y0, y1, y2⟩, HE⟩ := H7.out.ends L (i := 1) rfl (b := w.heap.size + 1) (by first | rfl | omega) (st := 200) (sti := 200) rfl rfl (Nat.le_trans (Nat.le_add_right _ _) H7.out.sz) hO9 hB9
                  clear hO9 hB9
                  go_wp2
                  generalize (((w9.setCell ⟨w.heap.size + 1, 0, none⟩ (.int .i64 200)).setCell ⟨w.heap.size + 1, 1, none⟩ (.slice ao9 5 cap9)).setCell ⟨w.heap.size + 1, 2, none⟩ (.slice none 0 0)) = wf at *
                  obtain ⟨q0, q1, q2, q3⟩ := HE.out
                  refine bodyPost_ret (v := .agg #[.int .i64 200, .slice ao9 5 cap9, .slice none 0 0]) (by simp [results, Tryz.results11, go_sem, q0, q1, q2]) rfl ?_
                  rw [HD.out]
                  exact q3
              · rw [if_neg hs0] at HD
                have ts : decide (u.size < 0) = false := decide_eq_false hs0
                have htz' := HTz.out (by omega)
                have HD' := Hid.mk' HD.out
                rw [← htz'] at HD
                clear htz' HD'
                obtain ⟨bn, hbn⟩ : ∃ b, (u.note.toList == ([] : List UInt8)) = b := ⟨_, rfl⟩
                have eN : u.note.size = 0 ↔ bn = true := by
                  rw [← hbn, beq_iff_eq, Lib.toList_data]
                  refine ⟨fun e => List.eq_nil_of_length_eq_zero (by rw [Array.length_toList]; exact e), fun e => ?_⟩
                  have := congrArg List.length e
                  rw [Array.length_toList] at this; exact this
                cases bn with
                | true =>
                  rw [if_pos (eN.2 rfl)] at HD
                  have HSd := Hid.mk' (said_three_any 200 Tu.fUO dl Tu.fUL tz Tu.fCC Tu.vNS (some ⟨gl, 0, none⟩) 6 wc (own_of_row (n := 6) HRow.out rfl (by decide)).isV)
                  unfold Tu.fUO Tu.fCC Tu.vNS Tu.fUL at HSd
                  clear eN
                  go_wp2_with fail
                  refine HSd.out.mono ?_
                  rintro e w9 ⟨ao9, cap9, rfl, hO9, hB9⟩
                  obtain ⟨⟨z0, z1, z2, y0, y1, y2⟩, HE⟩ := Hc.out.ends L (i := 1) rfl (b := w.heap.size + 1) (by first | rfl | omega) (st := 200) (sti := 200) rfl rfl (Nat.le_trans (Nat.le_add_right _ _) Hc.out.sz) hO9 hB9
                  clear hO9 hB9
                  go_wp2
                  generalize (((w9.setCell ⟨w.heap.size + 1, 0, none⟩ (.int .i64 200)).setCell ⟨w.heap.size + 1, 1, none⟩ (.slice ao9 4 cap9)).setCell ⟨w.heap.size + 1, 2, none⟩ (.slice none 0 0)) = wf at *
                  obtain ⟨q0, q1, q2, q3⟩ := HE.out
                  refine bodyPost_ret (v := .agg #[.int .i64 200, .slice ao9 4 cap9, .slice none 0 0]) (by simp [results, Tryz.results11, go_sem, q0, q1, q2]) rfl ?_
                  rw [HD.out]
                  exact q3
                | false =>
                  rw [if_neg (fun e => by have := eN.1 e; cases this)] at HD
                  obtain ⟨i0, hi0, hz0, hz1, hz2⟩ := info_parts info_str
                  have Hi := Hid.mk' hi0; have Hz0 := Hid.mk' hz0; have Hz1 := Hid.mk' hz1; have Hz2 := Hid.mk' hz2
                  clear hi0 hz0 hz1 hz2 eN
                  have HOw := Hid.mk' ((own_of_row (n := 6) HRow.out rfl (by decide)).alloc (.cells #[.string ⟨#[85, 112, 108, 111, 97, 100, 45, 77, 101, 116, 97, 100, 97, 116, 97]⟩, .string u.note] 9))
                  have HSr := Hid.mk' (IsV.made wc #[.string ⟨#[85, 112, 108, 111, 97, 100, 45, 77, 101, 116, 97, 100, 97, 116, 97]⟩, .string u.note] 2 9 (0, 0))
                  have HAs : Hid (∀ w7, (wc.alloc (.cells #[.string ⟨#[85, 112, 108, 111, 97, 100, 45, 77, 101, 116, 97, 100, 97, 116, 97]⟩, .string u.note] 9)).grownBy w7 (some gl) → TbAt ShAt S w g [.cells #[.string m, .string t, .int .i64 mi, .slice fo l.length fcap, .int .i64 ln] 35 (0, 0), .cells #[.int .i64 0, .slice none 0 0, .slice none 0 0] 32 (0, 0)] s (fun k => S k ∧ k < w.heap.size) w7) := fun w7 hG => (Hc.out.stay L ((Below.refl _ _).alloc (Nat.le_refl _) _)).aside L (b := gl) (Turns.of_grown hG (fun k e => by injection e with e; exact e.symm)) HGl.out (fun e => by have := e.2; have := HGl.out; omega)
                  go_wp2_with (at_builtin; refine wpList_append_v rfl (.tmp 179) (.tmp 182) 82 rfl 0 9 i0 (.string ⟨#[]⟩) 1 16 Tryz.underlying82 Hi.out Hz0.out Hz1.out Hz2.out rfl (by decide) rfl HOw.out rfl HSr.out rfl (fun x hx => by simp at hx; rcases hx with rfl | rfl <;> rfl) (by decide) (by decide) (Nat.zero_le _) ?_; intro ao7 cap7 w7 hO7 hG7 hat7; have HO7 := Hid.mk' hO7; have H7 := Hid.mk' (HAs.out w7 hG7); clear hO7 hG7 hat7)
                  have HSd := Hid.mk' (said_four_any 200 Tu.fUO dl Tu.fUL tz Tu.fCC Tu.vNS Tu.fUM u.note ao7 cap7 w7 HO7.out.isV)
                  unfold Tu.fUO Tu.fCC Tu.vNS Tu.fUM Tu.fUL at HSd
                  go_wp2_with fail
                  refine HSd.out.mono ?_
                  rintro e w9 ⟨ao9, cap9, rfl, hO9, hB9⟩
                  obtain ⟨⟨z0, z1, z2, y0, y1, y2⟩, HE⟩ := H7.out.ends L (i := 1) rfl (b := w.heap.size + 1) (by first | rfl | omega) (st := 200) (sti := 200) rfl rfl (Nat.le_trans (Nat.le_add_right _ _) H7.out.sz) hO9 hB9
                  clear hO9 hB9
                  go_wp2
                  generalize (((w9.setCell ⟨w.heap.size + 1, 0, none⟩ (.int .i64 200)).setCell ⟨w.heap.size + 1, 1, none⟩ (.slice ao9 5 cap9)).setCell ⟨w.heap.size + 1, 2, none⟩ (.slice none 0 0)) = wf at *
                  obtain ⟨q0, q1, q2, q3⟩ := HE.out
                  refine bodyPost_ret (v := .agg #[.int .i64 200, .slice ao9 5 cap9, .slice none 0 0]) (by simp [results, Tryz.results11, go_sem, q0, q1, q2]) rfl ?_
                  rw [HD.out]
                  exact q3
          | false =>
          rw [if_neg (fun e => by have := eH.1 e; cases this)] at HD
          obtain ⟨bd, hbd⟩ : ∃ b, (m.toList == ([68, 69, 76, 69, 84, 69] : List UInt8)) = b := ⟨_, rfl⟩
          have eD : m = Tu.mDel ↔ bd = true := by rw [← hbd]; exact Tu.eqL m Tu.mDel _ rfl
          cases bd with
          | true =>
            rw [if_pos (eD.2 rfl)] at HD
            have HDr := Hid.mk' (dropSh_any H6.out.sh HOk.out u.id)
            have HSm : Hid ((Sr.drop s u.id).2 ≠ 0 → (Sr.drop s u.id).1 = s) := fun e => by unfold Sr.drop at e ⊢; exact Tu.write_same e
            go_wp2_with fail
            refine HDr.out.mono ?_
            rintro e w7 ⟨rfl, hat, hT⟩
            have H7 := Hid.mk' (H6.out.did hat hT)
            clear hat hT HDr H6 HW6 k0 k1 k2 k3 k4 j0 j1 j2 j3 j4 x0 x1 x2 x3 x4 u0' u1' u2' u3' u4' hcg' huc'
            generalize Sr.drop s u.id = ra at *
            obtain ⟨sa, ca⟩ := ra
            simp only at HD HSm H7 ⊢
            by_cases hca : ca = 0
            · subst hca
              rw [if_neg (by simp)] at HD
              have HSy := Hid.mk' (syncSh_any H7.out.sh)
              go_wp2_with fail
              refine HSy.out.mono ?_
              rintro e w8 ⟨rfl, hat8, hT8⟩
              have H8 := Hid.mk' (H7.out.turned hat8 hT8)
              clear hat8 hT8 HSy H7
              go_wp2_with fail
              refine (said_none_any 204 _).mono ?_
              rintro e w9 ⟨ao9, cap9, rfl, hO9, hB9⟩
              obtain ⟨⟨z0, z1, z2, y0, y1, y2⟩, HE⟩ := H8.out.ends L (i := 1) rfl (b := w.heap.size + 1) (by first | rfl | omega) (st := 204) (sti := 204) rfl rfl (Nat.le_trans (Nat.le_add_right _ _) H8.out.sz) hO9 hB9
              clear hO9 hB9
              go_wp2
              generalize (((w9.setCell ⟨w.heap.size + 1, 0, none⟩ (.int .i64 204)).setCell ⟨w.heap.size + 1, 1, none⟩ (.slice ao9 1 cap9)).setCell ⟨w.heap.size + 1, 2, none⟩ (.slice none 0 0)) = wf at *
              obtain ⟨q0, q1, q2, q3⟩ := HE.out
              refine bodyPost_ret (v := .agg #[.int .i64 204, .slice ao9 1 cap9, .slice none 0 0]) (by simp [results, Tryz.results11, go_sem, q0, q1, q2]) rfl ?_
              rw [HD.out]
              exact q3
            · rw [if_pos hca] at HD
              have hsa := HSm.out hca
              subst hsa
              have tca : ((ca : Int) != 0) = true := by rw [bne_iff_ne]; omega
              go_wp2_with fail
              refine (statusOf_any ca _).mono ?_
              rintro e w8 ⟨rfl, hw⟩
              subst hw
              go_wp2_with fail
              refine (said_none_any ((Tu.status ca : Nat) : Int) _).mono ?_
              rintro e w9 ⟨ao9, cap9, rfl, hO9, hB9⟩
              obtain ⟨⟨z0, z1, z2, y0, y1, y2⟩, HE⟩ := H7.out.ends L (i := 1) rfl (b := w.heap.size + 1) (by first | rfl | omega) (st := Tu.status ca) (sti := ((Tu.status ca : Nat) : Int)) rfl rfl (Nat.le_trans (Nat.le_add_right _ _) H7.out.sz) hO9 hB9
              clear hO9 hB9
              go_wp2
              generalize (((w9.setCell ⟨w.heap.size + 1, 0, none⟩ (.int .i64 ((Tu.status ca : Nat) : Int))).setCell ⟨w.heap.size + 1, 1, none⟩ (.slice ao9 1 cap9)).setCell ⟨w.heap.size + 1, 2, none⟩ (.slice none 0 0)) = wf at *
              obtain ⟨q0, q1, q2, q3⟩ := HE.out
              refine bodyPost_ret (v := .agg #[.int .i64 ((Tu.status ca : Nat) : Int), .slice ao9 1 cap9, .slice none 0 0]) (by simp [results, Tryz.results11, go_sem, q0, q1, q2]) rfl ?_
              rw [HD.out]
              exact q3
          | false =>
          rw [if_neg (fun e => by have := eD.1 e; cases this)] at HD
          obtain ⟨bt, hbt⟩ : ∃ b, (m.toList == ([80, 65, 84, 67, 72] : List UInt8)) = b := ⟨_, rfl⟩
          have eT : m = Tu.mPat ↔ bt = true := by rw [← hbt]; exact Tu.eqL m Tu.mPat _ rfl
          cases bt with
          | true =>
            rw [if_pos (eT.2 rfl)] at HD
            have HPa := Hid.mk' (patchSh_any H6.out.sh HOk.out u q.bo q.bcap hul m t mi ln l fo fcap (HV.out _ HW6.out) hN HS.out bo bcap body.length body rfl (HBd.out _ HW6.out) hnb)
            generalize Tu.patch s u l body = rp at *
            obtain ⟨sp, stp, lp⟩ := rp
            go_wp2_with fail
            refine HPa.out.mono ?_
            rintro e w9 ⟨⟨ao9, cap9, n9, rfl, hn9, hO9⟩, hat9, hT9⟩
            have H9 := Hid.mk' (H6.out.did hat9 hT9)
            obtain ⟨⟨z0, z1, z2, y0, y1, y2⟩, HE⟩ := H9.out.ends L (i := 1) rfl (b := w.heap.size + 1) rfl (st := stp) (sti := (stp : Int)) rfl hn9 (Nat.le_trans (Nat.le_add_right _ _) H6.out.sz) hO9 (Below.refl _ _)
            clear hO9 hat9 hT9 HPa H6 HW6 k0 k1 k2 k3 k4 j0 j1 j2 j3 j4 x0 x1 x2 x3 x4 u0' u1' u2' u3' u4' hcg' huc' hn9
            go_wp2
            generalize (((w9.setCell ⟨w.heap.size + 1, 0, none⟩ (.int .i64 (stp : Int))).setCell ⟨w.heap.size + 1, 1, none⟩ (.slice ao9 n9 cap9)).setCell ⟨w.heap.size + 1, 2, none⟩ (.slice none 0 0)) = wf at *
            obtain ⟨q0, q1, q2, q3⟩ := HE.out
            refine bodyPost_ret (v := .agg #[.int .i64 (stp : Int), .slice ao9 n9 cap9, .slice none 0 0]) (by simp [results, Tryz.results11, go_sem, q0, q1, q2]) rfl ?_
            rw [HD.out]
            exact q3
          | false =>
            rw [if_neg (fun e => by have := eT.1 e; cases this)] at HD
            go_wp2_with fail
            refine (said_none_any 405 _).mono ?_
            rintro e w9 ⟨ao9, cap9, rfl, hO9, hB9⟩
            obtain ⟨⟨z0, z1, z2, y0, y1, y2⟩, HE⟩ := H6.out.ends L (i := 1) rfl (b := w.heap.size + 1) (by first | rfl | omega) (st := 405) (sti := 405) rfl rfl (Nat.le_trans (Nat.le_add_right _ _) H6.out.sz) hO9 hB9
            clear hO9 hB9
            go_wp2
            generalize (((w9.setCell ⟨w.heap.size + 1, 0, none⟩ (.int .i64 405)).setCell ⟨w.heap.size + 1, 1, none⟩ (.slice ao9 1 cap9)).setCell ⟨w.heap.size + 1, 2, none⟩ (.slice none 0 0)) = wf at *
            obtain ⟨q0, q1, q2, q3⟩ := HE.out
            refine bodyPost_ret (v := .agg #[.int .i64 405, .slice ao9 1 cap9, .slice none 0 0]) (by simp [results, Tryz.results11, go_sem, q0, q1, q2]) rfl ?_
            rw [HD.out]
            exact q3
    · have t7 : decide ((t.size : Int) > 7) = false := decide_eq_false (by omega)
      rw [Tu.numT_no (fun e => h7 e.1)] at HD
      simp only at HD
      go_wp2_with fail
      refine (said_none_any 404 _).mono ?_
      rintro e w9 ⟨ao9, cap9, rfl, hO9, hB9⟩
      obtain ⟨⟨z0, z1, z2, y0, y1, y2⟩, HE⟩ := H3.out.ends L (i := 1) rfl (b := w.heap.size + 1) (by first | rfl | omega) (st := 404) (sti := 404) rfl rfl (Nat.le_trans (Nat.le_add_right _ _) H3.out.sz) hO9 hB9
      clear hO9 hB9
      go_wp2
      generalize (((w9.setCell ⟨w.heap.size + 1, 0, none⟩ (.int .i64 404)).setCell ⟨w.heap.size + 1, 1, none⟩ (.slice ao9 1 cap9)).setCell ⟨w.heap.size + 1, 2, none⟩ (.slice none 0 0)) = wf at *
      obtain ⟨q0, q1, q2, q3⟩ := HE.out
      refine bodyPost_ret (v := .agg #[.int .i64 404, .slice ao9 1 cap9, .slice none 0 0]) (by simp [results, Tryz.results11, go_sem, q0, q1, q2]) rfl ?_
      rw [HD.out]
      exact q3
end Go.Proofs.YtdclmpdjjkjfjaaGreatDoor
