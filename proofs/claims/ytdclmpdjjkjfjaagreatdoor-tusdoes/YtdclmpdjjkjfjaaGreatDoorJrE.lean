/- The document's own answer, walked: EntryBytes. -/
import Derived.Test.YtdclmpdjjkjfjaaGreatDoorJrD
import Derived.Test.YtdclmpdjjkjfjaaGreatDoorPk4
import Derived.Deep.RegionHeldLaw
import Derived.Deep.RegionWith
namespace Go.Proofs.YtdclmpdjjkjfjaaGreatDoor
open Go.RowKit

set_option maxRecDepth 100000 in
set_option maxHeartbeats 2000000 in
theorem entryBytes_fits (x : Jn.E) (ta : Option Addr) (tn tc : Nat) (w : World) (hT : IsB w ta tc x.text) (hn : x.text.length = tn) (hf : Jn.fits x = true) :
    Calls Tryz.prog 90 #[.agg #[.int .i64 x.kind, .int .i64 x.id, .int .i64 x.n, .slice ta tn tc]] w fun e w' => EncPost w x e w' := by
  have hb1 : Below w.heap.size w (w.alloc (.cells #[.int .i64 x.kind, .int .i64 x.id, .int .i64 x.n, .slice ta tn tc] 110)) := (Below.refl _ w).alloc (Nat.le_refl _) _
  have hsz : (w.alloc (.cells #[.int .i64 x.kind, .int .i64 x.id, .int .i64 x.n, .slice ta tn tc] 110)).heap.size = w.heap.size + 1 := by simp
  have HC : Hid (∀ W, Below (w.heap.size + 1) (w.alloc (.cells #[.int .i64 x.kind, .int .i64 x.id, .int .i64 x.n, .slice ta tn tc] 110)) W → W.cell? ⟨w.heap.size, 0, none⟩ = some (.int .i64 x.kind) ∧ W.cell? ⟨w.heap.size, 1, none⟩ = some (.int .i64 x.id) ∧ W.cell? ⟨w.heap.size, 2, none⟩ = some (.int .i64 x.n) ∧ W.cell? ⟨w.heap.size, 3, none⟩ = some (.slice ta tn tc)) := fun W h => cells4 (by omega) h
  have HT : Hid (∀ W, Below (w.heap.size + 1) (w.alloc (.cells #[.int .i64 x.kind, .int .i64 x.id, .int .i64 x.n, .slice ta tn tc] 110)) W → IsB W ta tc x.text) := fun W h => hT.stay (hb1.trans (h.mono (by omega)))
  have HB0 : Hid (∀ W, Below (w.heap.size + 1) (w.alloc (.cells #[.int .i64 x.kind, .int .i64 x.id, .int .i64 x.n, .slice ta tn tc] 110)) W → Below w.heap.size w W) := fun W h => hb1.trans (h.mono (by omega))
  obtain ⟨i0, hi0, hz0, hz1, hz2⟩ := info_parts info_u8
  have Hi := Hid.mk' hi0; have Hz0 := Hid.mk' hz0; have Hz1 := Hid.mk' hz1; have Hz2 := Hid.mk' hz2
  have HE : Hid (encOut x = (Jn.enc x, 0)) := by unfold Hid encOut; rw [if_pos hf]
  obtain ⟨k1, k2, k3, k4⟩ := (Jn.fits_iff x).1 hf
  have hhl := Jn.head_len hf
  have hil := Jn.inn_len hf
  rw [hn] at k4
  have hin : (Jn.inn x).length = (Jn.head x).length + tn := by rw [Jn.inn, List.length_append, hn]
  have HEnc : Hid (Jn.enc x = Jn.num ((Jn.head x).length + tn + 1) ++ (Jn.head x ++ x.text)) := by
    unfold Hid Jn.enc; rw [hin, Jn.inn]
  have HTn := Hid.mk' hn
  have HSz := Hid.mk' hsz
  have n1 : ¬ x.kind < 1 := by omega
  have n2 : ¬ 6 < x.kind := by omega
  have n3 : ¬ x.id < -1 := by omega
  have n4 : ¬ (1073741824 : Int) ≤ x.id := by omega
  have n5 : ¬ x.n < -1 := by omega
  have n6 : ¬ (1073741824 : Int) ≤ x.n := by omega
  have n7 : ¬ (1048576 : Int) ≤ tn := by omega
  clear hf hn hin hT hi0 hz0 hz1 hz2 hb1
  have HK1 : Hid (∀ W, Calls Tryz.prog 124 #[.int .i64 x.kind] W fun e w' => ∃ ao' cap', e = .returned (.slice ao' (Jn.nb x.kind).length cap') ∧ OwnB w' W.heap.size 5 ao' cap' (Jn.nb x.kind) ∧ Below W.heap.size W w') := fun W => seven_any (x.kind + 1).toNat (by omega) W x.kind (by omega)
  have HK2 : Hid (∀ W, Calls Tryz.prog 124 #[.int .i64 x.id] W fun e w' => ∃ ao' cap', e = .returned (.slice ao' (Jn.nb x.id).length cap') ∧ OwnB w' W.heap.size 5 ao' cap' (Jn.nb x.id) ∧ Below W.heap.size W w') := fun W => seven_any (x.id + 1).toNat (by omega) W x.id (by omega)
  have HK3 : Hid (∀ W, Calls Tryz.prog 124 #[.int .i64 x.n] W fun e w' => ∃ ao' cap', e = .returned (.slice ao' (Jn.nb x.n).length cap') ∧ OwnB w' W.heap.size 5 ao' cap' (Jn.nb x.n) ∧ Below W.heap.size W w') := fun W => seven_any (x.n + 1).toNat (by omega) W x.n (by omega)
  have HHd : Hid (Jn.head x = Jn.nb x.kind ++ Jn.nb x.id ++ Jn.nb x.n) := rfl
  have hl1 := (Jn.nb_len (x := x.kind) (by omega)).1
  have hl2 := (Jn.nb_len k2.2).1
  have hl3 := (Jn.nb_len k3.2).1
  have ho := HC.out _ (Below.refl _ _)
  generalize Jn.nb x.kind = b1 at *
  generalize Jn.nb x.id = b2 at *
  generalize Jn.nb x.n = b3 at *
  generalize x.kind = kd at *
  generalize x.id = id at *
  generalize x.n = nn at *
  go_enter Tryz.func90, Tryz.ntmps90
  go_upto_region 3 with fail
  generalize w.alloc (.cells #[.int .i64 kd, .int .i64 id, .int .i64 nn, .slice ta tn tc] 110) = w1 at *
  obtain ⟨c0, c1, c2, c3⟩ := ho
  go_cut [4] (fun v wd => ∃ ao ca, v = .slice ao (b1.length + b2.length + b3.length + tn) ca ∧ OwnB wd w1.heap.size 5 ao ca (b1 ++ b2 ++ b3 ++ x.text) ∧ Below w1.heap.size w1 wd)
  case first =>
    have HBd : Hid (Below w1.heap.size w1 w1.drew) := below_drew _ _
    go_region_held_law (fun w' => w'.cell? ⟨w.heap.size, 0, none⟩ = some (.int .i64 kd) ∧ w'.cell? ⟨w.heap.size, 1, none⟩ = some (.int .i64 id) ∧ w'.cell? ⟨w.heap.size, 2, none⟩ = some (.int .i64 nn) ∧ w'.cell? ⟨w.heap.size, 3, none⟩ = some (.slice ta tn tc)) (first | go_keep | exact HKw.out) (first
      | (go_at_call_of 124 kd; refine (HK1.out _).mono ?_; rintro e u1 ⟨ao1, ca1, rfl, hO, hb⟩; have hbx : Below w1.heap.size w1 u1 := HBd.out.trans hb; have HB1 := Hid.mk' hbx; have HO1 : Hid (OwnB u1 w1.heap.size 5 ao1 ca1 b1) := hO; have HKw := Hid.mk' (HC.out _ (by rw [← HSz.out]; exact hbx)); clear hO hb hbx)
      | (go_at_call_of 124 id; refine (HK2.out _).mono ?_; rintro e u2 ⟨ao2, ca2, rfl, hO, hb⟩; have hbx : Below w1.heap.size w1 u2 := then_ HB1.out hb; have HB2 := Hid.mk' hbx; have HO1b : Hid (OwnB u2 w1.heap.size 5 ao1 ca1 b1) := HO1.out.stay hb; have HI2 : Hid (IsB u2 ao2 ca2 b2) := hO.isB; have HKw := Hid.mk' (HC.out _ (by rw [← HSz.out]; exact hbx)); clear hO hb hbx)
      | (refine step_append_bb (by rfl) (.tmp 41) (.tmp 44) 30 (by rfl) w1.heap.size 5 i0 Tryz.underlying30 Hi.out Hz0.out Hz1.out Hz2.out (l := b1) (l2 := b2) (by rfl) rfl HO1b.out (by rfl) rfl HI2.out (by omega) HB2.out.size ?_; intro aa3 cc3 u3 hO hG; have hbx := (HB2.out).trans (grown_base HO1b.out hG HB2.out.size); have HB3 := Hid.mk' hbx; have HO3 := Hid.mk' hO; have HKw := Hid.mk' (HC.out _ (by rw [← HSz.out]; exact hbx)); clear hO hG hbx; (try simp only [Act.put, List.getElem_toArray, List.getElem_cons_succ, List.getElem_cons_zero, List.setIfInBounds_toArray, List.set_cons_zero, List.set_cons_succ]))
      | (go_at_call_of 124 nn; refine (HK3.out _).mono ?_; rintro e u4 ⟨ao4, ca4, rfl, hO, hb⟩; have hbx : Below w1.heap.size w1 u4 := then_ HB3.out hb; have HB4 := Hid.mk' hbx; have HO3b : Hid (OwnB u4 w1.heap.size 5 aa3 cc3 (b1 ++ b2)) := HO3.out.stay hb; have HI4 : Hid (IsB u4 ao4 ca4 b3) := hO.isB; have HKw := Hid.mk' (HC.out _ (by rw [← HSz.out]; exact hbx)); clear hO hb hbx)
      | (refine step_append_bb (by rfl) (.tmp 45) (.tmp 48) 30 (by rfl) w1.heap.size 5 i0 Tryz.underlying30 Hi.out Hz0.out Hz1.out Hz2.out (l := b1 ++ b2) (l2 := b3) (by rfl) (by rw [List.length_append]) HO3b.out (by rfl) rfl HI4.out (by omega) HB4.out.size ?_; intro aa5 cc5 u5 hO hG; have hbx := (HB4.out).trans (grown_base HO3b.out hG HB4.out.size); have HB5 := Hid.mk' hbx; have HO5 := Hid.mk' hO; have HKw := Hid.mk' (HC.out _ (by rw [← HSz.out]; exact hbx)); clear hO hG hbx; (try simp only [Act.put, List.getElem_toArray, List.getElem_cons_succ, List.getElem_cons_zero, List.setIfInBounds_toArray, List.set_cons_zero, List.set_cons_succ]))
      | (refine step_append_bb (by rfl) (.tmp 49) (.tmp 51) 30 (by rfl) w1.heap.size 5 i0 Tryz.underlying30 Hi.out Hz0.out Hz1.out Hz2.out (l := b1 ++ b2 ++ b3) (l2 := x.text) (by rfl) (by rw [List.length_append, List.length_append]) HO5.out (by rfl) HTn.out (HT.out _ (by rw [← HSz.out]; exact HB5.out)) (by omega) HB5.out.size ?_; intro aa6 cc6 u6 hO hG; have hbx := (HB5.out).trans (grown_base HO5.out hG HB5.out.size); have HB6 := Hid.mk' hbx; have HO6 := Hid.mk' hO; have HKw := Hid.mk' (HC.out _ (by rw [← HSz.out]; exact hbx)); clear hO hG hbx; (try simp only [Act.put, List.getElem_toArray, List.getElem_cons_succ, List.getElem_cons_zero, List.setIfInBounds_toArray, List.set_cons_zero, List.set_cons_succ])))
    all_goals
      go_wp2
      go_meet
      exact ⟨aa6, cc6, rfl, HO6.out, HB6.out⟩
  case rest =>
    obtain ⟨ao, ca, rfl, hO, hB⟩ := hcut
    have HLn : Hid ((b1 ++ b2 ++ b3 ++ x.text).length = b1.length + b2.length + b3.length + tn) := by unfold Hid; rw [List.length_append, List.length_append, List.length_append, HTn.out]
    have HE3 : Hid (Jn.enc x = Jn.num (b1.length + b2.length + b3.length + tn + 1) ++ (b1 ++ b2 ++ b3 ++ x.text)) := by
      unfold Hid; rw [HEnc.out, HHd.out, List.length_append, List.length_append]
    have HIn := Hid.mk' hO.isB
    have HB := Hid.mk' hB
    clear hO hB HEnc HHd hhl hil
    generalize b1 ++ b2 ++ b3 ++ x.text = bs at *
    generalize hm : b1.length + b2.length + b3.length + tn = m at *
    have hm' : m ≤ 1048590 := by omega
    clear hm hl1 hl2 hl3 HK1 HK2 HK3
    have HN : Hid (Calls Tryz.prog 124 #[.int .i64 (m : Int)] wc fun e w' => ∃ ao' cap', e = .returned (.slice ao' (Jn.num (m + 1)).length cap') ∧ OwnB w' wc.heap.size 5 ao' cap' (Jn.num (m + 1)) ∧ Below wc.heap.size wc w') := seven_any (m + 1) (by omega) wc m (by omega)
    have hnl : (Jn.num (m + 1)).length ≤ 5 := Jn.num_len 4 _ (by omega)
    generalize Jn.num (m + 1) = nm at *
    go_wp2_with (first
      | (go_at_call 124; refine HN.out.mono ?_; rintro e w3 ⟨ao3, ca3, rfl, hO3, hb3⟩; have HO3 := Hid.mk' hO3; have HB3 := Hid.mk' hb3; have HI3 := Hid.mk' (HIn.out.stay hb3); clear hO3 hb3)
      | (at_builtin; refine wpList_append_b rfl (.tmp 55) (.tmp 56) 30 rfl wc.heap.size 5 i0 Tryz.underlying30 Hi.out Hz0.out Hz1.out Hz2.out (l := nm) (l2 := bs) rfl rfl HO3.out rfl HLn.out HI3.out (by omega) HB3.out.size ?_; intro ao4 ca4 w4 hO4 hG4; have hb4 := HB3.out.trans (grown_base HO3.out hG4 HB3.out.size); have HO4 := Hid.mk' hO4; have HB4 := Hid.mk' hb4; clear hO4 hG4 hb4))
    go_ret2
    exact ⟨ao4, ca4, by rw [HE.out, HE3.out, List.length_append, HLn.out]; rfl, by rw [HE.out, HE3.out]; exact HO4.out.mono (by have := HB.out.size; have := HSz.out; omega), HB0.out _ (by rw [← HSz.out]; exact then_ HB.out HB4.out)⟩
set_option maxRecDepth 100000 in
set_option maxHeartbeats 2000000 in
theorem entryBytes_any (x : Jn.E) (ta : Option Addr) (tn tc : Nat) (w : World) (hT : IsB w ta tc x.text) (hn : x.text.length = tn) :
    Calls Tryz.prog 90 #[.agg #[.int .i64 x.kind, .int .i64 x.id, .int .i64 x.n, .slice ta tn tc]] w fun e w' => EncPost w x e w' := by
  have hb1 : Below w.heap.size w (w.alloc (.cells #[.int .i64 x.kind, .int .i64 x.id, .int .i64 x.n, .slice ta tn tc] 110)) := (Below.refl _ w).alloc (Nat.le_refl _) _
  have HB0 := Hid.mk' hb1
  have HX : Hid (Jn.fits x = false → encOut x = ([], 1)) := fun h => by unfold encOut; rw [if_neg (by simp [h])]
  have HFi := Hid.mk' (Jn.fits_iff x)
  by_cases h0 : x.kind < 1
  · have HE' : Hid (encOut x = ([], 1)) := HX.out (by rw [Bool.eq_false_iff]; intro e; have := HFi.out.1 e; omega)
    go_enter Tryz.func90, Tryz.ntmps90
    go_wp2
    go_ret2
    exact ⟨none, 0, by rw [HE'.out]; rfl, by rw [HE'.out]; exact OwnB.nil _ _ _, HB0.out⟩
  · skip
    by_cases h1 : 6 < x.kind
    · have HE' : Hid (encOut x = ([], 1)) := HX.out (by rw [Bool.eq_false_iff]; intro e; have := HFi.out.1 e; omega)
      go_enter Tryz.func90, Tryz.ntmps90
      go_wp2
      go_ret2
      exact ⟨none, 0, by rw [HE'.out]; rfl, by rw [HE'.out]; exact OwnB.nil _ _ _, HB0.out⟩
    · skip
      by_cases h2 : x.id < -1
      · have HE' : Hid (encOut x = ([], 1)) := HX.out (by rw [Bool.eq_false_iff]; intro e; have := HFi.out.1 e; omega)
        go_enter Tryz.func90, Tryz.ntmps90
        go_wp2
        go_ret2
        exact ⟨none, 0, by rw [HE'.out]; rfl, by rw [HE'.out]; exact OwnB.nil _ _ _, HB0.out⟩
      · skip
        by_cases h3 : 1073741824 ≤ x.id
        · have HE' : Hid (encOut x = ([], 1)) := HX.out (by rw [Bool.eq_false_iff]; intro e; have := HFi.out.1 e; omega)
          go_enter Tryz.func90, Tryz.ntmps90
          go_wp2
          go_ret2
          exact ⟨none, 0, by rw [HE'.out]; rfl, by rw [HE'.out]; exact OwnB.nil _ _ _, HB0.out⟩
        · skip
          by_cases h4 : x.n < -1
          · have HE' : Hid (encOut x = ([], 1)) := HX.out (by rw [Bool.eq_false_iff]; intro e; have := HFi.out.1 e; omega)
            go_enter Tryz.func90, Tryz.ntmps90
            go_wp2
            go_ret2
            exact ⟨none, 0, by rw [HE'.out]; rfl, by rw [HE'.out]; exact OwnB.nil _ _ _, HB0.out⟩
          · skip
            by_cases h5 : 1073741824 ≤ x.n
            · have HE' : Hid (encOut x = ([], 1)) := HX.out (by rw [Bool.eq_false_iff]; intro e; have := HFi.out.1 e; omega)
              go_enter Tryz.func90, Tryz.ntmps90
              go_wp2
              go_ret2
              exact ⟨none, 0, by rw [HE'.out]; rfl, by rw [HE'.out]; exact OwnB.nil _ _ _, HB0.out⟩
            · skip
              by_cases h6 : (1048576 : Int) ≤ tn
              · have HE' : Hid (encOut x = ([], 1)) := HX.out (by rw [Bool.eq_false_iff]; intro e; have := HFi.out.1 e; omega)
                go_enter Tryz.func90, Tryz.ntmps90
                go_wp2
                go_ret2
                exact ⟨none, 0, by rw [HE'.out]; rfl, by rw [HE'.out]; exact OwnB.nil _ _ _, HB0.out⟩
              · skip
                have hf : Jn.fits x = true := HFi.out.2 (by omega)
                exact entryBytes_fits x ta tn tc w hT hn hf
end Go.Proofs.YtdclmpdjjkjfjaaGreatDoor
