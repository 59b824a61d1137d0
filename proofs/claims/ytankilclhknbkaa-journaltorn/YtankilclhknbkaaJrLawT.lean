/- JournalTorn, walked. -/
import Derived.Test.YtankilclhknbkaaJrT
namespace Go.Proofs.Ytankilclhknbkaa
open Go.RowKit

theorem info_i64 : (Try.prog.info? 3).map (fun i => (i.zero, i.size, i.bytes)) = some (some (.int .i64 0), 1, 8) := by kernel_rfl
theorem one_int (v : Int) : ∀ u ∈ [Value.int .i64 v], u.oneCell' = true := fun u hu => by rw [List.mem_singleton.1 hu]; rfl
theorem encOut_yes {x : Jn.E} (h : Jn.fits x = true) : encOut x = (Jn.enc x, 0) := by unfold encOut; rw [if_pos h]
theorem encOut_no {x : Jn.E} (h : Jn.fits x = false) : encOut x = ([], 1) := by unfold encOut; rw [if_neg (by simp [h])]
theorem all_one (es : List Jn.E) (e : Jn.E) : Jn.all (es ++ [e]) = Jn.all es ++ Jn.enc e := by rw [Jn.all_append]; simp [Jn.all]

theorem all_take_le (l : List Jn.E) (i : Nat) : (Jn.all (l.take i)).length ≤ (Jn.all l).length := by
  have : Jn.all l = Jn.all (l.take i) ++ Jn.all (l.drop i) := by rw [← Jn.all_append, List.take_append_drop]
  rw [this, List.length_append]; omega
/-- a place to cut at -/
theorem cut_at (cut : Int) (m : Nat) (hm : m ≤ 1000000000) : ∃ K : Nat, wrap64 ((IntKind.u64.wrap cut).tmod ((m : Int) + 1)) = K ∧ K ≤ m := by
  have h0 : 0 ≤ IntKind.u64.wrap cut := by rw [IntKind.wrap_u64]; omega
  have h1 : (IntKind.u64.wrap cut).tmod ((m : Int) + 1) = (IntKind.u64.wrap cut) % ((m : Int) + 1) := Int.tmod_eq_emod_of_nonneg h0
  have h2 := Int.emod_nonneg (IntKind.u64.wrap cut) (show ((m : Int) + 1) ≠ 0 by omega)
  have h3 := Int.emod_lt_of_pos (IntKind.u64.wrap cut) (show (0 : Int) < (m : Int) + 1 by omega)
  refine ⟨((IntKind.u64.wrap cut) % ((m : Int) + 1)).toNat, ?_, by omega⟩
  rw [h1, wrap64_id (by omega) (by omega)]; omega
set_option maxRecDepth 100000 in
set_option maxHeartbeats 8000000 in
theorem journalTorn_any (l : List Jn.E) (ao : Option Addr) (n cap : Nat) (cut : Int) (w : World) (hE : IsEns w ao cap l) (hn : l.length = n) :
    Calls Try.prog 4 #[.slice ao n cap, .int .i64 cut] w fun e w' => e = .returned (.bool true) ∧ Below w.heap.size w w' := by
  have HI := Hid.mk' hE
  have HBg := Hid.mk' (journalBegun_any w)
  have hcap := hE.cap_
  obtain ⟨i0, hi0, hz0, hz1, hz2⟩ := info_parts info_u8
  have Hi := Hid.mk' hi0; have Hz0 := Hid.mk' hz0; have Hz1 := Hid.mk' hz1; have Hz2 := Hid.mk' hz2
  obtain ⟨j0, hj0, hy0, hy1, hy2⟩ := info_parts info_enR
  have Hj := Hid.mk' hj0; have Hy0 := Hid.mk' hy0; have Hy1 := Hid.mk' hy1; have Hy2 := Hid.mk' hy2
  obtain ⟨k0, hk0, hx0, hx1, hx2⟩ := info_parts info_i64
  have Hk := Hid.mk' hk0; have Hx0 := Hid.mk' hx0; have Hx1 := Hid.mk' hx1; have Hx2 := Hid.mk' hx2
  clear hE hi0 hz0 hz1 hz2 hj0 hy0 hy1 hy2 hk0 hx0 hx1 hx2
  by_cases h1 : 60 < n
  · have h1' : (60 : Int) < n := by omega
    go_enter Try.func4, Try.ntmps4
    go_wp2_with (go_at_call 7; refine HBg.out.mono ?_; rintro e w2 ⟨rfl, hb2⟩; have HB2 := Hid.mk' hb2; clear hb2)
    go_ret
    exact ⟨rfl, HB2.out⟩
  · have h1' : ¬ (60 : Int) < n := by omega
    go_enter Try.func4, Try.ntmps4
    go_upto_region 5 with (go_at_call 7; refine HBg.out.mono ?_; rintro e w2 ⟨rfl, hb2⟩; have HB2 := Hid.mk' hb2; clear hb2)
    have HT0 : Hid (TnAt w (kept l 0) none 0 0 none 0 none 0 0 w2) := ⟨OwnB.nil _ _ _, rfl, OwnV.nil _ _ _ _, ⟨[], rfl, OwnV.nil _ _ _ _, fun x hx => by cases hx⟩, rfl, HB2.out⟩
    clear HBg HB2
    go_wp2
    go_loopw [5, 6, 7, 8] (fun v5 v6 v7 v8 wr => ∃ (i m1 c1 c2 c3 k : Nat) (a1 a2 a3 : Option Addr), i ≤ n ∧ v8 = .int .i64 i ∧ v5 = .slice a1 m1 c1 ∧ v6 = .slice a2 k c2 ∧ v7 = .slice a3 k c3 ∧ (∀ e ∈ kept l i, e.text.length ≤ 2000) ∧ TnAt w (kept l i) a1 c1 m1 a2 c2 a3 c3 k wr) (fun _ _ _ v8 _ => n - (intOf v8).toNat)
    case atStart => exact ⟨0, 0, 0, 0, 0, 0, none, none, none, Nat.zero_le _, rfl, rfl, rfl, rfl, fun e he => by simp [kept] at he, HT0.out⟩
    case round =>
      obtain ⟨i, m1, c1, c2, c3, k, a1, a2, a3, hi, rfl, rfl, rfl, rfl, hsm, hT⟩ := hrel
      have HT := Hid.mk' hT; have HSm := Hid.mk' hsm
      have hki : k ≤ i := by have := kept_len l i; have := hT.cnt; omega
      have hm1 : m1 ≤ 200000 := by
        have h2 := Jn.all_len (kept l i) 2000 (fun e he => ⟨kept_fits l i e he, hsm e he⟩)
        rw [hT.len, hT.cnt] at h2
        have : k * 2020 ≤ 60 * 2020 := Nat.mul_le_mul_right _ (by omega)
        omega
      clear hT hsm HT0
      by_cases hlt : i < n
      · have hlt' : (i : Int) < n := by omega
        have hil : i < l.length := by omega
        obtain ⟨bb, oo, s1, rfl, y0, y1, y2, y3, y5⟩ := HI.out.at_ i hil
        have HCl : Hid (∀ W, Below w.heap.size w W → W.cell? ⟨bb, oo + i * 4, none⟩ = some (.int .i64 l[i].kind) ∧ W.cell? ⟨bb, oo + i * 4 + 1, none⟩ = some (.int .i64 l[i].id) ∧ W.cell? ⟨bb, oo + i * 4 + 2, none⟩ = some (.int .i64 l[i].n) ∧ W.cell? ⟨bb, oo + i * 4 + 3, none⟩ = some (.slice s1.bo l[i].text.length s1.bcap)) := fun W hb => ⟨(hb.cell (p := ⟨bb, oo + i * 4, none⟩) (World.block_lt_of_cell? w _ y0)).trans y0, (hb.cell (p := ⟨bb, oo + i * 4 + 1, none⟩) (World.block_lt_of_cell? w _ y1)).trans y1, (hb.cell (p := ⟨bb, oo + i * 4 + 2, none⟩) (World.block_lt_of_cell? w _ y2)).trans y2, (hb.cell (p := ⟨bb, oo + i * 4 + 3, none⟩) (World.block_lt_of_cell? w _ y3)).trans y3⟩
        obtain ⟨x0, x1, x2, x3⟩ := HCl.out wr HT.out.below
        have HY5 := Hid.mk' y5
        have hst := kept_yes l i hil
        have hno := kept_no l i hil
        have HEc := Hid.mk' (encode_any l[i] s1.bo _ s1.bcap wr (y5.stay HT.out.below) rfl)
        have HEo := Hid.mk' (fun W => entryOf_any l[i].kind l[i].id l[i].n s1.bo l[i].text.length s1.bcap W)
        unfold EncPost at HEc
        clear y0 y1 y2 y3 y5
        generalize l[i] = q at *
        by_cases hbig : 2000 < q.text.length
        · have hbig' : (2000 : Int) < q.text.length := by omega
          generalize q.text.length = qn at *
          go_wp2
          go_ret
          exact ⟨rfl, HT.out.below⟩
        · have hbig' : ¬ (2000 : Int) < q.text.length := by omega
          cases hf : Jn.fits q with
          | false =>
            have HK := Hid.mk' (hno hf)
            have HEc2 : Hid (Calls Try.prog 8 #[.agg #[.int .i64 q.kind, .int .i64 q.id, .int .i64 q.n, .slice s1.bo q.text.length s1.bcap]] wr fun e w' => ∃ ao n cap, e = .returned (.tuple #[.slice ao n cap, .int .i64 1]) ∧ Below wr.heap.size wr w') := HEc.out.mono fun e w' h => by
              obtain ⟨ao, cap, h1, _, h3⟩ := h
              rw [encOut_no hf] at h1
              exact ⟨ao, _, cap, h1, h3⟩
            clear hf hst hno HEc
            generalize q.text.length = qn at *
            go_wp2_with (go_at_call 8; refine HEc2.out.mono ?_; rintro e w3 ⟨ao3, n3, ca3, rfl, hb3⟩; have HB3 := Hid.mk' hb3; clear hb3)
            go_roundw
            case rel => exact ⟨i + 1, m1, c1, c2, c3, k, a1, a2, a3, by omega, by go_num, rfl, rfl, rfl, by rw [HK.out]; exact HSm.out, by rw [HK.out]; exact HT.out.stay HB3.out⟩
            case measure => simp [intOf]; omega
          | true =>
            have HK := Hid.mk' (hst hf)
            have hel : (Jn.enc q).length ≤ 2020 := by have := Jn.enc_text hf; omega
            have HSn : Hid (∀ e ∈ kept l i ++ [q], e.text.length ≤ 2000) := fun e he => by
              rcases List.mem_append.1 he with he | he
              · exact HSm.out e he
              · rw [List.mem_singleton.1 he]; omega
            obtain ⟨el, hEl⟩ : ∃ el, (Jn.enc q).length = el := ⟨_, rfl⟩
            have HEc2 : Hid (Calls Try.prog 8 #[.agg #[.int .i64 q.kind, .int .i64 q.id, .int .i64 q.n, .slice s1.bo q.text.length s1.bcap]] wr fun e w' => ∃ ao cap, e = .returned (.tuple #[.slice ao el cap, .int .i64 0]) ∧ IsB w' ao cap (Jn.enc q) ∧ Below wr.heap.size wr w') := HEc.out.mono fun e w' h => by
              obtain ⟨ao, cap, h1, h2, h3⟩ := h
              rw [encOut_yes hf] at h1 h2
              exact ⟨ao, cap, by rw [h1, ← hEl]; rfl, h2.isB, h3⟩
            have HEl := Hid.mk' hEl
            have HQt : Hid (enC q ⟨s1.bo, s1.bcap⟩ = [.int .i64 q.kind, .int .i64 q.id, .int .i64 q.n, .slice s1.bo q.text.length s1.bcap]) := rfl
            rw [hEl] at hel
            clear hf hst hno HEc hEl
            generalize hqt : q.text.length = qn at *
            go_upto_region 15 with (go_at_call 8; refine HEc2.out.mono ?_; rintro e w3 ⟨ao3, ca3, rfl, hI3, hb3⟩; have HB3 := Hid.mk' hb3; have HI3 := Hid.mk' hI3; clear hb3 hI3)
            have HT3 := Hid.mk' (HT.out.stay HB3.out)
            go_upto_region 16 with (at_builtin; refine wpList_append_b rfl (.tmp 45) (.tmp 46) 22 rfl w.heap.size 5 i0 Try.underlying22 Hi.out Hz0.out Hz1.out Hz2.out (l := Jn.all (kept l i)) (l2 := Jn.enc q) rfl HT3.out.len HT3.out.bytes rfl HEl.out HI3.out (by omega) HT3.out.below.size ?_; intro a4 c4 w4 hO4 hG4; have h14 := HT3.out.one hG4; have HO4 := Hid.mk' hO4; have H14 := Hid.mk' h14; clear hO4 hG4 h14)
            obtain ⟨h4a, h4b, h4c⟩ := H14.out
            have hbA := (Below.refl _ w4).alloc (Nat.le_refl _) (.cells #[.int .i64 ((m1 : Int) + el)] 3)
            have HO4' := Hid.mk' (HO4.out.stay hbA); have H4a := Hid.mk' (h4a.stay hbA); have H4b := Hid.mk' (h4b.stay hbA); have H4c := Hid.mk' (then_ h4c hbA)
            have HN4 : Hid (IsV (w4.alloc (.cells #[.int .i64 ((m1 : Int) + el)] 3)) (some ⟨w4.heap.size, 0, none⟩) 1 1 [.int .i64 ((m1 : Int) + el)]) := IsV.made w4 _ 1 _ _
            have HZk : Hid (k + 1 ≤ 9223372036854775807 ∧ (k + 1) * 8 ≤ 140737488355328 ∧ (k + 1) * 48 ≤ 140737488355328) := ⟨by omega, by omega, by omega⟩
            clear h4a h4b h4c hbA H14 HO4 HT3 HI3 HB3
            go_upto_region 17 with (at_builtin; refine wpList_append_v rfl (.tmp 48) (.tmp 51) 40 rfl w.heap.size 3 k0 (.int .i64 0) 1 8 Try.underlying40 Hk.out Hx0.out Hx1.out Hx2.out rfl (by decide) rfl H4a.out rfl HN4.out rfl (one_int _) HZk.out.1 HZk.out.2.1 H4c.out.size ?_; intro a5 c5 w5 hO5 hG5 _; have h25 := TnAt.two HO4'.out H4a.out H4b.out H4c.out hG5; have HO5 := Hid.mk' hO5; have H25 := Hid.mk' h25; clear hO5 hG5 h25)
            obtain ⟨h5a, h5b, h5c⟩ := H25.out
            have H5a := Hid.mk' h5a; have H5b := Hid.mk' h5b; have H5c := Hid.mk' h5c
            obtain ⟨z0, z1, z2, z3⟩ := HCl.out w5 h5c
            clear h5a h5b h5c H25 HO4' H4a H4b H4c HN4 x0 x1 x2 x3
            have HCnt := Hid.mk' HT.out.cnt
            have HLen := Hid.mk' HT.out.len
            have HFin : Hid (∀ w6 a7 c7 w7 us, Below w5.heap.size w5 w6 → us.map (·.1) = kept l i → OwnV w5 w.heap.size 29 4 a3 c3 (kept l i).length (enV us) → (∀ x ∈ us, IsB w x.2.bo x.2.bcap x.1.text) → OwnV w7 w.heap.size 29 4 a7 c7 (k + 1) (enV us ++ enC q ⟨s1.bo, s1.bcap⟩) → (w6.alloc (.cells #[.int .i64 q.kind, .int .i64 q.id, .int .i64 q.n, .slice s1.bo qn s1.bcap] 29)).grownBy w7 (blockOf a3) → TnAt w (kept l i ++ [q]) a4 c4 (m1 + el) a5 c5 a7 c7 (k + 1) w7) := fun w6 a7 c7 w7 us hb6 hu1 hu2 hu3 hO7 hG7 => by
              have hbB : Below w5.heap.size w5 (w6.alloc (.cells #[.int .i64 q.kind, .int .i64 q.id, .int .i64 q.n, .slice s1.bo qn s1.bcap] 29)) := then_ hb6 ((Below.refl _ w6).alloc (Nat.le_refl _) _)
              obtain ⟨r1, r2, r3, r4⟩ := TnAt.three (H5a.out.stay hbB) (HO5.out.stay hbB) hu1 (hu2.stay hbB) hu3 HY5.out (then_ H5c.out hbB) (by rw [HCnt.out]; exact hO7) hG7
              refine ⟨by rw [all_one]; exact r1, by rw [all_one, List.length_append, HLen.out, HEl.out], ?_, r3, by rw [List.length_append, HCnt.out]; rfl, r4⟩
              rw [endsV_push, all_one, List.length_append, HLen.out, HEl.out]
              exact r2
            obtain ⟨us, hu1, hu2, hu3⟩ := H5b.out
            have HU := Hid.mk' (And.intro hu1 (And.intro hu2 hu3))
            have HN6 : Hid (∀ w6 : World, IsV (w6.alloc (.cells #[.int .i64 q.kind, .int .i64 q.id, .int .i64 q.n, .slice s1.bo qn s1.bcap] 29)) (some ⟨w6.heap.size, 0, none⟩) 1 1 (enC q ⟨s1.bo, s1.bcap⟩)) := fun w6 => by
              have := IsV.made w6 #[.int .i64 q.kind, .int .i64 q.id, .int .i64 q.n, .slice s1.bo qn s1.bcap] 1 29 (0, 0)
              rw [← hqt] at this ⊢; exact this
            have HU2 : Hid (∀ w6, Below w5.heap.size w5 w6 → OwnV (w6.alloc (.cells #[.int .i64 q.kind, .int .i64 q.id, .int .i64 q.n, .slice s1.bo qn s1.bcap] 29)) w.heap.size 29 4 a3 c3 k (enV us) ∧ w.heap.size ≤ (w6.alloc (.cells #[.int .i64 q.kind, .int .i64 q.id, .int .i64 q.n, .slice s1.bo qn s1.bcap] 29)).heap.size) := fun w6 hb6 => by
              have hbB := then_ hb6 ((Below.refl _ w6).alloc (Nat.le_refl _) (.cells #[.int .i64 q.kind, .int .i64 q.id, .int .i64 q.n, .slice s1.bo qn s1.bcap] 29))
              have := hu2.stay hbB
              rw [HCnt.out] at this
              exact ⟨this, by have := H5c.out.size; have := hbB.size; omega⟩
            clear hu1 hu2 hu3
            go_wp2_with (first
              | (go_at_call 10; refine (HEo.out _).mono ?_; rintro e w6 ⟨rfl, hb6⟩; have HB6 := Hid.mk' hb6; clear hb6)
              | (at_builtin; refine wpList_append_v rfl (.tmp 53) (.tmp 59) 34 rfl w.heap.size 29 j0 (.agg #[.int .i64 0, .int .i64 0, .int .i64 0, .slice none 0 0]) 4 48 Try.underlying34 Hj.out Hy0.out Hy1.out Hy2.out rfl (by decide) rfl (HU2.out w6 HB6.out).1 rfl (HN6.out w6) rfl (enC_one _ _) HZk.out.1 HZk.out.2.2 (HU2.out w6 HB6.out).2 ?_; intro a7 c7 w7 hO7 hG7 _; have HT7 := Hid.mk' (HFin.out w6 a7 c7 w7 us HB6.out HU.out.1 HU.out.2.1 HU.out.2.2 hO7 hG7); clear hO7 hG7))
            go_roundw
            case rel => exact ⟨i + 1, m1 + el, c4, c5, c7, k + 1, a4, a5, a7, by omega, by go_num, rfl, rfl, rfl, by rw [HK.out]; exact HSn.out, by rw [HK.out]; exact HT7.out⟩
            case measure => simp [intOf]; omega
      · obtain rfl : i = n := by omega
        have hkk : k ≤ 60 := by omega
        clear HI hlt hki
        go_upto_region 19 with fail
        obtain ⟨K, hK, hKm⟩ : ∃ K : Nat, wrap64 ((IntKind.u64.wrap cut).tmod ((m1 : Int) + 1)) = K ∧ K ≤ m1 := cut_at cut m1 (by omega)
        rw [hK]
        clear hK
        generalize hes : kept l i = es at *
        have hfit : ∀ e ∈ es, Jn.fits e = true := fun e he => kept_fits l i e (by rw [hes]; exact he)
        have hdec := Jn.dec_cut es K hfit
        have hwl := Jn.whole_le es K
        have HEw := Hid.mk' (Jn.endAt_whole es K)
        have HTk := Hid.mk' (fun j => all_take_le es j)
        clear hes HSm hfit
        generalize Jn.whole es K = wh at *
        have hT := HT.out
        have hk := hT.cnt
        have hc1 := hT.bytes.isB.1
        rw [hT.len] at hc1
        have hKc : (K : Int) ≤ c1 := by omega
        have hKm' : (K : Int) ≤ m1 := by omega
        have HDc : Hid (Calls Try.prog 11 #[.slice a1 K c1] wr fun e w' => ∃ ao ca, e = .returned (.tuple #[.slice ao wh ca, .int .i64 ((Jn.all (es.take wh)).length : Int)]) ∧ IsEns w' ao ca (es.take wh) ∧ Below wr.heap.size wr w') := (decode_any ((Jn.all es).take K) a1 c1 K wr (hT.bytes.isB.first K (by rw [hT.len]; exact hKm)) (by rw [List.length_take, hT.len]; omega) (by omega)).mono fun e w' h => by
          obtain ⟨ao, ca, h1, h2, h3⟩ := h
          rw [hdec] at h1 h2
          refine ⟨ao, ca, ?_, h2.isEns, h3⟩
          rw [h1, List.length_take, Nat.min_eq_left hwl]
        clear hT hdec
        go_upto_region 20 with (go_at_call 11; refine HDc.out.mono ?_; rintro e w3 ⟨gl, gc, rfl, hG3, hb3⟩; have HG3 := Hid.mk' hG3; have HT3 := Hid.mk' (HT.out.stay hb3); clear hG3 hb3)
        clear HDc HT
        have hc2 := HT3.out.ends.isV.1
        have hc3 := (HT3.out.want.isEns HT3.out.below).cap_
        go_wp2
        go_loopw [14, 15, 16] (fun vw va vi wr2 => ∃ (j : Nat), j ≤ k ∧ vi = .int .i64 j ∧ vw = .int .i64 ((min j wh : Nat) : Int) ∧ va = .int .i64 ((Jn.all (es.take (min j wh))).length : Int) ∧ wr2 = w3) (fun _ _ vi _ => k - (intOf vi).toNat)
        case atStart => exact ⟨0, Nat.zero_le _, rfl, by simp, by simp [Jn.all], rfl⟩
        case round =>
          obtain ⟨j, hj, rfl, rfl, rfl, hw⟩ := hrel
          subst hw
          by_cases hlt : j < k
          · have hlt' : (j : Int) < k := by omega
            have hje : j < es.length := by omega
            obtain ⟨eb, eo, rfl, hcs⟩ := HT3.out.ends.isV.lit (by rw [endsV_length]; omega)
            have hcj := hcs j _ (endsV_at es j hje)
            have hiff := HEw.out j hje
            clear hcs
            by_cases hjw : j < wh
            · have hle : (Jn.endAt es j : Int) ≤ K := by have := hiff.2 hjw; omega
              have em : min (j + 1) wh = j + 1 := by omega
              have em0 : min j wh = j := by omega
              have HEa : Hid ((Jn.all (es.take (j + 1))).length = Jn.endAt es j) := rfl
              have HLe : Hid (Jn.endAt es j ≤ 1000000) := by have := hiff.2 hjw; unfold Hid; omega
              rw [em0]
              generalize Jn.endAt es j = ej at *
              clear hiff
              go_wp2
              go_roundw
              case rel => exact ⟨j + 1, by omega, by go_num, by rw [em]; go_num, by rw [em, HEa.out], by first | rfl | trivial⟩
              case measure => simp [intOf]; omega
            · have hle : ¬ (Jn.endAt es j : Int) ≤ K := by
                intro e; exact hjw (hiff.1 (by omega))
              have em : min (j + 1) wh = min j wh := by omega
              generalize Jn.endAt es j = ej at *
              clear hiff
              generalize min j wh = mj at *
              go_wp2
              go_roundw
              case rel => exact ⟨j + 1, by omega, by go_num, by rw [em], by rw [em], by first | rfl | trivial⟩
              case measure => simp [intOf]; omega
          · obtain rfl : j = k := by omega
            have em0 : min j wh = wh := by omega
            rw [em0]
            have hIW := (HT3.out.want.isEns HT3.out.below).first wh hwl
            have HSe : Hid (Calls Try.prog 14 #[.slice gl wh gc, .slice a3 wh c3] wr fun e w' => e = .returned (.bool true) ∧ Below wr.heap.size wr w') := (sameEns_yes (es.take wh) gl a3 gc c3 wh wr HG3.out hIW (by rw [List.length_take]; omega) (by omega)).mono fun e w' ⟨h1, h2⟩ => ⟨h1, drewN_below h2⟩
            have i1 : (wh : Int) ≤ j := by omega
            have i2 : (wh : Int) ≤ c3 := by omega
            generalize (Jn.all (es.take wh)).length = al at *
            clear hIW
            go_wp2_with (go_at_call 14; refine HSe.out.mono ?_; rintro e w4 ⟨rfl, hb4⟩; have HB4 := Hid.mk' hb4; clear hb4)
            go_ret
            exact ⟨rfl, then_ HT3.out.below HB4.out⟩
end Go.Proofs.Ytankilclhknbkaa
