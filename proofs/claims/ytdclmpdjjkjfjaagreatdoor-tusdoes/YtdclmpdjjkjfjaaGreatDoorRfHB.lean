/- The document's own answer, walked: a Hold: Declare, Append. -/
import Derived.Test.YtdclmpdjjkjfjaaGreatDoorPk18
import Derived.Test.YtdclmpdjjkjfjaaGreatDoorPk20
namespace Go.Proofs.YtdclmpdjjkjfjaaGreatDoor
open Go.RowKit

set_option maxHeartbeats 800000 in
theorem declareH_any (s : Sp.St) (S : Nat → Prop) (g : Nat) (id sz : Int) (w : World) (h : HoldAt w S g s) (ok : Sp.Ok s) :
    Calls Tryz.prog 120 #[.pointer (some ⟨g, 0, none⟩), .int .i64 id, .int .i64 sz] w (Did S 50 w g (Sp.declare s id sz)) := by
  have hfew := ok.few
  have HI := Hid.mk' (atH_any s S g id w h (by omega))
  rw [Sp.declare_F]
  cases hp : Sp.place s.l id with
  | none =>
    rw [Sp.pl_none hp] at HI
    have HR : Hid (Did S 50 w g (Sp.atUp s id (Sp.decF s sz)) (.returned (.int .i64 (10 : Nat))) w) := Did.none_ h (Below.refl _ _) (Sp.atUp_none hp)
    clear hp h ok
    generalize Sp.atUp s id (Sp.decF s sz) = r at *
    go_enter Tryz.func120, Tryz.ntmps120
    go_wp2_with (go_at_call 34; refine HI.out.mono ?_; rintro e w1 ⟨rfl, hw⟩; rw [hw]; clear hw)
    go_ret
    exact HR.out
  | some i =>
    rw [Sp.pl_some hp] at HI
    have hi := Sp.place_lt hp
    have hat : Sp.atUp s id (Sp.decF s sz) = Sp.decF s sz i (s.l[i]'hi) := Sp.atUp_some hp
    rw [hat]
    clear hp hat
    obtain ⟨gu, hgu⟩ := RowAt.of h hi
    obtain ⟨q, h0, h1, h2, h3, h4, hf, hB⟩ := RowAt.up h hgu hi
    have hf1 := hf (i * 5 + 1)
    have hi' : (i : Int) < s.l.length := by omega
    by_cases hs : 0 ≤ s.l[i].size
    · have HR : Hid (Did S 50 w g (Sp.decF s sz i s.l[i]) (.returned (.int .i64 (18 : Nat))) w) := Did.none_ h (Below.refl _ _) (by unfold Sp.decF; rw [if_pos hs])
      have ts : decide (s.l[i].size ≥ 0) = true := by rw [decide_eq_true_eq]; exact hs
      obtain ⟨cap, hcap, hc⟩ := hgu
      clear h hf h0 h2 h3 h4 hB ok
      generalize Sp.decF s sz i s.l[i] = r at *
      generalize s.l[i].size = us at *
      go_enter Tryz.func120, Tryz.ntmps120
      go_wp2_with (go_at_call 34; refine HI.out.mono ?_; rintro e w1 ⟨rfl, hw⟩; rw [hw]; clear hw)
      go_ret
      exact HR.out
    · have ts : decide (s.l[i].size ≥ 0) = false := by rw [decide_eq_false_iff_not]; exact hs
      by_cases hneg : sz < 0
      · have HR : Hid (Did S 50 w g (Sp.decF s sz i s.l[i]) (.returned (.int .i64 (1 : Nat))) w) := Did.none_ h (Below.refl _ _) (by unfold Sp.decF; rw [if_neg hs, if_pos hneg])
        obtain ⟨cap, hcap, hc⟩ := hgu
        clear h hf h0 h2 h3 h4 hB ok
        generalize Sp.decF s sz i s.l[i] = r at *
        generalize s.l[i].size = us at *
        go_enter Tryz.func120, Tryz.ntmps120
        go_wp2_with (go_at_call 34; refine HI.out.mono ?_; rintro e w1 ⟨rfl, hw⟩; rw [hw]; clear hw)
        go_ret
        exact HR.out
      · have tn : decide (sz < 0) = false := by rw [decide_eq_false_iff_not]; exact hneg
        by_cases hbig : 2000 < sz
        · have HR : Hid (Did S 50 w g (Sp.decF s sz i s.l[i]) (.returned (.int .i64 (4 : Nat))) w) := Did.none_ h (Below.refl _ _) (by unfold Sp.decF; rw [if_neg hs, if_neg hneg, if_pos (Or.inl hbig)])
          have tb : decide (sz > 2000) = true := by rw [decide_eq_true_eq]; exact hbig
          obtain ⟨cap, hcap, hc⟩ := hgu
          clear h hf h0 h2 h4 hB ok
          generalize Sp.decF s sz i s.l[i] = r at *
          generalize s.l[i].size = us at *
          go_enter Tryz.func120, Tryz.ntmps120
          go_wp2_with (go_at_call 34; refine HI.out.mono ?_; rintro e w1 ⟨rfl, hw⟩; rw [hw]; clear hw)
          go_ret
          exact HR.out
        · have tb : decide (sz > 2000) = false := by rw [decide_eq_false_iff_not]; omega
          by_cases hlow : sz < s.l[i].bytes.length
          · have HR : Hid (Did S 50 w g (Sp.decF s sz i s.l[i]) (.returned (.int .i64 (4 : Nat))) w) := Did.none_ h (Below.refl _ _) (by unfold Sp.decF; rw [if_neg hs, if_neg hneg, if_pos (Or.inr hlow)])
            have tl : decide (sz < (s.l[i].bytes.length : Int)) = true := by rw [decide_eq_true_eq]; exact hlow
            obtain ⟨cap, hcap, hc⟩ := hgu
            clear h hf h0 h2 h4 hB ok
            generalize Sp.decF s sz i s.l[i] = r at *
            generalize s.l[i].size = us at *
            generalize s.l[i].bytes.length = bn at *
            go_enter Tryz.func120, Tryz.ntmps120
            go_wp2_with (go_at_call 34; refine HI.out.mono ?_; rintro e w1 ⟨rfl, hw⟩; rw [hw]; clear hw)
            go_ret
            exact HR.out
          · have HR : Hid (Did S 50 w g (Sp.decF s sz i s.l[i]) (.returned (.int .i64 0)) (w.setCell ⟨gu, i * 5 + 1, none⟩ (.int .i64 sz))) := Did.put (u := { s.l[i] with size := sz }) h hgu hi (by decide) (fun q => rfl) rfl (by unfold Sp.decF; rw [if_neg hs, if_neg hneg, if_neg (by omega)])
            have tl : decide (sz < (s.l[i].bytes.length : Int)) = false := by rw [decide_eq_false_iff_not]; omega
            obtain ⟨cap, hcap, hc⟩ := hgu
            clear h hf h0 h2 h4 hB ok
            generalize Sp.decF s sz i s.l[i] = r at *
            generalize s.l[i].size = us at *
            generalize s.l[i].bytes.length = bn at *
            go_enter Tryz.func120, Tryz.ntmps120
            go_wp2_with (go_at_call 34; refine HI.out.mono ?_; rintro e w1 ⟨rfl, hw⟩; rw [hw]; clear hw)
            go_ret
            exact HR.out
set_option maxRecDepth 100000 in
set_option maxHeartbeats 2000000 in
theorem appendH_any (s : Sp.St) (S : Nat → Prop) (g : Nat) (id off : Int) (bo2 : Option Addr) (n2 cap2 : Nat) (b : List UInt8) (w : World) (h : HoldAt w S g s) (ok : Sp.Ok s) (hb : IsB w bo2 cap2 b) (hn2 : b.length = n2) (hN : n2 ≤ 1000000) :
    Calls Tryz.prog 94 #[.pointer (some ⟨g, 0, none⟩), .int .i64 id, .int .i64 off, .slice bo2 n2 cap2] w (Did S 50 w g (Sp.append s id off b)) := by
  have hfew := ok.few; have hq := ok.quota
  have HI := Hid.mk' (atH_any s S g id w h (by omega))
  have HU := Hid.mk' (usedH_any s S g w h (by omega) (by omega))
  rw [Sp.append_F]
  cases hp : Sp.place s.l id with
  | none =>
    rw [Sp.pl_none hp] at HI
    have HR : Hid (Did S 50 w g (Sp.atUp s id (Sp.appF s off b)) (.returned (.int .i64 (10 : Nat))) w) := Did.none_ h (Below.refl _ _) (Sp.atUp_none hp)
    clear hp h ok
    generalize Sp.atUp s id (Sp.appF s off b) = r at *
    go_enter Tryz.func94, Tryz.ntmps94
    go_wp2_with (go_at_call 34; refine HI.out.mono ?_; rintro e w1 ⟨rfl, hw⟩; rw [hw]; clear hw)
    go_ret
    exact HR.out
  | some i =>
    rw [Sp.pl_some hp] at HI
    have hi := Sp.place_lt hp
    have hat : Sp.atUp s id (Sp.appF s off b) = Sp.appF s off b i (s.l[i]'hi) := Sp.atUp_some hp
    rw [hat]
    clear hp hat
    obtain ⟨gu, hgu⟩ := RowAt.of h hi
    obtain ⟨q, h3, hG, hKp, hK⟩ := Did.grow h hgu hi
    obtain ⟨_, h0, h1, h2, _, h4, hf, _⟩ := RowAt.up h hgu hi
    have hk := ok.all _ (List.getElem_mem hi)
    have k0 := hk.size0; have k1 := hk.size1; have k2 := hk.long
    have hi' : (i : Int) < s.l.length := by omega
    clear hk
    by_cases hs : s.l[i].sent = 0
    · have e1 : ¬ s.l[i].sent ≠ 0 := by simpa using hs
      rw [hs] at h4
      by_cases ho : off = s.l[i].bytes.length
      · have e2 : ¬ off ≠ s.l[i].bytes.length := by simpa using ho
        have hw1 : IntKind.i64.wrap ((s.l[i].bytes.length : Int) + n2) = (s.l[i].bytes.length : Int) + n2 := wrap_id (by omega) (by omega)
        by_cases hl1 : 2000 < s.l[i].bytes.length + n2
        · have HR : Hid (Did S 50 w g (Sp.appF s off b i s.l[i]) (.returned (.int .i64 (4 : Nat))) w) := Did.none_ h (Below.refl _ _) (by unfold Sp.appF; rw [if_neg e1, if_neg e2, if_pos (by rw [hn2]; exact Or.inl hl1)])
          have t1 : decide ((s.l[i].bytes.length : Int) + n2 > 2000) = true := by rw [decide_eq_true_eq]; omega
          obtain ⟨cap, hcap, hc⟩ := hgu
          clear h hf h0 h2 ok hs e1 e2 hK hKp hG HU
          generalize Sp.appF s off b i s.l[i] = r at *
          generalize s.l[i].size = us at *
          generalize s.l[i].bytes.length = bn at *
          subst ho
          go_enter Tryz.func94, Tryz.ntmps94
          go_wp2_with (go_at_call 34; refine HI.out.mono ?_; rintro e w1 ⟨rfl, hw⟩; rw [hw]; clear hw)
          go_ret
          exact HR.out
        · have t1 : decide ((s.l[i].bytes.length : Int) + n2 > 2000) = false := by rw [decide_eq_false_iff_not]; omega
          by_cases hl2 : 0 ≤ s.l[i].size ∧ s.l[i].size < (s.l[i].bytes.length : Int) + n2
          · have HR : Hid (Did S 50 w g (Sp.appF s off b i s.l[i]) (.returned (.int .i64 (4 : Nat))) w) := Did.none_ h (Below.refl _ _) (by unfold Sp.appF; rw [if_neg e1, if_neg e2, if_pos (by rw [hn2]; exact Or.inr hl2)])
            obtain ⟨l1, l2⟩ := hl2
            have t2 : decide (s.l[i].size ≥ 0) = true := by rw [decide_eq_true_eq]; exact l1
            have t3 : decide ((s.l[i].bytes.length : Int) + n2 > s.l[i].size) = true := by rw [decide_eq_true_eq]; exact l2
            obtain ⟨cap, hcap, hc⟩ := hgu
            clear h hf h0 h2 ok hs e1 e2 hK hKp hG HU
            generalize Sp.appF s off b i s.l[i] = r at *
            generalize s.l[i].size = us at *
            generalize s.l[i].bytes.length = bn at *
            subst ho
            go_enter Tryz.func94, Tryz.ntmps94
            go_wp2_with (go_at_call 34; refine HI.out.mono ?_; rintro e w1 ⟨rfl, hw⟩; rw [hw]; clear hw)
            go_ret
            exact HR.out
          · have e3 : ¬ (2000 < s.l[i].bytes.length + b.length ∨ (0 ≤ s.l[i].size ∧ s.l[i].size < (s.l[i].bytes.length : Int) + b.length)) := by rw [hn2]; omega
            have hw2 : IntKind.i64.wrap ((Sp.used s.l : Int) + n2) = (Sp.used s.l : Int) + n2 := wrap_id (by omega) (by omega)
            have t23 : (decide (s.l[i].size ≥ 0) = false) ∨ (decide (s.l[i].size ≥ 0) = true ∧ decide ((s.l[i].bytes.length : Int) + n2 > s.l[i].size) = false) := by
              by_cases l1 : 0 ≤ s.l[i].size
              · exact Or.inr ⟨by rw [decide_eq_true_eq]; exact l1, by rw [decide_eq_false_iff_not]; omega⟩
              · exact Or.inl (by rw [decide_eq_false_iff_not]; exact l1)
            by_cases hu : 6000 < Sp.used s.l + n2
            · have HR : Hid (Did S 50 w g (Sp.appF s off b i s.l[i]) (.returned (.int .i64 (16 : Nat))) w) := Did.none_ h (Below.refl _ _) (by unfold Sp.appF; rw [if_neg e1, if_neg e2, if_neg e3, if_pos (by rw [hn2]; exact hu)])
              have tu : decide ((Sp.used s.l : Int) + n2 > 6000) = true := by rw [decide_eq_true_eq]; omega
              obtain ⟨cap, hcap, hc⟩ := hgu
              clear h hf h0 h2 ok hs e1 e2 e3 hK hKp hG hl2
              generalize Sp.appF s off b i s.l[i] = r at *
              generalize s.l[i].size = us at *
              generalize s.l[i].bytes.length = bn at *
              generalize Sp.used s.l = ud at *
              subst ho
              rcases t23 with t2 | ⟨t2, t3⟩
              all_goals
                go_enter Tryz.func94, Tryz.ntmps94
                go_wp2_with (first | (go_at_call 34; refine HI.out.mono ?_; rintro e w1 ⟨rfl, hw⟩; rw [hw]; clear hw) | (go_at_call 127; refine HU.out.mono ?_; rintro e w1 ⟨rfl, hw⟩; rw [hw]; clear hw))
                go_ret
                exact HR.out
            · have tu : decide ((Sp.used s.l : Int) + n2 > 6000) = false := by rw [decide_eq_false_iff_not]; omega
              have HK : Hid (∀ w1 bo' bcap', GrowB w1 (fun k => blkB s.l[i].bytes q.bo = some k ∨ w.heap.size ≤ k) 5 bo' bcap' (s.l[i].bytes ++ b) → Turns (fun k => blkB s.l[i].bytes q.bo = some k) w w1 → Did S 50 w g (Sp.appF s off b i s.l[i]) (.returned (.int .i64 0)) (w1.setCell ⟨gu, i * 5 + 3, none⟩ (.slice bo' (s.l[i].bytes.length + n2) bcap'))) := fun w1 bo' bcap' hB hT => hK w1 bo' bcap' _ _ _ hB hT (by rw [List.length_append, hn2]) (by unfold Sp.appF; rw [if_neg e1, if_neg e2, if_neg e3, if_neg (by rw [hn2]; exact hu)])
              have HKp := Hid.mk' hKp
              have HIB := Hid.mk' hG.isB
              have HB := Hid.mk' hb
              have HN2 := Hid.mk' hn2
              obtain ⟨i0, hi0, hz0, hz1, hz2⟩ := info_parts info_u8
              have Hi := Hid.mk' hi0; have Hz0 := Hid.mk' hz0; have Hz1 := Hid.mk' hz1; have Hz2 := Hid.mk' hz2
              obtain ⟨cap, hcap, hc⟩ := hgu
              clear h hf h0 h2 ok hs e1 e2 e3 hK hKp hG hl2 hi0 hz0 hz1 hz2 hb hn2
              generalize Sp.appF s off b i s.l[i] = r at *
              generalize s.l[i].size = us at *
              generalize Sp.used s.l = ud at *
              generalize s.l[i].bytes = bs at *
              subst ho
              have HKw : Hid (∀ w2, Below w.heap.size w w2 → w2.cell? ⟨gu, i * 5 + 3, none⟩ = some (.slice q.bo bs.length q.bcap) ∧ w2.frozen? ⟨gu, i * 5 + 3, none⟩ = false) := fun w2 hb2 => HKp.out w2 (Turns.of_below hb2)
              rcases t23 with t2 | ⟨t2, t3⟩
              all_goals
                go_enter Tryz.func94, Tryz.ntmps94
                go_wp2_with (first
                  | (go_at_call 34; refine HI.out.mono ?_; rintro e w1 ⟨rfl, hw⟩; rw [hw]; clear hw)
                  | (go_at_call 127; refine HU.out.mono ?_; rintro e w1 ⟨rfl, hw⟩; rw [hw]; clear hw)
                  | (at_builtin; refine wpList_append_grown (S := fun _ => False) rfl (.tmp 67) (.tmp 71) 30 rfl 5 i0 Tryz.underlying30 Hi.out Hz0.out Hz1.out Hz2.out (l := []) rfl rfl (GrowB.nil _ _ _) rfl HIB.out rfl (by omega) ?_; intro ao3 cap3 w3 hO3 hT3; have hb3 : Below w.heap.size w w3 := (hT3.below (fun k e => by simp [blkB] at e) (Nat.le_refl _)); have HO3 := Hid.mk' hO3; have HB3 := Hid.mk' hb3; have HSr := Hid.mk' (HB.out.stay hb3); clear hO3 hT3 hb3)
                  | (at_builtin; refine wpList_append_grown rfl (.tmp 72) (.tmp 73) 30 rfl 5 i0 Tryz.underlying30 Hi.out Hz0.out Hz1.out Hz2.out rfl rfl HO3.out rfl HSr.out HN2.out (by omega) ?_; intro ao4 cap4 w4 hO4 hT4; have hk3 : ∀ k, blkB ([] ++ bs) ao3 = some k → w.heap.size ≤ k := fun k e => ((HO3.out.blk e).1.elim (fun e2 => by simp [blkB] at e2) (fun e2 => e2)); have hb4 : Below w.heap.size w w4 := HB3.out.trans (hT4.below hk3 HB3.out.size); have hO5 : GrowB w4 (fun k => blkB bs q.bo = some k ∨ w.heap.size ≤ k) 5 ao4 cap4 (bs ++ b) := hO4.to (fun k e _ _ => Or.inr (e.elim (hk3 k) (fun e2 => Nat.le_trans HB3.out.size e2))); obtain ⟨d4, f4⟩ := HKw.out w4 hb4; have HE := Hid.mk' (HK.out w4 ao4 cap4 hO5 (Turns.of_below hb4)); clear hO4 hT4 hO5 hb4 hk3))
                go_ret
                exact HE.out
      · have HR : Hid (Did S 50 w g (Sp.appF s off b i s.l[i]) (.returned (.int .i64 (17 : Nat))) w) := Did.none_ h (Below.refl _ _) (by unfold Sp.appF; rw [if_neg e1, if_pos ho])
        obtain ⟨cap, hcap, hc⟩ := hgu
        clear h hf h0 h2 ok hs e1 hK hKp hG HU
        generalize Sp.appF s off b i s.l[i] = r at *
        generalize s.l[i].bytes.length = bn at *
        go_enter Tryz.func94, Tryz.ntmps94
        go_wp2_with (go_at_call 34; refine HI.out.mono ?_; rintro e w1 ⟨rfl, hw⟩; rw [hw]; clear hw)
        go_ret
        exact HR.out
    · have HR : Hid (Did S 50 w g (Sp.appF s off b i s.l[i]) (.returned (.int .i64 (19 : Nat))) w) := Did.none_ h (Below.refl _ _) (by unfold Sp.appF; rw [if_pos hs])
      obtain ⟨cap, hcap, hc⟩ := hgu
      clear h hf h0 h2 ok hK hKp hG HU
      generalize Sp.appF s off b i s.l[i] = r at *
      generalize s.l[i].bytes.length = bn at *
      go_enter Tryz.func94, Tryz.ntmps94
      go_wp2_with (go_at_call 34; refine HI.out.mono ?_; rintro e w1 ⟨rfl, hw⟩; rw [hw]; clear hw)
      go_ret
      exact HR.out
end Go.Proofs.YtdclmpdjjkjfjaaGreatDoor
