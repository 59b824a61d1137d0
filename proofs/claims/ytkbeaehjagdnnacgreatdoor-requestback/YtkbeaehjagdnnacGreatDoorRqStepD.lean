/- Package request, walked: one byte more of a body in chunks that brings no byte of it. -/
import Derived.Test.YtkbeaehjagdnnacGreatDoorPk23
namespace Go.Proofs.YtkbeaehjagdnnacGreatDoor
open Go.RowKit

set_option maxRecDepth 100000 in
set_option maxHeartbeats 2000000 in
theorem feedBody_line (w : World) (S So : Nat → Prop) (g : Nat) (s : Rq.St) (c : UInt8) (ao : Option Addr) (cap n : Nat) (es : List Rq.Ev) (h : ReqAt w S g s) (hG : Rq.Good s) (hp : s.ph = 3) (hk1 : s.ck.ph ≠ 1) (hO : EvsAt w So ao cap es) (hd : ∀ k, S k → ¬ So k) (hn : es.length = n) (hl : n ≤ 90000) (hj : Rq.Joined es) (hf : Rq.Full es) (hz : Rq.bsum es ≤ 90000) :
    Calls Tryz.prog 26 #[.pointer (some ⟨g, 0, none⟩), .slice ao n cap, .int .u8 c.toNat] w fun e w' => FeedStep w S So g s c es e w' := by
  obtain ⟨hg, lp, hpp, bd, code, hP, hI⟩ := h
  cases hI with
  | dead c hc h4 => omega
  | at0 gl h0 L => omega
  | at1 gl gh D h1 L H => omega
  | at2 gl gb h2 L hb B => omega
  | at3 gl gb D h3 L B =>
    obtain ⟨kg, k0, k4⟩ := hG.ck hp
    have c3 := hP.c3
    have hglt := hP.lt
    have hC := feedChunks_any w (fun k => ((S k ∧ k ≠ g) ∧ D k) ∧ k < w.heap.size) gb s.ck c (B.mono (fun k hk e => ⟨e, hk⟩)) kg
    have ho : Ck.out s.ck c = [] := by unfold Ck.out; rw [if_neg (fun e => hk1 e.2)]
    have hov : Ck.over s.ck c = decide ((Ck.next s.ck c).code = 0 ∧ (Ck.next s.ck c).ph = 4) := by unfold Ck.over; rw [decide_eq_decide]; exact ⟨fun e => ⟨e.2.2.1, e.2.2.2⟩, fun e => ⟨k0, k4, e.1, e.2⟩⟩
    have hC2 : Calls Tryz.prog 161 #[.pointer (some ⟨gb, 0, none⟩), .int .u8 c.toNat] w fun e w' => ∃ bo bc, e = .returned (.tuple #[.slice bo 0 bc, .bool (decide ((Ck.next s.ck c).code = 0 ∧ (Ck.next s.ck c).ph = 4)), .int .i64 ((Ck.next s.ck c).code : Int)]) ∧ CkAt w' (orNew (fun k => ((S k ∧ k ≠ g) ∧ D k) ∧ k < w.heap.size) w) gb (Ck.next s.ck c) ∧ Turns (fun k => ((S k ∧ k ≠ g) ∧ D k) ∧ k < w.heap.size) w w' := by
      refine hC.mono ?_
      rintro e w' ⟨bo, bc, he, _, hC', hT'⟩
      refine ⟨bo, bc, ?_, hC', hT'⟩
      rw [he, ho, hov]; rfl
    have hm : ∀ w, (method 295 122 (.pointer (some ⟨gb, 0, none⟩)) "Feed").run Tryz.prog w = .ok (161, .pointer (some ⟨gb, 0, none⟩)) w := fun _ => by kernel_rfl
    have hN : Rq.next s c = if (Ck.next s.ck c).code ≠ 0 then (Rq.dead s, [.fail (Ck.next s.ck c).code]) else if (Ck.next s.ck c).ph = 4 then ({ s with ph := 0 }, [.fin]) else ({ s with ck := Ck.next s.ck c }, []) := by
      unfold Rq.next
      rw [if_neg (by omega), if_neg (by omega), if_pos hp, ho]
      rfl
    have HX : Hid (PsAt w g (.pointer (some ⟨gl, 0, none⟩)) (.pointer none) false (.iface 122 (.pointer (some ⟨gb, 0, none⟩))) 0 ∧ LineAt w (fun k => ((S k ∧ k ≠ g) ∧ ¬ D k) ∧ k < w.heap.size) gl s.ln ∧ (∀ k, S k → ¬ So k) ∧ S g) :=
      ⟨hP, L.mono (fun k hk e => ⟨e, hk⟩), hd, hg⟩
    have HOs := Hid.mk' (hO.mono (S' := fun k => So k ∧ k < w.heap.size) (fun k hk e => ⟨e, hk⟩))
    have HE := Hid.mk' (And.intro hn (And.intro hl (And.intro hj (And.intro hf hz))))
    have HC := Hid.mk' hC2
    clear hG hj hf hz hO hd L B hP hg hn kg k0 k4 h3 hC hC2 ho hov hk1
    generalize Ck.next s.ck c = ck' at *
    by_cases hc0 : ck'.code = 0
    · rw [if_neg (fun e => e hc0)] at hN
      by_cases h4 : ck'.ph = 4
      · rw [if_pos h4] at hN
        rw [decide_eq_true ⟨hc0, h4⟩, hc0] at HC
        have HN := Hid.mk' hN
        clear hN hc0 h4
        go_enter Tryz.func26, Tryz.ntmps26
        go_wp2_with (go_at_call 161; refine HC.out.mono ?_; rintro e w1 ⟨bo, bc, rfl, hB1, hT1⟩; have hP1 := HX.out.1.turns hT1 (fun e => e.1.1.2 rfl); have p3 := hP1.c3; have pf3 := hP1.fz 3; have HP1 := Hid.mk' hP1; have HT1 := Hid.mk' hT1; clear hB1 hT1 hP1)
        obtain ⟨hn, hl, hj, hf, hz⟩ := HE.out
        obtain ⟨hP, hL, hd, hg⟩ := HX.out
        have hTg := Turns.setCell (fun k => k = g) w1 ⟨g, 3, none⟩ .nilIface rfl
        have hE1 := (HOs.out.turns HT1.out (fun k e e2 => hd k e2.1.1.1 e.1)).turns hTg (fun k e e2 => hd g hg (e2 ▸ e.1))
        refine (add_fin _ _ ao cap n _ hE1 hn (by omega) hj hf (by omega)).mono ?_
        rintro e w4 ⟨ao4, cap4, n4, rfl, hn4, hO4, hT4⟩
        have HN4 := Hid.mk' hn4; have HO4 := Hid.mk' hO4; have HT4 := Hid.mk' hT4
        clear hn hl hj hf hz hP hL hd hg hTg hE1 hn4 hO4 hT4
        go_wp2
        go_ret
        obtain ⟨hP, hL, hd, hg⟩ := HX.out
        have hs1 := HT1.out.size
        have hz3 : (w1.setCell ⟨g, 3, none⟩ .nilIface).heap.size = w1.heap.size := by simp
        have hTg := Turns.setCell (fun k => k = g) w1 ⟨g, 3, none⟩ .nilIface rfl
        have hP4 := (HP1.out.s3 .nilIface).turns HT4.out (fun e => hd g hg e.1)
        have hL4 := ((hL.turns HT1.out (fun k e e2 => e.1.2 e2.1.2)).turns hTg (fun k e => e.1.1.2)).turns HT4.out (fun k e e2 => hd k e.1.1.1 e2.1)
        refine .mk ao4 cap4 n4 (fun k => S k ∧ k < w.heap.size) _ rfl (by rw [HN.out]; exact HN4.out) ?_ (by rw [HN.out]; exact HO4.out) ?_ (fun k e => Or.inl e.1) ?_ ?_
        · rw [HN.out]
          exact ⟨⟨hg, hglt⟩, _, _, _, _, hP4, .at0 gl rfl (hL4.mono (fun k _ e => ⟨⟨e.1.1.1, e.2⟩, e.1.1.2⟩))⟩
        · intro k e e2
          rcases e2 with e2 | e2 | e2
          · exact hd k e.1 e2.1
          · exact e2
          · omega
        · intro k e
          rcases e with e | e | e
          · exact Or.inr (Or.inl e.1)
          · exact e.elim
          · exact Or.inr (Or.inr (by omega))
        · exact (HT1.out.mono (fun k e => Or.inl e.1.1.1)).trans ((hTg.mono (fun k e => by rw [e]; exact Or.inl hg)).trans (HT4.out.mono (fun k e => Or.inr e.1)) (fun _ e _ => e)) (fun _ e _ => e)
      · rw [if_neg h4] at hN
        rw [decide_eq_false (fun e => h4 e.2), hc0] at HC
        have HN := Hid.mk' hN
        clear hN hc0 h4
        go_enter Tryz.func26, Tryz.ntmps26
        go_wp2_with (go_at_call 161; refine HC.out.mono ?_; rintro e w1 ⟨bo, bc, rfl, hB1, hT1⟩; have HB1 := Hid.mk' hB1; have HT1 := Hid.mk' hT1; clear hB1 hT1)
        go_ret
        obtain ⟨hn, hl, hj, hf, hz⟩ := HE.out
        obtain ⟨hP, hL, hd, hg⟩ := HX.out
        have hs1 := HT1.out.size
        have hej : Rq.join (es ++ (Rq.next s c).2) = es := by rw [HN.out, List.append_nil]; exact Rq.join_of_joined es hj
        refine .mk ao cap n (fun k => (S k ∧ k < w.heap.size) ∨ w.heap.size ≤ k) (fun k => So k ∧ k < w.heap.size) rfl (by rw [hej]; exact hn.symm) ?_ (by rw [hej]; exact HOs.out.turns HT1.out (fun k e e2 => hd k e2.1.1.1 e.1)) ?_ ?_ (fun k e => Or.inr (Or.inl e.1)) (HT1.out.mono (fun k e => Or.inl e.1.1.1))
        · rw [HN.out]
          refine ⟨Or.inl ⟨hg, hglt⟩, _, _, _, _, hP.turns HT1.out (fun e => e.1.1.2 rfl), .at3 gl gb (fun k => D k ∨ w.heap.size ≤ k) hp ((hL.turns HT1.out (fun k e e2 => e.1.2 e2.1.2)).mono (fun k _ e => ⟨⟨Or.inl ⟨e.1.1.1, e.2⟩, e.1.1.2⟩, fun e2 => ?_⟩)) (HB1.out.mono (fun k _ e => ?_))⟩
          · rcases e2 with e2 | e2
            · exact e.1.2 e2
            · have := e.2; omega
          · rcases e with e | e
            · exact ⟨⟨Or.inl ⟨e.1.1.1, e.2⟩, e.1.1.2⟩, Or.inl e.1.2⟩
            · exact ⟨⟨Or.inr e, by omega⟩, Or.inr e⟩
        · intro k e e2
          rcases e with e | e
          · exact hd k e.1 e2.1
          · omega
        · intro k e
          rcases e with e | e
          · exact Or.inl e.1
          · exact Or.inr e
    · rw [if_pos hc0] at hN
      rw [decide_eq_false (fun e => hc0 e.1)] at HC
      have HN := Hid.mk' hN
      have tc : ((ck'.code : Int) != 0) = true := by rw [bne_iff_ne]; omega
      have HCn := Hid.mk' hc0
      clear hN hc0
      generalize ck'.code = cc at *
      go_enter Tryz.func26, Tryz.ntmps26
      go_wp2_with (go_at_call 161; refine HC.out.mono ?_; rintro e w1 ⟨bo, bc, rfl, hB1, hT1⟩; have HT1 := Hid.mk' hT1; clear hB1 hT1)
      obtain ⟨hn, hl, hj, hf, hz⟩ := HE.out
      obtain ⟨hP, hL, hd, hg⟩ := HX.out
      refine (fail_any w1 g _ _ _ _ _ (fun k => So k ∧ k < w.heap.size) ao cap n cc es (hP.turns HT1.out (fun e => e.1.1.2 rfl)) (HOs.out.turns HT1.out (fun k e e2 => hd k e2.1.1.1 e.1)) (fun e => hd g hg e.1) hn (by omega) hj hf (by omega)).mono ?_
      rintro e w2 ⟨ao2, cap2, n2, rfl, hn2, hO2, hP2, hT2⟩
      have HN2 := Hid.mk' hn2; have HO2 := Hid.mk' hO2; have HP2 := Hid.mk' hP2; have HT2 := Hid.mk' hT2
      clear hn hl hj hf hz hP hL hd hg hn2 hO2 hP2 hT2
      go_wp2
      go_ret
      obtain ⟨hP, hL, hd, hg⟩ := HX.out
      have hs1 := HT1.out.size
      refine .mk ao2 cap2 n2 (fun k => k = g) _ rfl (by rw [HN.out]; exact HN2.out) ?_ (by rw [HN.out]; exact HO2.out) ?_ (fun k e => by rw [e]; exact Or.inl hg) ?_ ?_
      · rw [HN.out]
        exact ⟨rfl, _, _, _, _, HP2.out, .dead cc HCn.out rfl⟩
      · intro k e e2
        subst e
        rcases e2 with e2 | e2
        · exact hd k hg e2.1
        · omega
      · intro k e
        rcases e with e | e
        · exact Or.inr (Or.inl e.1)
        · exact Or.inr (Or.inr (by omega))
      · refine (HT1.out.mono (fun k e => Or.inl e.1.1.1)).trans (HT2.out.mono (fun k e => ?_)) (fun _ e _ => e)
        rcases e with e | e
        · exact Or.inr e.1
        · rw [e]; exact Or.inl hg
end Go.Proofs.YtkbeaehjagdnnacGreatDoor
