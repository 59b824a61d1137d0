/- Small texts, one behind the other: RqStep, RqStepC, RqStepD, StAny. -/
import Derived.Test.YtbcmlolaihnalacGreatDoorPk15
import Derived.Test.YtbcmlolaihnalacGreatDoorPk2
import Derived.Test.YtbcmlolaihnalacGreatDoorShelf
import Derived.Test.YtbcmlolaihnalacGreatDoorPk5
import Derived.Laws.RangeAny
import Derived.Laws.Runes
import Derived.Lib.IndexAny
import Derived.Handy
import Derived.WalkMore
import Derived.Deep.RegionHeld3
/- Package request, walked: one byte more of a body. -/
namespace Go.Proofs.YtbcmlolaihnalacGreatDoor
open Go.RowKit

/-- what a byte comes to -/
inductive FeedStep (w : World) (S So : Nat → Prop) (g : Nat) (s : Rq.St) (c : UInt8) (es : List Rq.Ev) (e : Ending) (w' : World) : Prop
  | mk (ao : Option Addr) (cap n : Nat) (S' So' : Nat → Prop) (he : e = .returned (.slice ao n cap)) (hn : n = (Rq.join (es ++ (Rq.next s c).2)).length) (hR : ReqAt w' S' g (Rq.next s c).1) (hO : EvsAt w' So' ao cap (Rq.join (es ++ (Rq.next s c).2)))
      (hd : ∀ k, S' k → ¬ So' k) (hS : ∀ k, S' k → S k ∨ w.heap.size ≤ k) (hSo : ∀ k, So' k → S k ∨ So k ∨ w.heap.size ≤ k) (hT : Turns (fun k => S k ∨ So k) w w')

theorem added {es : List Rq.Ev} {e : Rq.Ev} {n m : Nat} (hn : es.length = n) (hm : m = (Rq.join (es ++ [e])).length) (hb : ∀ a, e = .body a → a ≠ [] ∧ a.length ≤ 1) (hf : Rq.Full es) :
    m ≤ n + 1 ∧ Rq.bsum (Rq.join (es ++ [e])) ≤ Rq.bsum es + 1 ∧ Rq.Full (Rq.join (es ++ [e])) ∧ Rq.Joined (Rq.join (es ++ [e])) := by
  have h1 := Rq.join_length (es ++ [e])
  rw [List.length_append] at h1
  refine ⟨by simp at h1; omega, ?_, Rq.join_full _ (Rq.full_append hf (fun a ha => ?_)), Rq.joined_join _⟩
  · rw [Rq.join_bsum, Rq.bsum_append]
    cases e with
    | body a => have := (hb a rfl).2; simp only [Rq.bsum]; omega
    | head _ => simp [Rq.bsum]
    | fin => simp [Rq.bsum]
    | fail _ => simp [Rq.bsum]
  · simp at ha; exact (hb a ha.symm).1
/-- the parser's line stays through it all -/
theorem line_stays {w w1 w2 : World} {A B C : Nat → Prop} {gl : Nat} {l : Ln.St} (h : LineAt w C gl l) (h1 : Turns A w w1) (h2 : Turns B w1 w2) (hA : ∀ k, C k → ¬ A k) (hB : ∀ k, C k → ¬ B k) : LineAt w2 C gl l := (h.turns h1 hA).turns h2 hB

set_option maxRecDepth 100000 in
set_option maxHeartbeats 2000000 in
theorem feedBody_count (w : World) (S So : Nat → Prop) (g : Nat) (s : Rq.St) (c : UInt8) (ao : Option Addr) (cap n : Nat) (es : List Rq.Ev) (h : ReqAt w S g s) (hG : Rq.Good s) (hp : s.ph = 2) (hO : EvsAt w So ao cap es) (hd : ∀ k, S k → ¬ So k) (hn : es.length = n) (hl : n ≤ 90000) (hj : Rq.Joined es) (hf : Rq.Full es) (hz : Rq.bsum es ≤ 90000) :
    Calls Tryz.prog 21 #[.pointer (some ⟨g, 0, none⟩), .slice ao n cap, .int .u8 c.toNat] w fun e w' => FeedStep w S So g s c es e w' := by
  obtain ⟨hg, lp, hpp, bd, code, hP, hI⟩ := h
  cases hI with
  | dead c hc h4 => omega
  | at0 gl h0 L => omega
  | at1 gl gh D h1 L H => omega
  | at3 gl gb D h3 L B => omega
  | at2 gl gb h2 L hb B =>
    obtain ⟨l0, l1⟩ := hG.left hp
    have c3 := hP.c3
    have hgb : gb < w.heap.size := (Array.getElem?_eq_some_iff.1 B).1
    have hglt := hP.lt
    have HC := Hid.mk' (counted_any w gb s.left c B l0 l1)
    have hm : ∀ w, (method 282 107 (.pointer (some ⟨gb, 0, none⟩)) "Feed").run Tryz.prog w = .ok (148, .pointer (some ⟨gb, 0, none⟩)) w := fun _ => by kernel_rfl
    have HX : Hid (ReqAt w S g s ∧ PsAt w g (.pointer (some ⟨gl, 0, none⟩)) (.pointer none) false (.iface 107 (.pointer (some ⟨gb, 0, none⟩))) 0 ∧ LineAt w (fun k => ((S k ∧ k ≠ g) ∧ k ≠ gb) ∧ k < w.heap.size) gl s.ln ∧ (S gb ∧ gb ≠ g) ∧ (∀ k, S k → ¬ So k) ∧ S g) :=
      ⟨⟨hg, _, _, _, _, hP, .at2 gl gb h2 L hb B⟩, hP, L.mono (fun k hk e => ⟨e, hk⟩), hb, hd, hg⟩
    have HOs := Hid.mk' (hO.mono (S' := fun k => So k ∧ k < w.heap.size) (fun k hk e => ⟨e, hk⟩))
    have HE := Hid.mk' (And.intro hn (And.intro hl (And.intro hj (And.intro hf hz))))
    have HLl := Hid.mk' (And.intro l0 l1)
    have hdead : s.ph ≠ 4 := by omega
    have HN : Hid (Rq.next s c = if s.left ≤ 1 then ({ s with ph := 0, left := 0 }, [.body [c], .fin]) else ({ s with left := s.left - 1 }, [.body [c]])) := by
      unfold Hid Rq.next; rw [if_neg hdead, if_pos hp]
    clear hG hj hf hz hO hd L hb B hP hg hn l0 l1 hdead h2
    by_cases hov : s.left ≤ 1
    · rw [decide_eq_true hov] at HC
      have HV := Hid.mk' hov
      clear hov
      go_enter Tryz.func21, Tryz.ntmps21
      go_wp2_with (go_at_call 148; refine HC.out.mono ?_; rintro e w1 ⟨rfl, hB1, hO1, hT1⟩; have HB1 := Hid.mk' hB1; have HO1 := Hid.mk' hO1; have HT1 := Hid.mk' hT1; clear hB1 hO1 hT1)
      obtain ⟨hn, hl, hj, hf, hz⟩ := HE.out
      obtain ⟨_, hP, hL, hb, hd, hg⟩ := HX.out
      have hgrow : GrowB w1 (fun k => k = w.heap.size) 5 (some ⟨w.heap.size, 0, none⟩) 1 [c] := Or.inl ⟨by simp, HO1.out, fun a e => by injection e with e; subst e; rfl⟩
      have hE1 := HOs.out.turns HT1.out (fun k e e2 => hd gb hb.1 (e2 ▸ e.1))
      refine (add_body w1 (fun k => So k ∧ k < w.heap.size) (fun k => k = w.heap.size) ao _ cap n 1 1 [c] es hE1 hgrow (by simp) rfl (by omega) (fun k e e2 => by omega) hn (by omega) hj hf (by omega)).mono ?_
      rintro e w2 ⟨ao2, cap2, n2, rfl, hn2, hO2, hT2⟩
      have hadd := added hn hn2 (fun a e => by injection e with e; subst e; exact ⟨by simp, by simp⟩) hf
      have hP2 : PsAt w2 g _ _ _ _ _ := (hP.turns HT1.out (fun e => hb.2 e.symm)).turns hT2 (fun e => hd g hg e.1)
      have p3 := hP2.c3
      have pf3 := hP2.fz 3
      have HP2 := Hid.mk' hP2; have HO2 := Hid.mk' hO2; have HT2 := Hid.mk' hT2; have HAd := Hid.mk' hadd; have HN2 := Hid.mk' hn2
      clear hn hl hj hf hz hP hL hb hd hg hgrow hE1 hn2 hO2 hT2 hadd hP2 c3
      go_wp2_with fail
      obtain ⟨hn, hl, hj, hf, hz⟩ := HE.out
      obtain ⟨_, hP, hL, hb, hd, hg⟩ := HX.out
      obtain ⟨a1, a2, a3, a4⟩ := HAd.out
      have hs1 := HT1.out.size
      have hs2 := HT2.out.size
      have hTg := Turns.setCell (fun k => k = g) w2 ⟨g, 3, none⟩ .nilIface rfl
      have hE3 := HO2.out.turns hTg (fun k e e2 => by
        subst e2
        rcases e with e | e | e
        · exact hd k hg e.1
        · omega
        · omega)
      refine (add_fin _ _ ao2 cap2 n2 _ hE3 HN2.out.symm (by omega) a4 a3 (by omega)).mono ?_
      rintro e w4 ⟨ao4, cap4, n4, rfl, hn4, hO4, hT4⟩
      have HN4 := Hid.mk' hn4; have HO4 := Hid.mk' hO4; have HT4 := Hid.mk' hT4
      clear hn hl hj hf hz hP hL hb hd hg hTg hE3 hn4 hO4 hT4 a1 a2 a3 a4 hs1 hs2
      go_wp2
      go_ret
      obtain ⟨hn, hl, hj, hf, hz⟩ := HE.out
      obtain ⟨_, hP, hL, hb, hd, hg⟩ := HX.out
      have hs1 := HT1.out.size
      have hs2 := HT2.out.size
      have hz3 : (w2.setCell ⟨g, 3, none⟩ .nilIface).heap.size = w2.heap.size := by simp
      have hN := HN.out
      rw [if_pos HV.out] at hN
      have hj2 : Rq.join (Rq.join (es ++ [.body [c]]) ++ [.fin]) = Rq.join (es ++ (Rq.next s c).2) := by rw [hN]; exact Rq.join_two es [.body [c]] [.fin]
      have hTg := Turns.setCell (fun k => k = g) w2 ⟨g, 3, none⟩ .nilIface rfl
      have hP4 := (HP2.out.s3 .nilIface).turns HT4.out (fun e => by
        rcases e with e | e | e
        · exact hd g hg e.1
        · omega
        · omega)
      have hL4 := ((line_stays hL HT1.out HT2.out (fun k e => e.1.2) (fun k e e2 => hd k e.1.1.1 e2.1)).turns hTg (fun k e => e.1.1.2)).turns HT4.out (fun k e e2 => by
        rcases e2 with e2 | e2 | e2
        · exact hd k e.1.1.1 e2.1
        · have := e.2; omega
        · have := e.2; omega)
      refine .mk ao4 cap4 n4 (fun k => S k ∧ k < w.heap.size) _ rfl (by rw [← hj2]; exact HN4.out) ?_ (by rw [← hj2]; exact HO4.out) ?_ (fun k e => Or.inl e.1) ?_ ?_
      · rw [hN]
        exact ⟨⟨hg, hglt⟩, _, _, _, _, hP4, .at0 gl rfl (hL4.mono (fun k _ e => ⟨⟨e.1.1.1, e.2⟩, e.1.1.2⟩))⟩
      · intro k e e2
        rcases e2 with (e2 | e2 | e2) | e2 | e2
        · exact hd k e.1 e2.1
        · omega
        · omega
        · exact e2
        · omega
      · intro k e
        rcases e with (e | e | e) | e | e
        · exact Or.inr (Or.inl e.1)
        · exact Or.inr (Or.inr (by omega))
        · exact Or.inr (Or.inr (by omega))
        · exact e.elim
        · exact Or.inr (Or.inr (by omega))
      · refine (HT1.out.mono (fun k e => by rw [e]; exact Or.inl hb.1)).trans ((HT2.out.mono (S' := fun k => (S k ∨ So k) ∨ w.heap.size ≤ k) (fun k e => Or.inl (Or.inr e.1))).trans ((hTg.mono (fun k e => by rw [e]; exact Or.inl (Or.inl hg))).trans (HT4.out.mono (fun k e => ?_)) (fun _ e _ => e)) (fun _ e _ => e)) (fun k e hk => ?_)
        · rcases e with e | e | e
          · exact Or.inl (Or.inr e.1)
          · exact Or.inr (by omega)
          · exact Or.inr (by omega)
        · rcases e with e | e
          · exact e
          · omega
    · rw [decide_eq_false hov] at HC
      have HV := Hid.mk' hov
      clear hov
      go_enter Tryz.func21, Tryz.ntmps21
      go_wp2_with (go_at_call 148; refine HC.out.mono ?_; rintro e w1 ⟨rfl, hB1, hO1, hT1⟩; have HB1 := Hid.mk' hB1; have HO1 := Hid.mk' hO1; have HT1 := Hid.mk' hT1; clear hB1 hO1 hT1)
      obtain ⟨hn, hl, hj, hf, hz⟩ := HE.out
      obtain ⟨_, hP, hL, hb, hd, hg⟩ := HX.out
      have hgrow : GrowB w1 (fun k => k = w.heap.size) 5 (some ⟨w.heap.size, 0, none⟩) 1 [c] := Or.inl ⟨by simp, HO1.out, fun a e => by injection e with e; subst e; rfl⟩
      have hE1 := HOs.out.turns HT1.out (fun k e e2 => hd gb hb.1 (e2 ▸ e.1))
      refine (add_body w1 (fun k => So k ∧ k < w.heap.size) (fun k => k = w.heap.size) ao _ cap n 1 1 [c] es hE1 hgrow (by simp) rfl (by omega) (fun k e e2 => by omega) hn (by omega) hj hf (by omega)).mono ?_
      rintro e w2 ⟨ao2, cap2, n2, rfl, hn2, hO2, hT2⟩
      have HO2 := Hid.mk' hO2; have HT2 := Hid.mk' hT2; have HN2 := Hid.mk' hn2
      clear hn hl hj hf hz hP hL hb hd hg hgrow hE1 hn2 hO2 hT2 c3
      go_wp2
      go_ret
      obtain ⟨hn, hl, hj, hf, hz⟩ := HE.out
      obtain ⟨_, hP, hL, hb, hd, hg⟩ := HX.out
      have hs1 := HT1.out.size
      have hN := HN.out
      rw [if_neg HV.out] at hN
      have hP2 := (hP.turns HT1.out (fun e => hb.2 e.symm)).turns HT2.out (fun e => hd g hg e.1)
      have hB2 := HT2.out.row HB1.out (fun e => hd gb hb.1 e.1)
      have hL2 := line_stays hL HT1.out HT2.out (fun k e => e.1.2) (fun k e e2 => hd k e.1.1.1 e2.1)
      refine .mk ao2 cap2 n2 (fun k => S k ∧ k < w.heap.size) _ rfl (by rw [hN]; exact HN2.out) ?_ (by rw [hN]; exact HO2.out) ?_ (fun k e => Or.inl e.1) ?_ ?_
      · rw [hN]
        exact ⟨⟨hg, hglt⟩, _, _, _, _, hP2, .at2 gl gb hp (hL2.mono (fun k _ e => ⟨⟨⟨e.1.1.1, e.2⟩, e.1.1.2⟩, e.1.2⟩)) ⟨⟨hb.1, hgb⟩, hb.2⟩ hB2⟩
      · intro k e e2
        rcases e2 with e2 | e2 | e2
        · exact hd k e.1 e2.1
        · omega
        · omega
      · intro k e
        rcases e with e | e | e
        · exact Or.inr (Or.inl e.1)
        · exact Or.inr (Or.inr (by omega))
        · exact Or.inr (Or.inr (by omega))
      · exact (HT1.out.mono (fun k e => by rw [e]; exact Or.inl hb.1)).trans (HT2.out.mono (fun k e => Or.inr e.1)) (fun _ e _ => e)
end Go.Proofs.YtbcmlolaihnalacGreatDoor

/- Package request, walked: one byte more of a body in chunks. -/
namespace Go.Proofs.YtbcmlolaihnalacGreatDoor
open Go.RowKit

set_option maxRecDepth 100000 in
set_option maxHeartbeats 2000000 in
/-- a byte of a chunk -/
theorem feedBody_byte (w : World) (S So : Nat → Prop) (g : Nat) (s : Rq.St) (c : UInt8) (ao : Option Addr) (cap n : Nat) (es : List Rq.Ev) (h : ReqAt w S g s) (hG : Rq.Good s) (hp : s.ph = 3) (hk1 : s.ck.ph = 1) (hO : EvsAt w So ao cap es) (hd : ∀ k, S k → ¬ So k) (hn : es.length = n) (hl : n ≤ 90000) (hj : Rq.Joined es) (hf : Rq.Full es) (hz : Rq.bsum es ≤ 90000) :
    Calls Tryz.prog 21 #[.pointer (some ⟨g, 0, none⟩), .slice ao n cap, .int .u8 c.toNat] w fun e w' => FeedStep w S So g s c es e w' := by
  obtain ⟨hg, lp, hpp, bd, code, hP, hI⟩ := h
  cases hI with
  | dead c hc h4 => omega
  | at0 gl h0 L => omega
  | at1 gl gh D h1 L H => omega
  | at2 gl gb h2 L hb B => omega
  | at3 gl gb D h3 L B =>
    obtain ⟨kg, k0, k4⟩ := hG.ck hp
    have c3 := hP.c3
    have hglt := hP.lt
    have HC := Hid.mk' (feedCk_own w (fun k => ((S k ∧ k ≠ g) ∧ D k) ∧ k < w.heap.size) gb s.ck c (B.mono (fun k hk e => ⟨e, hk⟩)) kg k0 hk1)
    have hm : ∀ w, (method 282 105 (.pointer (some ⟨gb, 0, none⟩)) "Feed").run Tryz.prog w = .ok (142, .pointer (some ⟨gb, 0, none⟩)) w := fun _ => by kernel_rfl
    have hnx : Ck.next s.ck c = { s.ck with left := s.ck.left - 1, ph := if s.ck.left ≤ 1 then 2 else 1 } := by unfold Ck.next; rw [if_neg (fun e => e k0), if_neg (by omega), if_pos hk1]
    have HN : Hid (Rq.next s c = ({ s with ck := Ck.next s.ck c }, [.body [c]])) := by
      unfold Hid Rq.next
      rw [if_neg (by omega), if_neg (by omega), if_pos hp, if_neg (by rw [hnx]; exact fun e => e k0), if_neg (by rw [hnx]; show ¬ (if s.ck.left ≤ 1 then 2 else 1) = 4; split <;> omega)]
      have ho : Ck.out s.ck c = [c] := by unfold Ck.out; rw [if_pos ⟨k0, hk1⟩]
      rw [ho]
      unfold Rq.some_
      rw [if_neg (by simp)]
    have HX : Hid (PsAt w g (.pointer (some ⟨gl, 0, none⟩)) (.pointer none) false (.iface 105 (.pointer (some ⟨gb, 0, none⟩))) 0 ∧ LineAt w (fun k => ((S k ∧ k ≠ g) ∧ ¬ D k) ∧ k < w.heap.size) gl s.ln ∧ (∀ k, S k → ¬ So k) ∧ S g) :=
      ⟨hP, L.mono (fun k hk e => ⟨e, hk⟩), hd, hg⟩
    have HOs := Hid.mk' (hO.mono (S' := fun k => So k ∧ k < w.heap.size) (fun k hk e => ⟨e, hk⟩))
    have HE := Hid.mk' (And.intro hn (And.intro hl (And.intro hj (And.intro hf hz))))
    clear hG hj hf hz hO hd L B hP hg hn kg k0 k4 hnx h3
    go_enter Tryz.func21, Tryz.ntmps21
    go_wp2_with (go_at_call 142; refine HC.out.mono ?_; rintro e w1 ⟨rfl, hB1, hO1, hT1⟩; have HB1 := Hid.mk' hB1; have HO1 := Hid.mk' hO1; have HT1 := Hid.mk' hT1; clear hB1 hO1 hT1)
    obtain ⟨hn, hl, hj, hf, hz⟩ := HE.out
    obtain ⟨hP, hL, hd, hg⟩ := HX.out
    have hgrow : GrowB w1 (fun k => k = w.heap.size) 5 (some ⟨w.heap.size, 0, none⟩) 1 [c] := Or.inl ⟨by simp, HO1.out, fun a e => by injection e with e; subst e; rfl⟩
    have hE1 := HOs.out.turns HT1.out (fun k e e2 => hd k e2.1.1.1 e.1)
    refine (add_body w1 (fun k => So k ∧ k < w.heap.size) (fun k => k = w.heap.size) ao _ cap n 1 1 [c] es hE1 hgrow (by simp) rfl (by omega) (fun k e e2 => by omega) hn (by omega) hj hf (by omega)).mono ?_
    rintro e w2 ⟨ao2, cap2, n2, rfl, hn2, hO2, hT2⟩
    have HO2 := Hid.mk' hO2; have HT2 := Hid.mk' hT2; have HN2 := Hid.mk' hn2
    clear hn hl hj hf hz hP hL hd hg hgrow hE1 hn2 hO2 hT2 c3
    go_wp2
    go_ret
    obtain ⟨hn, hl, hj, hf, hz⟩ := HE.out
    obtain ⟨hP, hL, hd, hg⟩ := HX.out
    have hs1 := HT1.out.size
    have hN := HN.out
    have hP2 := (hP.turns HT1.out (fun e => e.1.1.2 rfl)).turns HT2.out (fun e => hd g hg e.1)
    have hL2 := line_stays hL HT1.out HT2.out (fun k e e2 => e.1.2 e2.1.2) (fun k e e2 => hd k e.1.1.1 e2.1)
    have hB2 := (HB1.out.turns HT2.out (fun k e e2 => hd k e.1.1.1 e2.1))
    refine .mk ao2 cap2 n2 (fun k => S k ∧ k < w.heap.size) _ rfl (by rw [hN]; exact HN2.out) ?_ (by rw [hN]; exact HO2.out) ?_ (fun k e => Or.inl e.1) ?_ ?_
    · rw [hN]
      exact ⟨⟨hg, hglt⟩, _, _, _, _, hP2, .at3 gl gb D hp (hL2.mono (fun k _ e => ⟨⟨⟨e.1.1.1, e.2⟩, e.1.1.2⟩, e.1.2⟩)) (hB2.mono (fun k _ e => ⟨⟨⟨e.1.1.1, e.2⟩, e.1.1.2⟩, e.1.2⟩))⟩
    · intro k e e2
      rcases e2 with e2 | e2 | e2
      · exact hd k e.1 e2.1
      · omega
      · omega
    · intro k e
      rcases e with e | e | e
      · exact Or.inr (Or.inl e.1)
      · exact Or.inr (Or.inr (by omega))
      · exact Or.inr (Or.inr (by omega))
    · exact (HT1.out.mono (fun k e => Or.inl e.1.1.1)).trans (HT2.out.mono (fun k e => Or.inr e.1)) (fun _ e _ => e)
end Go.Proofs.YtbcmlolaihnalacGreatDoor

/- Package request, walked: one byte more of a body in chunks that brings no byte of it. -/
namespace Go.Proofs.YtbcmlolaihnalacGreatDoor
open Go.RowKit

set_option maxRecDepth 100000 in
set_option maxHeartbeats 2000000 in
theorem feedBody_line (w : World) (S So : Nat → Prop) (g : Nat) (s : Rq.St) (c : UInt8) (ao : Option Addr) (cap n : Nat) (es : List Rq.Ev) (h : ReqAt w S g s) (hG : Rq.Good s) (hp : s.ph = 3) (hk1 : s.ck.ph ≠ 1) (hO : EvsAt w So ao cap es) (hd : ∀ k, S k → ¬ So k) (hn : es.length = n) (hl : n ≤ 90000) (hj : Rq.Joined es) (hf : Rq.Full es) (hz : Rq.bsum es ≤ 90000) :
    Calls Tryz.prog 21 #[.pointer (some ⟨g, 0, none⟩), .slice ao n cap, .int .u8 c.toNat] w fun e w' => FeedStep w S So g s c es e w' := by
  obtain ⟨hg, lp, hpp, bd, code, hP, hI⟩ := h
  cases hI with
  | dead c hc h4 => omega
  | at0 gl h0 L => omega
  | at1 gl gh D h1 L H => omega
  | at2 gl gb h2 L hb B => omega
  | at3 gl gb D h3 L B =>
    obtain ⟨kg, k0, k4⟩ := hG.ck hp
    have c3 := hP.c3
    have hglt := hP.lt
    have hC := feedChunks_any w (fun k => ((S k ∧ k ≠ g) ∧ D k) ∧ k < w.heap.size) gb s.ck c (B.mono (fun k hk e => ⟨e, hk⟩)) kg
    have ho : Ck.out s.ck c = [] := by unfold Ck.out; rw [if_neg (fun e => hk1 e.2)]
    have hov : Ck.over s.ck c = decide ((Ck.next s.ck c).code = 0 ∧ (Ck.next s.ck c).ph = 4) := by unfold Ck.over; rw [decide_eq_decide]; exact ⟨fun e => ⟨e.2.2.1, e.2.2.2⟩, fun e => ⟨k0, k4, e.1, e.2⟩⟩
    have hC2 : Calls Tryz.prog 142 #[.pointer (some ⟨gb, 0, none⟩), .int .u8 c.toNat] w fun e w' => ∃ bo bc, e = .returned (.tuple #[.slice bo 0 bc, .bool (decide ((Ck.next s.ck c).code = 0 ∧ (Ck.next s.ck c).ph = 4)), .int .i64 ((Ck.next s.ck c).code : Int)]) ∧ CkAt w' (orNew (fun k => ((S k ∧ k ≠ g) ∧ D k) ∧ k < w.heap.size) w) gb (Ck.next s.ck c) ∧ Turns (fun k => ((S k ∧ k ≠ g) ∧ D k) ∧ k < w.heap.size) w w' := by
      refine hC.mono ?_
      rintro e w' ⟨bo, bc, he, _, hC', hT'⟩
      refine ⟨bo, bc, ?_, hC', hT'⟩
      rw [he, ho, hov]; rfl
    have hm : ∀ w, (method 282 105 (.pointer (some ⟨gb, 0, none⟩)) "Feed").run Tryz.prog w = .ok (142, .pointer (some ⟨gb, 0, none⟩)) w := fun _ => by kernel_rfl
    have hN : Rq.next s c = if (Ck.next s.ck c).code ≠ 0 then (Rq.dead s, [.fail (Ck.next s.ck c).code]) else if (Ck.next s.ck c).ph = 4 then ({ s with ph := 0 }, [.fin]) else ({ s with ck := Ck.next s.ck c }, []) := by
      unfold Rq.next
      rw [if_neg (by omega), if_neg (by omega), if_pos hp, ho]
      rfl
    have HX : Hid (PsAt w g (.pointer (some ⟨gl, 0, none⟩)) (.pointer none) false (.iface 105 (.pointer (some ⟨gb, 0, none⟩))) 0 ∧ LineAt w (fun k => ((S k ∧ k ≠ g) ∧ ¬ D k) ∧ k < w.heap.size) gl s.ln ∧ (∀ k, S k → ¬ So k) ∧ S g) :=
      ⟨hP, L.mono (fun k hk e => ⟨e, hk⟩), hd, hg⟩
    have HOs := Hid.mk' (hO.mono (S' := fun k => So k ∧ k < w.heap.size) (fun k hk e => ⟨e, hk⟩))
    have HE := Hid.mk' (And.intro hn (And.intro hl (And.intro hj (And.intro hf hz))))
    have HC := Hid.mk' hC2
    clear hG hj hf hz hO hd L B hP hg hn kg k0 k4 h3 hC hC2 ho hov hk1
    generalize Ck.next s.ck c = ck' at *
    by_cases hc0 : ck'.code = 0
    · rw [if_neg (fun e => e hc0)] at hN
      by_cases h4 : ck'.ph = 4
      · rw [if_pos h4] at hN
        rw [decide_eq_true ⟨hc0, h4⟩, hc0] at HC
        have HN := Hid.mk' hN
        clear hN hc0 h4
        go_enter Tryz.func21, Tryz.ntmps21
        go_wp2_with (go_at_call 142; refine HC.out.mono ?_; rintro e w1 ⟨bo, bc, rfl, hB1, hT1⟩; have hP1 := HX.out.1.turns hT1 (fun e => e.1.1.2 rfl); have p3 := hP1.c3; have pf3 := hP1.fz 3; have HP1 := Hid.mk' hP1; have HT1 := Hid.mk' hT1; clear hB1 hT1 hP1)
        obtain ⟨hn, hl, hj, hf, hz⟩ := HE.out
        obtain ⟨hP, hL, hd, hg⟩ := HX.out
        have hTg := Turns.setCell (fun k => k = g) w1 ⟨g, 3, none⟩ .nilIface rfl
        have hE1 := (HOs.out.turns HT1.out (fun k e e2 => hd k e2.1.1.1 e.1)).turns hTg (fun k e e2 => hd g hg (e2 ▸ e.1))
        refine (add_fin _ _ ao cap n _ hE1 hn (by omega) hj hf (by omega)).mono ?_
        rintro e w4 ⟨ao4, cap4, n4, rfl, hn4, hO4, hT4⟩
        have HN4 := Hid.mk' hn4; have HO4 := Hid.mk' hO4; have HT4 := Hid.mk' hT4
        clear hn hl hj hf hz hP hL hd hg hTg hE1 hn4 hO4 hT4
        go_wp2
        go_ret
        obtain ⟨hP, hL, hd, hg⟩ := HX.out
        have hs1 := HT1.out.size
        have hz3 : (w1.setCell ⟨g, 3, none⟩ .nilIface).heap.size = w1.heap.size := by simp
        have hTg := Turns.setCell (fun k => k = g) w1 ⟨g, 3, none⟩ .nilIface rfl
        have hP4 := (HP1.out.s3 .nilIface).turns HT4.out (fun e => hd g hg e.1)
        have hL4 := ((hL.turns HT1.out (fun k e e2 => e.1.2 e2.1.2)).turns hTg (fun k e => e.1.1.2)).turns HT4.out (fun k e e2 => hd k e.1.1.1 e2.1)
        refine .mk ao4 cap4 n4 (fun k => S k ∧ k < w.heap.size) _ rfl (by rw [HN.out]; exact HN4.out) ?_ (by rw [HN.out]; exact HO4.out) ?_ (fun k e => Or.inl e.1) ?_ ?_
        · rw [HN.out]
          exact ⟨⟨hg, hglt⟩, _, _, _, _, hP4, .at0 gl rfl (hL4.mono (fun k _ e => ⟨⟨e.1.1.1, e.2⟩, e.1.1.2⟩))⟩
        · intro k e e2
          rcases e2 with e2 | e2 | e2
          · exact hd k e.1 e2.1
          · exact e2
          · omega
        · intro k e
          rcases e with e | e | e
          · exact Or.inr (Or.inl e.1)
          · exact e.elim
          · exact Or.inr (Or.inr (by omega))
        · exact (HT1.out.mono (fun k e => Or.inl e.1.1.1)).trans ((hTg.mono (fun k e => by rw [e]; exact Or.inl hg)).trans (HT4.out.mono (fun k e => Or.inr e.1)) (fun _ e _ => e)) (fun _ e _ => e)
      · rw [if_neg h4] at hN
        rw [decide_eq_false (fun e => h4 e.2), hc0] at HC
        have HN := Hid.mk' hN
        clear hN hc0 h4
        go_enter Tryz.func21, Tryz.ntmps21
        go_wp2_with (go_at_call 142; refine HC.out.mono ?_; rintro e w1 ⟨bo, bc, rfl, hB1, hT1⟩; have HB1 := Hid.mk' hB1; have HT1 := Hid.mk' hT1; clear hB1 hT1)
        go_ret
        obtain ⟨hn, hl, hj, hf, hz⟩ := HE.out
        obtain ⟨hP, hL, hd, hg⟩ := HX.out
        have hs1 := HT1.out.size
        have hej : Rq.join (es ++ (Rq.next s c).2) = es := by rw [HN.out, List.append_nil]; exact Rq.join_of_joined es hj
        refine .mk ao cap n (fun k => (S k ∧ k < w.heap.size) ∨ w.heap.size ≤ k) (fun k => So k ∧ k < w.heap.size) rfl (by rw [hej]; exact hn.symm) ?_ (by rw [hej]; exact HOs.out.turns HT1.out (fun k e e2 => hd k e2.1.1.1 e.1)) ?_ ?_ (fun k e => Or.inr (Or.inl e.1)) (HT1.out.mono (fun k e => Or.inl e.1.1.1))
        · rw [HN.out]
          refine ⟨Or.inl ⟨hg, hglt⟩, _, _, _, _, hP.turns HT1.out (fun e => e.1.1.2 rfl), .at3 gl gb (fun k => D k ∨ w.heap.size ≤ k) hp ((hL.turns HT1.out (fun k e e2 => e.1.2 e2.1.2)).mono (fun k _ e => ⟨⟨Or.inl ⟨e.1.1.1, e.2⟩, e.1.1.2⟩, fun e2 => ?_⟩)) (HB1.out.mono (fun k _ e => ?_))⟩
          · rcases e2 with e2 | e2
            · exact e.1.2 e2
            · have := e.2; omega
          · rcases e with e | e
            · exact ⟨⟨Or.inl ⟨e.1.1.1, e.2⟩, e.1.1.2⟩, Or.inl e.1.2⟩
            · exact ⟨⟨Or.inr e, by omega⟩, Or.inr e⟩
        · intro k e e2
          rcases e with e | e
          · exact hd k e.1 e2.1
          · omega
        · intro k e
          rcases e with e | e
          · exact Or.inl e.1
          · exact Or.inr e
    · rw [if_pos hc0] at hN
      rw [decide_eq_false (fun e => hc0 e.1)] at HC
      have HN := Hid.mk' hN
      have tc : ((ck'.code : Int) != 0) = true := by rw [bne_iff_ne]; omega
      have HCn := Hid.mk' hc0
      clear hN hc0
      generalize ck'.code = cc at *
      go_enter Tryz.func21, Tryz.ntmps21
      go_wp2_with (go_at_call 142; refine HC.out.mono ?_; rintro e w1 ⟨bo, bc, rfl, hB1, hT1⟩; have HT1 := Hid.mk' hT1; clear hB1 hT1)
      obtain ⟨hn, hl, hj, hf, hz⟩ := HE.out
      obtain ⟨hP, hL, hd, hg⟩ := HX.out
      refine (fail_any w1 g _ _ _ _ _ (fun k => So k ∧ k < w.heap.size) ao cap n cc es (hP.turns HT1.out (fun e => e.1.1.2 rfl)) (HOs.out.turns HT1.out (fun k e e2 => hd k e2.1.1.1 e.1)) (fun e => hd g hg e.1) hn (by omega) hj hf (by omega)).mono ?_
      rintro e w2 ⟨ao2, cap2, n2, rfl, hn2, hO2, hP2, hT2⟩
      have HN2 := Hid.mk' hn2; have HO2 := Hid.mk' hO2; have HP2 := Hid.mk' hP2; have HT2 := Hid.mk' hT2
      clear hn hl hj hf hz hP hL hd hg hn2 hO2 hP2 hT2
      go_wp2
      go_ret
      obtain ⟨hP, hL, hd, hg⟩ := HX.out
      have hs1 := HT1.out.size
      refine .mk ao2 cap2 n2 (fun k => k = g) _ rfl (by rw [HN.out]; exact HN2.out) ?_ (by rw [HN.out]; exact HO2.out) ?_ (fun k e => by rw [e]; exact Or.inl hg) ?_ ?_
      · rw [HN.out]
        exact ⟨rfl, _, _, _, _, HP2.out, .dead cc HCn.out rfl⟩
      · intro k e e2
        subst e
        rcases e2 with e2 | e2
        · exact hd k hg e2.1
        · omega
      · intro k e
        rcases e with e | e
        · exact Or.inr (Or.inl e.1)
        · exact Or.inr (Or.inr (by omega))
      · refine (HT1.out.mono (fun k e => Or.inl e.1.1.1)).trans (HT2.out.mono (fun k e => ?_)) (fun _ e _ => e)
        rcases e with e | e
        · exact Or.inr e.1
        · rw [e]; exact Or.inl hg
end Go.Proofs.YtbcmlolaihnalacGreatDoor

/- strings.Count at one byte, strings.HasPrefix at a stroke, strings.ContainsAny at a blank and a tab, walked. -/
namespace Go.Proofs.YtbcmlolaihnalacGreatDoor
open Go.RowKit

theorem count_one (s : ByteArray) (c : UInt8) (w : World) :
    Calls Tryz.prog 71 #[.string s, .string ⟨#[c]⟩] w fun e w' => e = .returned (.int .i64 ((s.data.toList.count c : Nat) : Int)) ∧ w' = w := Any.strings_Count_one Tryz.lays138 s c w

theorem stroke_one (s : ByteArray) (w : World) :
    Calls Tryz.prog 64 #[.string s, .string ⟨#[47]⟩] w fun e w' => e = .returned (.bool (decide (s.data.toList.head? = some 47))) ∧ w' = w := by
  have h := Any.strings_HasPrefix Tryz.lays99 s ⟨#[47]⟩ w
  have e : Lib.hasPrefix s.data.toList [47] = decide (s.data.toList.head? = some 47) := by
    unfold Lib.hasPrefix
    cases s.data.toList with
    | nil => rfl
    | cons a t =>
      have : (47 == a) = decide (a = 47) := by rw [Bool.eq_iff_iff, beq_iff_eq, decide_eq_true_eq]; exact eq_comm
      simpa [List.isPrefixOf] using this
  rw [← e]
  exact h

theorem below_drew2 (w : World) (n : Nat) : Below w.heap.size w (w.drewN n).drew := (drewN_below ⟨n, rfl⟩).trans ⟨rfl, rfl, rfl, Nat.le_refl _, fun _ _ => rfl⟩
theorem iter_below (w : World) (s : ByteArray) (i : Nat) : Below w.heap.size w (w.iter s i) := (Below.refl _ _).alloc (Nat.le_refl _) _
/-- a byte that begins no ASCII text, and what stands behind it -/
theorem decode_far (s : ByteArray) (i : Nat) (h : i < s.size) (ha : 128 ≤ (s[i]'h).toNat) :
    128 ≤ (Utf8.decode s i).1 ∧ Utf8.valid ((Utf8.decode s i).1 : Int) = true ∧ 1 ≤ (Utf8.decode s i).2 ∧ i + (Utf8.decode s i).2 ≤ s.size ∧ ∀ k, k < (Utf8.decode s i).2 → 128 ≤ (s.get! (i + k)).toNat := by
  have hn : ¬ (s[i]'h).toNat < 128 := by omega
  have h0 : 128 ≤ (s.get! (i + 0)).toNat := by rw [get_at s i h]; exact ha
  have hb : ∀ k, (s.get! (i + k)).toNat < 256 := fun k => (s.get! (i + k)).toNat_lt
  have b1 := hb 1; have b2 := hb 2; have b3 := hb 3; have b0 := hb 0
  simp only [Utf8.decode, get_at s i h, hn, if_false]
  rw [get_at s i h] at h0 b0
  have one : 128 ≤ Utf8.runeError ∧ Utf8.valid (Utf8.runeError : Int) = true ∧ 1 ≤ 1 ∧ i + 1 ≤ s.size ∧ ∀ k, k < 1 → 128 ≤ (s.get! (i + k)).toNat :=
    ⟨by decide, by decide, Nat.le_refl _, h, fun k hk => by
      obtain rfl : k = 0 := by omega
      rw [get_at s i h]; exact ha⟩
  split
  · rename_i c
    simp only [Bool.and_eq_true, beq_iff_eq, decide_eq_true_eq] at c
    split
    · rename_i d
      refine ⟨d, ?_, by omega, by omega, fun k hk => ?_⟩
      · simp only [Utf8.valid, Bool.or_eq_true, Bool.and_eq_true, decide_eq_true_eq]; omega
      · match k, hk with
        | 0, _ => rw [get_at s i h]; exact ha
        | 1, _ => omega
    · exact one
  · split
    · rename_i c
      simp only [Bool.and_eq_true, beq_iff_eq, decide_eq_true_eq] at c
      split
      · rename_i d
        simp only [Bool.and_eq_true, decide_eq_true_eq] at d
        refine ⟨by omega, d.2, by omega, by omega, fun k hk => ?_⟩
        match k, hk with
        | 0, _ => rw [get_at s i h]; exact ha
        | 1, _ => omega
        | 2, _ => omega
      · exact one
    · split
      · rename_i c
        simp only [Bool.and_eq_true, beq_iff_eq, decide_eq_true_eq] at c
        split
        · rename_i d
          simp only [Bool.and_eq_true, decide_eq_true_eq] at d
          refine ⟨by omega, d.2, by omega, by omega, fun k hk => ?_⟩
          match k, hk with
          | 0, _ => rw [get_at s i h]; exact ha
          | 1, _ => omega
          | 2, _ => omega
          | 3, _ => omega
        · exact one
      · exact one

theorem validRune_yes (r : Int) (w : World) (h0 : 128 ≤ r) (hv : r < 55296 ∨ 57344 ≤ r ∧ r ≤ 1114111) :
    Calls Tryz.prog 115 #[.int .i32 r] w fun e w' => e = .returned (.bool true) ∧ w' = w := by
  have h1 : decide ((0 : Int) ≤ r) = true := decide_eq_true (by omega)
  rcases hv with h | h
  · have a1 : decide (r < 55296) = true := decide_eq_true h
    go_enter Tryz.func115, Tryz.ntmps115
    go_wp2
    go_ret
    exact ⟨rfl, rfl⟩
  · have a1 : decide (r < 55296) = false := decide_eq_false (by omega)
    have a2 : decide ((57343 : Int) < r) = true := decide_eq_true (by omega)
    have a3 : decide (r ≤ 1114111) = true := decide_eq_true h.2
    clear h
    go_enter Tryz.func115, Tryz.ntmps115
    go_wp2
    go_ret
    exact ⟨rfl, rfl⟩

set_option maxHeartbeats 4000000 in
set_option maxRecDepth 100000 in
/-- no rune beyond ASCII stands in a blank and a tab -/
theorem rune_far (r : Int) (w : World) (h0 : 128 ≤ r) (hv : Utf8.valid r = true) :
    Calls Tryz.prog 101 #[.string ⟨#[32, 9]⟩, .int .i32 r] w fun e w' => e = .returned (.int .i64 (-1)) ∧ Below w.heap.size w w' := by
  have h1 : decide ((0 : Int) ≤ r) = true := decide_eq_true (by omega)
  have h2 : decide (r < 128) = false := decide_eq_false (by omega)
  by_cases he : r = 65533
  · subst he
    have n0 := fun ty => run_next_ascii (P := Tryz.prog) w ⟨#[32, 9]⟩ 0 ty (by decide) (by decide)
    have n1 := fun ty => run_next_ascii (P := Tryz.prog) w ⟨#[32, 9]⟩ 1 ty (by decide) (by decide)
    have n2 := fun ty => run_next_end (P := Tryz.prog) w ⟨#[32, 9]⟩ 2 ty (by decide)
    go_enter Tryz.func101, Tryz.ntmps101
    go_wp2
    go_loopg [5, 6] 3 (fun g _ _ wx => ∃ i : Nat, i + g = 3 ∧ 1 ≤ g ∧ wx = w.iter ⟨#[32, 9]⟩ i)
    case atStart => exact ⟨0, by omega, by omega, rfl⟩
    case round =>
      obtain ⟨i, hig, hg1, rfl⟩ := hrel
      rcases (by omega : i = 0 ∧ gk = 3 ∨ i = 1 ∧ gk = 2 ∨ i = 2 ∧ gk = 1) with ⟨rfl, rfl⟩ | ⟨rfl, rfl⟩ | ⟨rfl, rfl⟩
      · go_wp2
        go_roundg 2
        case measure => omega
        case rel => exact ⟨1, by omega, by omega, rfl⟩
      · go_wp2
        go_roundg 1
        case measure => omega
        case rel => exact ⟨2, by omega, by omega, rfl⟩
      · go_wp2
        go_ret
        exact ⟨rfl, iter_below w _ _⟩
  · have he' : (r == 65533) = false := beq_eq_false_iff_ne.2 he
    obtain ⟨e1, e2, e3⟩ := encode_facts r hv h0
    obtain ⟨rs, hrs⟩ : ∃ rs, Utf8.encode r = rs := ⟨_, rfl⟩
    rw [hrs] at e1 e2 e3
    have hval : r < 55296 ∨ 57344 ≤ r ∧ r ≤ 1114111 := by
      simp only [Utf8.valid, Bool.or_eq_true, Bool.and_eq_true, decide_eq_true_eq] at hv
      omega
    have HVR := Hid.mk' (validRune_yes r w h0 hval)
    clear hv hval he
    by_cases hz : rs.size = 2
    · have h12 : 1 < rs.size := by omega
      have e4 : 128 ≤ (rs[1]'h12).toNat := by
        have := e3 (by omega)
        simpa only [hz] using this
      have hne : ((((⟨#[32, 9]⟩ : ByteArray)[1]'(by decide)).toNat : Int) != ((rs[1]'h12).toNat : Int)) = true := by
        rw [bne_iff_ne]
        have : ((⟨#[32, 9]⟩ : ByteArray)[1]'(by decide)).toNat = 9 := by decide
        omega
      have hib : ∀ x : UInt8, decide (Lib.indexByte [] x < 0) = true := fun x => rfl
      have HIB := Hid.mk' (fun (x : ByteArray) (c : Int) (W : World) => indexByte_any x c W)
      clear e3 e4 e1 e2
      go_enter Tryz.func101, Tryz.ntmps101
      go_wp2_with fail
      refine HVR.out.mono ?_
      rintro e w1 ⟨rfl, rfl⟩
      go_wp2
      go_step3
      go_wp2
      go_rounds 1
      go_step3
      go_wp2
      go_quiet (fail)
      go_wp2
      go_region_with (go_at_call 79; refine (HIB.out _ _ _).mono ?_; rintro e w2 ⟨rfl, rfl⟩)
      all_goals (go_wp2; simp only [Exit.noGoto, Exit.inBlock, Exit.then]; go_ret; exact ⟨rfl, below_drew2 _ _⟩)
    · have hz' : decide ((rs.size : Int) - 1 < 2) = false := decide_eq_false (by omega)
      go_enter Tryz.func101, Tryz.ntmps101
      go_wp2_with fail
      refine HVR.out.mono ?_
      rintro e w1 ⟨rfl, rfl⟩
      go_wp2
      go_step3
      go_wp2
      go_rounds 1
      simp only [Exit.noGoto, Exit.inBlock]
      go_ret
      exact ⟨rfl, Below.refl _ _⟩
end Go.Proofs.YtbcmlolaihnalacGreatDoor
