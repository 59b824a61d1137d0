/- Small texts, one behind the other: RqHead, RqHeadB, RqFeed. -/
import Derived.Test.YtkafbifogdoneacGreatDoorPk22
import Derived.Test.YtkafbifogdoneacGreatDoorPk25
/- Package request, walked: one byte more of a head that ends no line. -/
namespace Go.Proofs.YtkafbifogdoneacGreatDoor
open Go.RowKit

/-- a byte for the parser's line -/
structure LineFed (w : World) (S : Nat → Prop) (g gl : Nat) (s : Rq.St) (c : UInt8) : Prop where
  c0 : w.cell? ⟨g, 0, none⟩ = some (.pointer (some ⟨gl, 0, none⟩))
  fed : Calls Tryz.prog 75 #[.pointer (some ⟨gl, 0, none⟩), .int .u8 c.toNat] w fun e w' => e = .returned (Ln.fed s.ln c) ∧ ReqAt w' (orNew (fun k => S k ∧ k < w.heap.size) w) g { s with ln := Ln.next s.ln c } ∧ Turns (fun k => (S k ∧ k < w.heap.size) ∧ k ≠ g) w w'
theorem line_fed (w : World) (S : Nat → Prop) (g : Nat) (s : Rq.St) (c : UInt8) (h : ReqAt w S g s) (hG : Rq.Good s) (hp : s.ph = 0 ∨ s.ph = 1) : ∃ gl, LineFed w S g gl s c := by
  obtain ⟨hg, lp, hpp, bd, code, hP, hI⟩ := h
  have hglt := hP.lt
  cases hI with
  | dead c hc h4 => omega
  | at2 gl gb h2 L hb B => omega
  | at3 gl gb D h3 L B => omega
  | at0 gl h0 L =>
    refine ⟨gl, hP.c0, (feedLines_any w (fun k => (S k ∧ k < w.heap.size) ∧ k ≠ g) gl s.ln c (L.mono (fun k hk e => ⟨⟨e.1, hk⟩, e.2⟩)) hG.ln.short).mono ?_⟩
    rintro e w' ⟨he, hL, hT⟩
    refine ⟨he, ⟨Or.inl ⟨hg, hglt⟩, _, _, _, _, hP.turns hT (fun e => e.2 rfl), .at0 gl h0 (hL.mono (fun k _ e => ?_))⟩, hT⟩
    rcases e with e | e
    · exact ⟨Or.inl e.1, e.2⟩
    · exact ⟨Or.inr e, by omega⟩
  | at1 gl gh D h1 L H =>
    refine ⟨gl, hP.c0, (feedLines_any w (fun k => ((S k ∧ k < w.heap.size) ∧ k ≠ g) ∧ ¬ D k) gl s.ln c (L.mono (fun k hk e => ⟨⟨⟨e.1.1, hk⟩, e.1.2⟩, e.2⟩)) hG.ln.short).mono ?_⟩
    rintro e w' ⟨he, hL, hT⟩
    refine ⟨he, ⟨Or.inl ⟨hg, hglt⟩, _, _, _, _, hP.turns hT (fun e => e.1.2 rfl), .at1 gl gh (fun k => D k ∧ k < w.heap.size) h1 (hL.mono (fun k _ e => ?_)) (((H.mono (S' := fun k => (orNew (fun k => S k ∧ k < w.heap.size) w k ∧ k ≠ g) ∧ D k ∧ k < w.heap.size) (fun k hk e => ⟨⟨Or.inl ⟨e.1.1, hk⟩, e.1.2⟩, e.2, hk⟩)).turns hT (fun k e e2 => e2.2 e.2.1)))⟩, hT.mono (fun k e => e.1)⟩
    rcases e with e | e
    · exact ⟨⟨Or.inl e.1.1, e.1.2⟩, fun e2 => e.2 e2.1⟩
    · exact ⟨⟨Or.inr e, by omega⟩, fun e2 => by have := e2.2; omega⟩

set_option maxHeartbeats 1000000 in
/-- a code of a line -/
theorem feedHead_code (w : World) (S So : Nat → Prop) (g : Nat) (s : Rq.St) (c : UInt8) (ao : Option Addr) (cap n : Nat) (es : List Rq.Ev) (h : ReqAt w S g s) (hG : Rq.Good s) (hp : s.ph = 0 ∨ s.ph = 1) (hc : (Ln.next s.ln c).code ≠ 0) (hO : EvsAt w So ao cap es) (hd : ∀ k, S k → ¬ So k) (hn : es.length = n) (hl : n ≤ 90000) (hj : Rq.Joined es) (hf : Rq.Full es) (hz : Rq.bsum es ≤ 90000) :
    Calls Tryz.prog 37 #[.pointer (some ⟨g, 0, none⟩), .slice ao n cap, .int .u8 c.toNat] w fun e w' => FeedStep w S So g s c es e w' := by
  obtain ⟨gl, hLF⟩ := line_fed w S g s c h hG hp
  have c0 := hLF.c0
  have HF := Hid.mk' hLF.fed
  have hends := Ln.ends_code hc
  have HN : Hid (Rq.next s c = (Rq.dead s, [.fail (Ln.next s.ln c).code])) := by
    unfold Hid Rq.next; rw [if_neg (by omega), if_neg (by omega), if_neg (by omega), if_pos hc]
  unfold Ln.fed at HF
  rw [hends] at HF
  have HX : Hid (S g ∧ g < w.heap.size ∧ ∀ k, S k → ¬ So k) := ⟨h.1, h.lt, hd⟩
  have HOs := Hid.mk' (hO.mono (S' := fun k => So k ∧ k < w.heap.size) (fun k hk e => ⟨e, hk⟩))
  have HE := Hid.mk' (And.intro hn (And.intro hl (And.intro hj (And.intro hf hz))))
  have tc : (((Ln.next s.ln c).code : Int) != 0) = true := by rw [bne_iff_ne]; omega
  have HCn := Hid.mk' hc
  clear h hG hLF hO hd hn hj hf hz hc hends
  generalize (⟨(Ln.text s.ln c).toArray⟩ : ByteArray) = tx at *
  generalize (Ln.next s.ln c) = ln' at *
  generalize ln'.code = cc at *
  go_enter Tryz.func37, Tryz.ntmps37
  go_wp2_with fail
  refine HF.out.mono ?_
  rintro e w1 ⟨rfl, hR1, hT1⟩
  have HR1 := Hid.mk' hR1; have HT1 := Hid.mk' hT1
  clear hR1 hT1
  go_wp2_with fail
  obtain ⟨hn, hl, hj, hf, hz⟩ := HE.out
  obtain ⟨hg, hglt, hd⟩ := HX.out
  obtain ⟨_, lp1, hp1, bd1, code1, hP1, _⟩ := HR1.out
  refine (fail_any w1 g _ _ _ _ _ (fun k => So k ∧ k < w.heap.size) ao cap n cc es hP1 (HOs.out.turns HT1.out (fun k e e2 => hd k e2.1.1 e.1)) (fun e => hd g hg e.1) hn (by omega) hj hf (by omega)).mono ?_
  rintro e w2 ⟨ao2, cap2, n2, rfl, hn2, hO2, hP2, hT2⟩
  have HN2 := Hid.mk' hn2; have HO2 := Hid.mk' hO2; have HP2 := Hid.mk' hP2; have HT2 := Hid.mk' hT2
  clear hn hl hj hf hz hd hg hglt hn2 hO2 hP2 hT2 hP1
  go_wp2
  go_ret
  obtain ⟨hg, hglt, hd⟩ := HX.out
  have hs1 := HT1.out.size
  refine .mk ao2 cap2 n2 (fun k => k = g) _ rfl (by rw [HN.out]; exact HN2.out) ?_ (by rw [HN.out]; exact HO2.out) ?_ (fun k e => by rw [e]; exact Or.inl hg) ?_ ?_
  · rw [HN.out]
    exact ⟨rfl, _, _, _, _, HP2.out, .dead cc HCn.out rfl⟩
  · intro k e e2
    subst e
    rcases e2 with e2 | e2
    · exact hd k hg e2.1
    · omega
  · intro k e
    rcases e with e | e
    · exact Or.inr (Or.inl e.1)
    · exact Or.inr (Or.inr (by omega))
  · refine (HT1.out.mono (fun k e => Or.inl e.1.1)).trans (HT2.out.mono (fun k e => ?_)) (fun _ e _ => e)
    rcases e with e | e
    · exact Or.inr e.1
    · rw [e]; exact Or.inl hg

set_option maxHeartbeats 1000000 in
/-- a byte within a line -/
theorem feedHead_more (w : World) (S So : Nat → Prop) (g : Nat) (s : Rq.St) (c : UInt8) (ao : Option Addr) (cap n : Nat) (es : List Rq.Ev) (h : ReqAt w S g s) (hG : Rq.Good s) (hp : s.ph = 0 ∨ s.ph = 1) (hc : (Ln.next s.ln c).code = 0) (he : Ln.ends s.ln c = false) (hO : EvsAt w So ao cap es) (hd : ∀ k, S k → ¬ So k) (hn : es.length = n) (hj : Rq.Joined es) :
    Calls Tryz.prog 37 #[.pointer (some ⟨g, 0, none⟩), .slice ao n cap, .int .u8 c.toNat] w fun e w' => FeedStep w S So g s c es e w' := by
  obtain ⟨gl, hLF⟩ := line_fed w S g s c h hG hp
  have c0 := hLF.c0
  have HF := Hid.mk' hLF.fed
  have HN : Hid (Rq.next s c = ({ s with ln := Ln.next s.ln c }, [])) := by
    unfold Hid Rq.next; rw [if_neg (by omega), if_neg (by omega), if_neg (by omega), if_neg (fun e => e hc), if_neg (by rw [he]; simp)]
  unfold Ln.fed at HF
  rw [he, hc] at HF
  have HX : Hid (S g ∧ g < w.heap.size ∧ ∀ k, S k → ¬ So k) := ⟨h.1, h.lt, hd⟩
  have HOs := Hid.mk' (hO.mono (S' := fun k => So k ∧ k < w.heap.size) (fun k hk e => ⟨e, hk⟩))
  have HE := Hid.mk' (And.intro hn hj)
  clear h hG hLF hO hd hn hj hc he
  generalize (⟨(Ln.text s.ln c).toArray⟩ : ByteArray) = tx at *
  go_enter Tryz.func37, Tryz.ntmps37
  go_wp2_with fail
  refine HF.out.mono ?_
  rintro e w1 ⟨rfl, hR1, hT1⟩
  have HR1 := Hid.mk' hR1; have HT1 := Hid.mk' hT1
  have c2 : w1.cell? ⟨g, 2, none⟩ = some (.bool false) := by obtain ⟨_, lp1, hp1, bd1, code1, hP1, _⟩ := hR1; exact hP1.c2
  clear hR1 hT1
  go_wp2
  go_ret
  obtain ⟨hn, hj⟩ := HE.out
  obtain ⟨hg, hglt, hd⟩ := HX.out
  have hs1 := HT1.out.size
  have hej : Rq.join (es ++ (Rq.next s c).2) = es := by rw [HN.out, List.append_nil]; exact Rq.join_of_joined es hj
  refine .mk ao cap n _ (fun k => So k ∧ k < w.heap.size) rfl (by rw [hej]; exact hn.symm) (by rw [HN.out]; exact HR1.out) (by rw [hej]; exact HOs.out.turns HT1.out (fun k e e2 => hd k e2.1.1 e.1)) ?_ ?_ (fun k e => Or.inr (Or.inl e.1)) (HT1.out.mono (fun k e => Or.inl e.1.1))
  · intro k e e2
    rcases e with e | e
    · exact hd k e.1 e2.1
    · omega
  · intro k e
    rcases e with e | e
    · exact Or.inl e.1
    · exact Or.inr e
end Go.Proofs.YtkafbifogdoneacGreatDoor

/- Package request, walked: one byte more of a head that ends a line. -/
namespace Go.Proofs.YtkafbifogdoneacGreatDoor
open Go.RowKit

/-- what is known behind a line's end -/
structure EndKnown (w : World) (S So : Nat → Prop) (g : Nat) (ao : Option Addr) (cap n : Nat) (es : List Rq.Ev) : Prop where
  gm : S g
  lt : g < w.heap.size
  apart : ∀ k, S k → ¬ So k
  evs : EvsAt w (fun k => So k ∧ k < w.heap.size) ao cap es
  len : es.length = n
  most : n ≤ 90000
  joined : Rq.Joined es
  full : Rq.Full es
  sum : Rq.bsum es ≤ 90000
/-- the cells of a local head stay -/
theorem local_len {w3 w4 : World} {T : Nat → Prop} {v0 v1 v2 v3 : Value} {k : Int} (hT : Turns T (w3.alloc (.cells #[v0, v1, v2, v3, .int .i64 k] 25)) w4) (hn : ¬ T w3.heap.size) : w4.cell? ⟨w3.heap.size, 4, none⟩ = some (.int .i64 k) := by
  have hr := hT.row (heap_alloc_new w3 (.cells #[v0, v1, v2, v3, .int .i64 k] 25)) hn
  exact cell_of_row w4 w3.heap.size 4 _ _ _ hr

set_option maxRecDepth 100000 in
set_option maxHeartbeats 4000000 in
theorem feedHead_end (w : World) (S So : Nat → Prop) (g : Nat) (s : Rq.St) (c : UInt8) (ao : Option Addr) (cap n : Nat) (es : List Rq.Ev) (h : ReqAt w S g s) (hG : Rq.Good s) (hp : s.ph = 0 ∨ s.ph = 1) (he : Ln.ends s.ln c = true) (hO : EvsAt w So ao cap es) (hd : ∀ k, S k → ¬ So k) (hn : es.length = n) (hl : n ≤ 90000) (hj : Rq.Joined es) (hf : Rq.Full es) (hz : Rq.bsum es ≤ 90000) :
    Calls Tryz.prog 37 #[.pointer (some ⟨g, 0, none⟩), .slice ao n cap, .int .u8 c.toNat] w fun e w' => FeedStep w S So g s c es e w' := by
  obtain ⟨gl, hLF⟩ := line_fed w S g s c h hG hp
  have c0 := hLF.c0
  have HF := Hid.mk' hLF.fed
  obtain ⟨e1, e2⟩ := Ln.next_end he
  have hc : (Ln.next s.ln c).code = 0 := by rw [e1]; rfl
  have hN : Rq.next s c = Rq.line { s with ln := Ln.start } (Ln.text s.ln c) := by
    unfold Rq.next; rw [if_neg (by omega), if_neg (by omega), if_neg (by omega), if_neg (fun e => e hc), if_pos he]
  unfold Ln.fed at HF
  rw [he, hc, e1] at HF
  have hsh := Rq.text_short (c := c) hG.ln
  have HX : Hid (EndKnown w S So g ao cap n es) := ⟨h.1, h.lt, hd, hO.mono (fun k hk e => ⟨e, hk⟩), hn, hl, hj, hf, hz⟩
  have hHG : s.ph = 1 → Rq.HGood s.hd := fun e => (hG.hd e).1
  have HTk : Hid (∀ w1, ReqAt w1 (orNew (fun k => S k ∧ k < w.heap.size) w) g { s with ln := Ln.start } → Calls Tryz.prog 76 #[.pointer (some ⟨g, 0, none⟩), .string ⟨(Ln.text s.ln c).toArray⟩] w1 fun e w' => HdTake w1 (orNew (fun k => S k ∧ k < w.heap.size) w) g { s with ln := Ln.start } (Ln.text s.ln c) e w') := fun w1 hR => by
    have hsz : (⟨(Ln.text s.ln c).toArray⟩ : ByteArray).size ≤ 200 := by show (Ln.text s.ln c).toArray.size ≤ 200; rw [List.size_toArray]; exact hsh.1
    rcases hp with hp | hp
    · exact take_at0 w1 _ g _ ⟨(Ln.text s.ln c).toArray⟩ hR hp hsz hsh.2
    · exact take_at1 w1 _ g _ ⟨(Ln.text s.ln c).toArray⟩ hR hp (hHG hp) hsz
  have HN := Hid.mk' hN
  clear h hG hLF hO hd hn hj hf hz hc he e1 e2 hsh hHG hN hl
  generalize (⟨(Ln.text s.ln c).toArray⟩ : ByteArray) = tx at *
  generalize Ln.text s.ln c = tt at *
  go_enter Tryz.func37, Tryz.ntmps37
  go_wp2_with fail
  refine HF.out.mono ?_
  rintro e w1 ⟨rfl, hR1, hT1⟩
  have HR1 := Hid.mk' hR1; have HT1 := Hid.mk' hT1
  clear hR1 hT1
  go_wp2_with fail
  refine (HTk.out w1 HR1.out).mono ?_
  rintro e w2 (⟨s', rfl, hl2, hR2, hT2⟩ | ⟨cc, hcc, rfl, hl2, lp2, hp2, bd2, hP2, hT2⟩ | ⟨k, gl2, gh, D, rfl, hk, htt, hph, hP2, hL2, hH2, hT2⟩)
  · -- nothing is told
    have HL := Hid.mk' hl2; have HR2 := Hid.mk' hR2; have HT2 := Hid.mk' hT2
    have c2 : w2.cell? ⟨g, 2, none⟩ = some (.bool false) := by obtain ⟨_, lp1, hp1, bd1, code1, hP1, _⟩ := hR2; exact hP1.c2
    clear hl2 hR2 hT2
    go_wp2
    go_ret
    have hX := HX.out
    have hs1 := HT1.out.size
    have hs2 := HT2.out.size
    have hn2 : (Rq.next s c).1 = s' ∧ (Rq.next s c).2 = [] := by rw [HN.out, HL.out]; exact ⟨rfl, rfl⟩
    have hej : Rq.join (es ++ (Rq.next s c).2) = es := by rw [hn2.2, List.append_nil]; exact Rq.join_of_joined es hX.joined
    have hE2 := (hX.evs.turns HT1.out (fun k e e2 => hX.apart k e2.1.1 e.1)).turns HT2.out (fun k e e2 => by
      rcases e2 with e2 | e2
      · exact hX.apart k e2.1 e.1
      · have := e.2; omega)
    refine .mk ao cap n _ (fun k => So k ∧ k < w.heap.size) rfl (by rw [hej]; exact hX.len.symm) (by rw [hn2.1]; exact HR2.out) (by rw [hej]; exact hE2) ?_ ?_ (fun k e => Or.inr (Or.inl e.1)) ?_
    · intro k e e2
      rcases e with (e | e) | e
      · exact hX.apart k e.1 e2.1
      · omega
      · omega
    · intro k e
      rcases e with (e | e) | e
      · exact Or.inl e.1
      · exact Or.inr e
      · exact Or.inr (by omega)
    · refine (HT1.out.mono (fun k e => Or.inl e.1.1)).trans (HT2.out.mono (S' := fun k => (S k ∨ So k) ∨ w.heap.size ≤ k) (fun k e => ?_)) (fun k e hk => ?_)
      · rcases e with e | e
        · exact Or.inl (Or.inl e.1)
        · exact Or.inr e
      · rcases e with e | e
        · exact e
        · omega
  · -- a code
    have HL := Hid.mk' hl2; have HP2 := Hid.mk' hP2; have HT2 := Hid.mk' hT2; have HCn := Hid.mk' hcc
    have tc : ((cc : Int) != 0) = true := by rw [bne_iff_ne]; omega
    clear hl2 hP2 hT2 hcc
    go_wp2_with fail
    have hX := HX.out
    have hs1 := HT1.out.size
    have hE2 := (hX.evs.turns HT1.out (fun k e e2 => hX.apart k e2.1.1 e.1)).turns HT2.out (fun k e e2 => by
      rcases e2 with e2 | e2
      · exact hX.apart k e2.1 e.1
      · have := e.2; omega)
    refine (fail_any w2 g _ _ _ _ _ (fun k => So k ∧ k < w.heap.size) ao cap n cc es HP2.out hE2 (fun e => hX.apart g hX.gm e.1) hX.len (by have := hX.most; omega) hX.joined hX.full (by have := hX.sum; omega)).mono ?_
    rintro e w3 ⟨ao3, cap3, n3, rfl, hn3, hO3, hP3, hT3⟩
    have HN3 := Hid.mk' hn3; have HO3 := Hid.mk' hO3; have HP3 := Hid.mk' hP3; have HT3 := Hid.mk' hT3
    clear hX hE2 hn3 hO3 hP3 hT3 hs1
    go_wp2
    go_ret
    have hX := HX.out
    have hs1 := HT1.out.size
    have hs2 := HT2.out.size
    have hn2 : (Rq.next s c).1.ph = 4 ∧ (Rq.next s c).2 = [.fail cc] := by rw [HN.out, HL.out]; exact ⟨rfl, rfl⟩
    refine .mk ao3 cap3 n3 (fun k => k = g) _ rfl (by rw [hn2.2]; exact HN3.out) ⟨rfl, _, _, _, _, HP3.out, .dead cc HCn.out hn2.1⟩ (by rw [hn2.2]; exact HO3.out) ?_ (fun k e => by rw [e]; exact Or.inl hX.gm) ?_ ?_
    · intro k e e2
      subst e
      have := hX.lt
      rcases e2 with e2 | e2
      · exact hX.apart k hX.gm e2.1
      · omega
    · intro k e
      rcases e with e | e
      · exact Or.inr (Or.inl e.1)
      · exact Or.inr (Or.inr (by omega))
    · refine (HT1.out.mono (fun k e => Or.inl e.1.1)).trans ((HT2.out.mono (S' := fun k => (S k ∨ So k) ∨ w.heap.size ≤ k) (fun k e => ?_)).trans (HT3.out.mono (fun k e => ?_)) (fun _ e _ => e)) (fun k e hk => ?_)
      · rcases e with e | e
        · exact Or.inl (Or.inl e.1)
        · exact Or.inr e
      · rcases e with e | e
        · exact Or.inl (Or.inr e.1)
        · rw [e]; exact Or.inl (Or.inl hX.gm)
      · rcases e with e | e
        · exact e
        · omega
  · -- a head is whole
    have HP2 := Hid.mk' hP2; have HL2 := Hid.mk' hL2; have HT2 := Hid.mk' hT2; have HK := Hid.mk' hk; have HTt := Hid.mk' htt; have HPh := Hid.mk' hph
    have c2 := hP2.c2
    have HGv := Hid.mk' (give_any w2 g gh _ _ _ _ hP2 hH2 (fun e => e.1.2 rfl))
    have hkr := Rq.len_range hk
    clear hP2 hL2 hT2 hk htt hph hH2
    go_wp2_with fail
    refine HGv.out.mono ?_
    rintro e w3 ⟨fo, fcap, rfl, hP3, hV3, hT3⟩
    have HP3 := Hid.mk' hP3; have HV3 := Hid.mk' hV3; have HT3 := Hid.mk' hT3
    clear hP3 hV3 hT3
    go_wp2_with fail
    have hX := HX.out
    have hs1 := HT1.out.size
    have hs2 := HT2.out.size
    have hs3 := HT3.out.size
    have hlt := hX.lt
    have hA3 : Below w3.heap.size w3 (w3.alloc (.cells #[.string ⟨s.hd.method.toArray⟩, .string ⟨s.hd.target.toArray⟩, .int .i64 (s.hd.minor : Int), .slice fo s.hd.fields.length fcap, .int .i64 k] 25)) := (Below.refl _ _).alloc (Nat.le_refl _) _
    have hzA : (w3.alloc (.cells #[.string ⟨s.hd.method.toArray⟩, .string ⟨s.hd.target.toArray⟩, .int .i64 (s.hd.minor : Int), .slice fo s.hd.fields.length fcap, .int .i64 k] 25)).heap.size = w3.heap.size + 1 := by simp
    have hE3 := ((((hX.evs.turns HT1.out (fun k e e2 => hX.apart k e2.1.1 e.1)).turns HT2.out (fun k e e2 => by
      rcases e2 with e2 | e2
      · exact hX.apart k e2.1 e.1
      · have := e.2; omega)).turns HT3.out (fun k e e2 => hX.apart g hX.gm (e2 ▸ e.1))).stay hA3)
    have hF3 := (HV3.out.mono (S' := fun k => ((orNew (fun k => S k ∧ k < w.heap.size) w k ∧ k ≠ g) ∧ D k) ∧ k < w3.heap.size) (fun k hk e => ⟨e, hk⟩)).turns (Turns.of_below (S := fun _ => False) hA3) (fun _ _ e => e)
    refine (add_head _ (fun k => So k ∧ k < w.heap.size) (fun k => ((orNew (fun k => S k ∧ k < w.heap.size) w k ∧ k ≠ g) ∧ D k) ∧ k < w3.heap.size) ao fo cap n fcap s.hd.fields.length { s.hd with length := k } es hE3 hF3 rfl (fun k e e2 => ?_) hX.len (by have := hX.most; omega) hX.joined hX.full (by have := hX.sum; omega)).mono ?_
    · rcases e2.1.1.1 with e3 | e3
      · exact hX.apart k e3.1 e.1
      · have := e.2; omega
    rintro e w4 ⟨ao4, cap4, n4, rfl, hn4, hO4, hT4⟩
    have hs4 := hT4.size
    have c4 := local_len hT4 (fun e => by have := e.2; omega)
    have hadd := added hX.len hn4 (fun a e => by cases e) hX.full
    have hP4 := (HP3.out.stay hA3).turns hT4 (fun e => hX.apart g hX.gm e.1)
    have hL4 := (((HL2.out.mono (S' := fun k => ((orNew (fun k => S k ∧ k < w.heap.size) w k ∧ k ≠ g) ∧ ¬ D k) ∧ k < w2.heap.size) (fun k hk e => ⟨e, hk⟩)).turns HT3.out (fun k e => e.1.1.2)).turns (Turns.of_below (S := fun _ => False) hA3) (fun _ _ e => e)).turns hT4 (fun k e e2 => by
      rcases e.1.1.1 with e3 | e3
      · exact hX.apart k e3.1 e2.1
      · have := e2.2; omega)
    have hO4' := hO4.mono (S' := fun k => ((So k ∧ k < w.heap.size) ∨ (((orNew (fun k => S k ∧ k < w.heap.size) w k ∧ k ≠ g) ∧ D k) ∧ k < w3.heap.size) ∨ w3.heap.size + 1 ≤ k) ∧ k < w4.heap.size) (fun k hk e => ⟨by rw [hzA] at e; exact e, hk⟩)
    have hT04 : Turns (fun k => (S k ∨ So k) ∨ w.heap.size ≤ k) w w4 := by
      refine (HT1.out.mono (fun k e => Or.inl (Or.inl e.1.1))).trans ((HT2.out.mono (fun k e => ?_)).trans ((HT3.out.mono (fun k e => by rw [e]; exact Or.inl (Or.inl hX.gm))).trans ((Turns.of_below hA3).trans (hT4.mono (fun k e => Or.inl (Or.inr e.1))) (fun _ e _ => e)) (fun _ e _ => e)) (fun _ e _ => e)) (fun _ e _ => e)
      rcases e with e | e
      · exact Or.inl (Or.inl e.1)
      · exact Or.inr e
    have hNx : Rq.next s c = if k = 0 then ({ s with ln := Ln.start, ph := 0 }, [.head { s.hd with length := k }, .fin]) else if 0 < k then ({ s with ln := Ln.start, ph := 2, left := k.toNat }, [.head { s.hd with length := k }]) else ({ s with ln := Ln.start, ph := 3, ck := Ck.start }, [.head { s.hd with length := k }]) := by
      have hk' : Rq.len s.hd = .inr k := HK.out
      have hp1 : s.ph = 1 := HPh.out
      rw [HN.out, HTt.out]
      unfold Rq.line
      rw [if_neg (by show ¬ s.ph = 0; omega), if_pos rfl]
      simp only [hk']
    have hsz4 : w3.heap.size + 1 ≤ w4.heap.size := by rw [← hzA]; exact hs4
    have HP4 := Hid.mk' hP4; have HL4 := Hid.mk' hL4; have HO4 := Hid.mk' hO4'; have HT04 := Hid.mk' hT04; have HAd := Hid.mk' hadd; have HN4 := Hid.mk' hn4; have HNx := Hid.mk' hNx
    have HSz : Hid (w.heap.size ≤ w1.heap.size ∧ w1.heap.size ≤ w2.heap.size ∧ w2.heap.size ≤ w3.heap.size ∧ w3.heap.size + 1 ≤ w4.heap.size) := ⟨hs1, hs2, hs3, hsz4⟩
    have p3 := hP4.c3
    have pf3 := hP4.fz 3
    clear hX hs1 hs2 hs3 hs4 hlt hA3 hzA hE3 hF3 hn4 hO4 hT4 hadd hP4 hL4 hO4' hT04 hNx hsz4 c0 c2
    have HApart : Hid (∀ k, ((((orNew (fun k => S k ∧ k < w.heap.size) w k ∧ k ≠ g) ∧ ¬ D k) ∧ k < w2.heap.size) ∨ k = g) → ¬ (((So k ∧ k < w.heap.size) ∨ (((orNew (fun k => S k ∧ k < w.heap.size) w k ∧ k ≠ g) ∧ D k) ∧ k < w3.heap.size) ∨ w3.heap.size + 1 ≤ k) ∧ k < w4.heap.size)) := fun k e e2 => by
      have hX := HX.out
      have hlt := hX.lt
      obtain ⟨s1, s2, s3, s4⟩ := HSz.out
      rcases e with e | e
      · rcases e2.1 with e2 | e2 | e2
        · rcases e.1.1.1 with e3 | e3
          · exact hX.apart k e3.1 e2.1
          · have := e2.2; omega
        · exact e.1.2 e2.1.2
        · have := e.2; omega
      · subst e
        rcases e2.1 with e2 | e2 | e2
        · exact hX.apart k hX.gm e2.1
        · exact e2.1.1.2 rfl
        · omega
    have HNew : Hid (∀ k, ((((orNew (fun k => S k ∧ k < w.heap.size) w k ∧ k ≠ g) ∧ ¬ D k) ∧ k < w2.heap.size) ∨ k = g) → S k ∨ w.heap.size ≤ k) := fun k e => by
      rcases e with e | e
      · rcases e.1.1.1 with e3 | e3
        · exact Or.inl e3.1
        · exact Or.inr e3
      · rw [e]; exact Or.inl HX.out.gm
    have HOld : Hid (∀ k, (((So k ∧ k < w.heap.size) ∨ (((orNew (fun k => S k ∧ k < w.heap.size) w k ∧ k ≠ g) ∧ D k) ∧ k < w3.heap.size) ∨ w3.heap.size + 1 ≤ k) ∧ k < w4.heap.size) → S k ∨ So k ∨ w.heap.size ≤ k) := fun k e => by
      obtain ⟨s1, s2, s3, s4⟩ := HSz.out
      rcases e.1 with e | e | e
      · exact Or.inr (Or.inl e.1)
      · rcases e.1.1.1 with e3 | e3
        · exact Or.inl e3.1
        · exact Or.inr (Or.inr e3)
      · exact Or.inr (Or.inr (by omega))
    by_cases hk0 : k = 0
    · subst hk0
      go_wp2_with fail
      obtain ⟨a1, a2, a3, a4⟩ := HAd.out
      refine (add_fin w4 _ ao4 cap4 n4 _ HO4.out HN4.out.symm (by have := HX.out.most; omega) a4 a3 (by have := HX.out.sum; omega)).mono ?_
      rintro e w5 ⟨ao5, cap5, n5, rfl, hn5, hO5, hT5⟩
      have HN5 := Hid.mk' hn5; have HO5 := Hid.mk' hO5; have HT5 := Hid.mk' hT5
      clear hn5 hO5 hT5 a1 a2 a3 a4
      go_wp2
      go_ret
      have hN := HNx.out
      first | rw [if_pos rfl] at hN | rw [if_pos trivial] at hN | skip
      obtain ⟨s1, s2, s3, s4⟩ := HSz.out
      have hj2 : Rq.join (Rq.join (es ++ [.head { s.hd with length := 0 }]) ++ [.fin]) = Rq.join (es ++ (Rq.next s c).2) := by rw [hN]; exact Rq.join_two es [_] [.fin]
      refine .mk ao5 cap5 n5 (fun k => (((orNew (fun k => S k ∧ k < w.heap.size) w k ∧ k ≠ g) ∧ ¬ D k) ∧ k < w2.heap.size) ∨ k = g) _ rfl (by rw [← hj2]; exact HN5.out) ?_ (by rw [← hj2]; exact HO5.out) ?_ HNew.out ?_ ?_
      · rw [hN]
        refine ⟨Or.inr rfl, _, _, _, _, HP4.out.turns HT5.out (fun e => HApart.out g (Or.inr rfl) e), .at0 gl2 rfl ((HL4.out.turns HT5.out (fun k e e2 => HApart.out k (Or.inl e) e2)).mono (fun k _ e => ⟨Or.inl e, e.1.1.2⟩))⟩
      · intro k e e2
        rcases e2 with e2 | e2 | e2
        · exact HApart.out k e e2
        · exact e2
        · rcases e with e | e
          · have := e.2; omega
          · have := HX.out.lt; omega
      · intro k e
        rcases e with e | e | e
        · exact HOld.out k e
        · exact e.elim
        · exact Or.inr (Or.inr (by omega))
      · have h := HT04.out.trans (HT5.out.mono (S' := fun k => (S k ∨ So k) ∨ w.heap.size ≤ k) (fun k e => by
          rcases HOld.out k e with e | e | e
          · exact Or.inl (Or.inl e)
          · exact Or.inl (Or.inr e)
          · exact Or.inr e)) (fun _ e _ => e)
        exact ⟨h.os, h.tape, h.output, h.size, fun k hk hn => h.block k hk (fun e => by
          rcases e with e | e
          · exact hn e
          · omega)⟩
    · have tk : (k == 0) = false := beq_eq_false_iff_ne.2 hk0
      by_cases hk1 : 0 < k
      · obtain ⟨m, rfl⟩ : ∃ m : Nat, k = (m : Int) := ⟨k.toNat, by omega⟩
        have HBo := Hid.mk' (bodyOf_count w4 m (by omega))
        have HM := Hid.mk' hk1
        go_wp2_with fail
        refine HBo.out.mono ?_
        rintro e w5 ⟨rfl, hB5, hb5⟩
        have hP5 := HP4.out.stay hb5
        have q3 := hP5.c3
        have qf3 := hP5.fz 3
        have HP5 := Hid.mk' hP5; have HB5 := Hid.mk' hB5; have HBl5 := Hid.mk' hb5
        clear hP5 hB5 hb5
        go_wp2
        go_ret
        have hN := HNx.out
        rw [if_neg hk0, if_pos HM.out] at hN
        obtain ⟨s1, s2, s3, s4⟩ := HSz.out
        have hlt := HX.out.lt
        have hTg := Turns.setCell (fun k => k = g) w5 ⟨g, 3, none⟩ (.iface 171 (.pointer (some ⟨w4.heap.size, 0, none⟩))) rfl
        refine .mk ao4 cap4 n4 (fun k => ((((orNew (fun k => S k ∧ k < w.heap.size) w k ∧ k ≠ g) ∧ ¬ D k) ∧ k < w2.heap.size) ∨ k = g) ∨ k = w4.heap.size) _ rfl (by rw [hN]; exact HN4.out) ?_ (by rw [hN]; exact (HO4.out.stay HBl5.out).turns hTg (fun k e e2 => HApart.out k (Or.inr e2) e)) ?_ ?_ HOld.out ?_
        · rw [hN]
          refine ⟨Or.inl (Or.inr rfl), _, _, _, _, HP5.out.s3 _, .at2 gl2 w4.heap.size rfl (((HL4.out.turns (Turns.of_below (S := fun _ => False) HBl5.out) (fun _ _ e => e)).turns hTg (fun k e => e.1.1.2)).mono (fun k _ e => ⟨⟨Or.inl (Or.inl e), e.1.1.2⟩, by have := e.2; omega⟩)) ⟨Or.inr rfl, by omega⟩ ?_⟩
          have := hTg.row HB5.out (by omega)
          rw [this]
          simp
        · intro k e e2
          rcases e with e | e
          · exact HApart.out k e e2
          · have := e2.2; omega
        · intro k e
          rcases e with e | e
          · exact HNew.out k e
          · exact Or.inr (by omega)
        · have h := HT04.out.trans ((Turns.of_below (S := fun k => (S k ∨ So k) ∨ w.heap.size ≤ k) HBl5.out).trans (hTg.mono (S' := fun k => (S k ∨ So k) ∨ w.heap.size ≤ k) (fun k e => by rw [e]; exact Or.inl (Or.inl HX.out.gm))) (fun _ e _ => e)) (fun _ e _ => e)
          exact ⟨h.os, h.tape, h.output, h.size, fun k hk hn => h.block k hk (fun e => by
            rcases e with e | e
            · exact hn e
            · omega)⟩
      · obtain rfl : k = -1 := by omega
        have HBo := Hid.mk' (bodyOf_chunks w4)
        go_wp2_with fail
        refine HBo.out.mono ?_
        rintro e w5 ⟨gb, rfl, hB5, hb5⟩
        have hP5 := HP4.out.stay hb5
        have q3 := hP5.c3
        have qf3 := hP5.fz 3
        have HP5 := Hid.mk' hP5; have HB5 := Hid.mk' hB5; have HBl5 := Hid.mk' hb5
        clear hP5 hB5 hb5
        go_wp2
        go_ret
        have hN := HNx.out
        rw [if_neg (by omega), if_neg (by omega)] at hN
        obtain ⟨s1, s2, s3, s4⟩ := HSz.out
        have hlt := HX.out.lt
        have hTg := Turns.setCell (fun k => k = g) w5 ⟨g, 3, none⟩ (.iface 169 (.pointer (some ⟨gb, 0, none⟩))) rfl
        refine .mk ao4 cap4 n4 (fun k => ((((orNew (fun k => S k ∧ k < w.heap.size) w k ∧ k ≠ g) ∧ ¬ D k) ∧ k < w2.heap.size) ∨ k = g) ∨ w4.heap.size ≤ k) _ rfl (by rw [hN]; exact HN4.out) ?_ (by rw [hN]; exact (HO4.out.stay HBl5.out).turns hTg (fun k e e2 => HApart.out k (Or.inr e2) e)) ?_ ?_ HOld.out ?_
        · rw [hN]
          refine ⟨Or.inl (Or.inr rfl), _, _, _, _, HP5.out.s3 _, .at3 gl2 gb (fun k => w4.heap.size ≤ k) rfl (((HL4.out.turns (Turns.of_below (S := fun _ => False) HBl5.out) (fun _ _ e => e)).turns hTg (fun k e => e.1.1.2)).mono (fun k _ e => ⟨⟨Or.inl (Or.inl e), e.1.1.2⟩, by have := e.2; omega⟩)) ((HB5.out.turns hTg (fun k e e2 => by omega)).mono (fun k _ e => ⟨⟨Or.inr e, by omega⟩, e⟩))⟩
        · intro k e e2
          rcases e with e | e
          · exact HApart.out k e e2
          · have := e2.2; omega
        · intro k e
          rcases e with e | e
          · exact HNew.out k e
          · exact Or.inr (by omega)
        · have h := HT04.out.trans ((Turns.of_below (S := fun k => (S k ∨ So k) ∨ w.heap.size ≤ k) HBl5.out).trans (hTg.mono (S' := fun k => (S k ∨ So k) ∨ w.heap.size ≤ k) (fun k e => by rw [e]; exact Or.inl (Or.inl HX.out.gm))) (fun _ e _ => e)) (fun _ e _ => e)
          exact ⟨h.os, h.tape, h.output, h.size, fun k hk hn => h.block k hk (fun e => by
            rcases e with e | e
            · exact hn e
            · omega)⟩
end Go.Proofs.YtkafbifogdoneacGreatDoor

/- Package request, walked: Feed. -/
namespace Go.Proofs.YtkafbifogdoneacGreatDoor
open Go.RowKit

theorem feedHead_any (w : World) (S So : Nat → Prop) (g : Nat) (s : Rq.St) (c : UInt8) (ao : Option Addr) (cap n : Nat) (es : List Rq.Ev) (h : ReqAt w S g s) (hG : Rq.Good s) (hp : s.ph = 0 ∨ s.ph = 1) (hO : EvsAt w So ao cap es) (hd : ∀ k, S k → ¬ So k) (hn : es.length = n) (hl : n ≤ 90000) (hj : Rq.Joined es) (hf : Rq.Full es) (hz : Rq.bsum es ≤ 90000) :
    Calls Tryz.prog 37 #[.pointer (some ⟨g, 0, none⟩), .slice ao n cap, .int .u8 c.toNat] w fun e w' => FeedStep w S So g s c es e w' := by
  by_cases hc : (Ln.next s.ln c).code = 0
  · cases he : Ln.ends s.ln c
    · exact feedHead_more w S So g s c ao cap n es h hG hp hc he hO hd hn hj
    · exact feedHead_end w S So g s c ao cap n es h hG hp he hO hd hn hl hj hf hz
  · exact feedHead_code w S So g s c ao cap n es h hG hp hc hO hd hn hl hj hf hz
theorem feedBody_any (w : World) (S So : Nat → Prop) (g : Nat) (s : Rq.St) (c : UInt8) (ao : Option Addr) (cap n : Nat) (es : List Rq.Ev) (h : ReqAt w S g s) (hG : Rq.Good s) (hp : s.ph = 2 ∨ s.ph = 3) (hO : EvsAt w So ao cap es) (hd : ∀ k, S k → ¬ So k) (hn : es.length = n) (hl : n ≤ 90000) (hj : Rq.Joined es) (hf : Rq.Full es) (hz : Rq.bsum es ≤ 90000) :
    Calls Tryz.prog 38 #[.pointer (some ⟨g, 0, none⟩), .slice ao n cap, .int .u8 c.toNat] w fun e w' => FeedStep w S So g s c es e w' := by
  rcases hp with hp | hp
  · exact feedBody_count w S So g s c ao cap n es h hG hp hO hd hn hl hj hf hz
  · by_cases hk : s.ck.ph = 1
    · exact feedBody_byte w S So g s c ao cap n es h hG hp hk hO hd hn hl hj hf hz
    · exact feedBody_line w S So g s c ao cap n es h hG hp hk hO hd hn hl hj hf hz
/-- what the loop over bytes keeps -/
structure FdRel (w : World) (S : Nat → Prop) (g : Nat) (s : Rq.St) (l : List UInt8) (k : Nat) (ao : Option Addr) (cap n : Nat) (wr : World) : Prop where
  len : n = (Rq.join (Rq.outs s (l.take k))).length
  two : ∃ S' So', ReqAt wr S' g (Rq.fold s (l.take k)) ∧ EvsAt wr So' ao cap (Rq.join (Rq.outs s (l.take k))) ∧ (∀ i, S' i → ¬ So' i) ∧ (∀ i, S' i → S i ∨ w.heap.size ≤ i) ∧ (∀ i, So' i → S i ∨ w.heap.size ≤ i)
  turns : Turns S w wr
/-- what Feed comes to -/
inductive FedReq (w : World) (S : Nat → Prop) (g : Nat) (s : Rq.St) (l : List UInt8) (e : Ending) (w' : World) : Prop
  | mk (ao : Option Addr) (cap n : Nat) (S' So' : Nat → Prop) (he : e = .returned (.slice ao n cap)) (hn : n = (Rq.join (Rq.outs s l)).length) (hR : ReqAt w' S' g (Rq.fold s l)) (hO : EvsAt w' So' ao cap (Rq.join (Rq.outs s l))) (hd : ∀ i, S' i → ¬ So' i) (hS : ∀ i, S' i → S i ∨ w.heap.size ≤ i) (hSo : ∀ i, So' i → S i ∨ w.heap.size ≤ i) (hT : Turns S w w')
theorem FdRel.done {w : World} {S : Nat → Prop} {g : Nat} {s : Rq.St} {l : List UInt8} {k : Nat} {ao : Option Addr} {cap n : Nat} {wr : World} (h : FdRel w S g s l k ao cap n wr) (ho : Rq.outs s l = Rq.outs s (l.take k)) (hf : Rq.fold s l = Rq.fold s (l.take k)) : FedReq w S g s l (.returned (.slice ao n cap)) wr := by
  obtain ⟨S', So', h1, h2, h3, h4, h5⟩ := h.two
  exact .mk ao cap n S' So' rfl (by rw [ho]; exact h.len) (by rw [hf]; exact h1) (by rw [ho]; exact h2) h3 h4 h5 h.turns
theorem FdRel.step {w : World} {S : Nat → Prop} {g : Nat} {s : Rq.St} {l : List UInt8} {k : Nat} {S' So' : Nat → Prop} {wr w' : World} {ao2 : Option Addr} {cap2 n2 : Nat} (hk : k < l.length) (hS : ∀ i, S' i → S i ∨ w.heap.size ≤ i) (hSo : ∀ i, So' i → S i ∨ w.heap.size ≤ i) (hT : Turns S w wr)
    (h : FeedStep wr S' So' g (Rq.fold s (l.take k)) l[k] (Rq.join (Rq.outs s (l.take k))) (.returned (.slice ao2 n2 cap2)) w') : FdRel w S g s l (k + 1) ao2 cap2 n2 w' := by
  obtain ⟨ao3, cap3, n3, S3, So3, he, hn, hR, hO, hd, hS3, hSo3, hT3⟩ := h
  injection he with he
  injection he with e1 e2 e3
  subst e1; subst e2; subst e3
  have ht : l.take (k + 1) = l.take k ++ [l[k]] := List.take_succ_eq_append_getElem hk
  have ho : Rq.join (Rq.outs s (l.take (k + 1))) = Rq.join (Rq.join (Rq.outs s (l.take k)) ++ (Rq.next (Rq.fold s (l.take k)) l[k]).2) := by
    rw [ht, Rq.outs_snoc, Rq.join_left]
  have hfo : Rq.fold s (l.take (k + 1)) = (Rq.next (Rq.fold s (l.take k)) l[k]).1 := by rw [ht, Rq.fold_snoc]
  have hsz := hT.size
  refine ⟨by rw [ho]; exact hn, ⟨S3, So3, by rw [hfo]; exact hR, by rw [ho]; exact hO, hd, fun i e => ?_, fun i e => ?_⟩, hT.trans hT3 (fun i e hi => ?_)⟩
  · rcases hS3 i e with e | e
    · exact hS i e
    · exact Or.inr (by omega)
  · rcases hSo3 i e with e | e | e
    · exact hS i e
    · exact hSo i e
    · exact Or.inr (by omega)
  · rcases e with e | e
    · rcases hS i e with e | e
      · exact e
      · omega
    · rcases hSo i e with e | e
      · exact e
      · omega

set_option maxRecDepth 100000 in
set_option maxHeartbeats 2000000 in
theorem feedReq_any (w : World) (S : Nat → Prop) (g : Nat) (s : Rq.St) (l : List UInt8) (bo : Option Addr) (bcap n : Nat) (h : ReqAt w S g s) (hG : Rq.Good s) (hB : IsB w bo bcap l) (hbo : l ≠ [] → ∀ a, bo = some a → ¬ S a.block) (hn : l.length = n) (hl : n ≤ 40000) :
    Calls Tryz.prog 12 #[.pointer (some ⟨g, 0, none⟩), .slice bo n bcap] w fun e w' => FedReq w S g s l e w' := by
  subst hn
  have HB := Hid.mk' hB; have HR := Hid.mk' h; have HG := Hid.mk' hG; have HBo := Hid.mk' hbo
  clear hB h hG hbo
  go_enter Tryz.func12, Tryz.ntmps12
  go_wp2
  go_loopw [5, 10] (fun vo vi wr => ∃ (k : Nat) (ao : Option Addr) (cap n : Nat), k ≤ l.length ∧ vi = .int .i64 k ∧ vo = .slice ao n cap ∧ FdRel w S g s l k ao cap n wr) (fun _ vi _ => l.length - (intOf vi).toNat)
  case atStart =>
    refine ⟨0, none, 0, 0, Nat.zero_le _, rfl, rfl, ⟨rfl, ⟨S, fun _ => False, HR.out, .bare, fun _ _ e => e, fun _ e => Or.inl e, fun _ e => e.elim⟩, Turns.refl _ _⟩⟩
  case round =>
    obtain ⟨k, ao, cap, n, hk, rfl, rfl, hF⟩ := hrel
    have HF := Hid.mk' hF
    clear hF
    by_cases hlt : k < l.length
    · obtain ⟨bb, oo, rfl, _⟩ := HB.out.lit (by omega)
      have hne : l ≠ [] := by intro e; subst e; simp at hlt
      have hbc := (HB.out.turns HF.out.turns (fun a e => HBo.out hne a e)).lit (by omega)
      obtain ⟨b2, o2, he2, hc2⟩ := hbc
      injection he2 with he2
      injection he2 with hb2 ho2
      subst hb2; subst ho2
      have ck := hc2 k hlt
      have hlt' : (k : Int) < l.length := by omega
      have hcap := HB.out.1
      obtain ⟨S', So', hR', hO', hd', hS', hSo'⟩ := HF.out.two
      have hG' : Rq.Good (Rq.fold s (l.take k)) := HG.out.fold _
      have hfew := Rq.fed_few s (l.take k)
      have htk : (l.take k).length ≤ 40000 := by rw [List.length_take]; omega
      have hnl : (Rq.join (Rq.outs s (l.take k))).length = n := HF.out.len.symm
      have HD := Hid.mk' (dead_any wr S' g (Rq.fold s (l.take k)) hR')
      have HStep : Hid (∀ (ao2 : Option Addr) (cap2 n2 : Nat) (w' : World), FeedStep wr S' So' g (Rq.fold s (l.take k)) l[k] (Rq.join (Rq.outs s (l.take k))) (.returned (.slice ao2 n2 cap2)) w' → FdRel w S g s l (k + 1) ao2 cap2 n2 w') := fun ao2 cap2 n2 w' hfs => FdRel.step hlt hS' hSo' HF.out.turns hfs
      by_cases h4 : (Rq.fold s (l.take k)).ph = 4
      · rw [decide_eq_true h4] at HD
        have hdr := Rq.dead_run (l.drop k) (Rq.fold s (l.take k)) h4
        have HDn : Hid (Rq.outs s l = Rq.outs s (l.take k) ∧ Rq.fold s l = Rq.fold s (l.take k)) := by
          constructor
          · conv => lhs; rw [← List.take_append_drop k l, Rq.outs_append, hdr.1, List.append_nil]
          · conv => lhs; rw [← List.take_append_drop k l, Rq.fold_append, hdr.2]
        generalize l[k] = c at *
        clear hR' hO' hd' hG' hfew htk hnl hc2 h4 hdr HStep hS' hSo'
        go_wp2_with (go_at_call 16; refine HD.out.mono ?_; rintro e w1 ⟨rfl, hw⟩; subst hw)
        go_ret
        exact HF.out.done HDn.out.1 HDn.out.2
      · rw [decide_eq_false h4] at HD
        have hph : (Rq.fold s (l.take k)).ph = 0 ∨ (Rq.fold s (l.take k)).ph = 1 ∨ (Rq.fold s (l.take k)).ph = 2 ∨ (Rq.fold s (l.take k)).ph = 3 := by have := hG'.ph; omega
        by_cases hp01 : (Rq.fold s (l.take k)).ph = 0 ∨ (Rq.fold s (l.take k)).ph = 1
        · have HC := Hid.mk' (feedHead_any wr S' So' g _ l[k] ao cap n _ hR' hG' hp01 hO' hd' hnl (by omega) hfew.2.2.2 hfew.2.2.1 (by omega))
          have c3 : wr.cell? ⟨g, 3, none⟩ = some .nilIface := by
            obtain ⟨_, lp, hp, bd, code, hP, hI⟩ := hR'
            cases hI with
            | dead c hc h => omega
            | at0 gl h L => exact hP.c3
            | at1 gl gh D h L H => exact hP.c3
            | at2 gl gb h L hb B => omega
            | at3 gl gb D h L B => omega
          generalize l[k] = c at *
          generalize Rq.fold s (l.take k) = sk at *
          clear hR' hO' hd' hG' hfew htk hnl hc2 h4 hp01 hph hS' hSo'
          go_wp2_with (first
            | (go_at_call 16; refine HD.out.mono ?_; rintro e w1 ⟨rfl, hw⟩; subst hw)
            | (go_at_call 37; refine HC.out.mono ?_; rintro e w2 hst; obtain ⟨ao2, cap2, n2, S2, So2, he, r⟩ := id hst; subst he; have HSt := Hid.mk' hst; clear hst r))
          go_roundw
          case rel => exact ⟨k + 1, ao2, cap2, n2, by omega, by go_num, rfl, HStep.out _ _ _ _ HSt.out⟩
          case measure => simp [intOf]; omega
        · have hp23 : (Rq.fold s (l.take k)).ph = 2 ∨ (Rq.fold s (l.take k)).ph = 3 := by omega
          have HC := Hid.mk' (feedBody_any wr S' So' g _ l[k] ao cap n _ hR' hG' hp23 hO' hd' hnl (by omega) hfew.2.2.2 hfew.2.2.1 (by omega))
          obtain ⟨tt, vv, c3⟩ : ∃ tt vv, wr.cell? ⟨g, 3, none⟩ = some (.iface tt vv) := by
            obtain ⟨_, lp, hp, bd, code, hP, hI⟩ := hR'
            cases hI with
            | dead c hc h => omega
            | at0 gl h L => omega
            | at1 gl gh D h L H => omega
            | at2 gl gb h L hb B => exact ⟨_, _, hP.c3⟩
            | at3 gl gb D h L B => exact ⟨_, _, hP.c3⟩
          generalize l[k] = c at *
          generalize Rq.fold s (l.take k) = sk at *
          clear hR' hO' hd' hG' hfew htk hnl hc2 h4 hp01 hp23 hph hS' hSo'
          go_wp2_with (first
            | (go_at_call 16; refine HD.out.mono ?_; rintro e w1 ⟨rfl, hw⟩; subst hw)
            | (go_at_call 38; refine HC.out.mono ?_; rintro e w2 hst; obtain ⟨ao2, cap2, n2, S2, So2, he, r⟩ := id hst; subst he; have HSt := Hid.mk' hst; clear hst r))
          go_roundw
          case rel => exact ⟨k + 1, ao2, cap2, n2, by omega, by go_num, rfl, HStep.out _ _ _ _ HSt.out⟩
          case measure => simp [intOf]; omega
    · obtain rfl : k = l.length := by omega
      go_wp2
      go_ret
      exact HF.out.done (by rw [List.take_length]) (by rw [List.take_length])
end Go.Proofs.YtkafbifogdoneacGreatDoor
