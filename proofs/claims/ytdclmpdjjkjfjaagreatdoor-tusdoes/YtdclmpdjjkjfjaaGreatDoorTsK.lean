/- Package tus, walked: extend. -/
import Derived.Test.YtdclmpdjjkjfjaaGreatDoorPk28
import Derived.Test.YtdclmpdjjkjfjaaGreatDoorPk21
namespace Go.Proofs.YtdclmpdjjkjfjaaGreatDoor
open Go.RowKit

section
variable {g : Nat} {m t : ByteArray} {mi ln : Int} {l : List (ByteArray × ByteArray)} {fo : Option Addr} {fcap nf : Nat} {bo : Option Addr} {bcap nb : Nat} {w w0 : World} {S : Nat → Prop} {s : Sr.Sh}
/-- the number of a field: none, not there, there -/
theorem numberT_three (name : ByteArray) (hN : name.size ≤ 2000) (h : FlIn w l fo fcap nf) :
    ((Tu.numIn (Tu.one (Tu.vals name l))).2 = false ∧ Hid (∀ W, Below w.heap.size w W → Calls Tryz.prog 82 #[.agg #[.pointer (some ⟨g, 0, none⟩), .string m, .string t, .int .i64 mi, .slice fo nf fcap, .int .i64 ln, .slice bo nb bcap], .string name] W fun e w' => Gave W (Tu.said 400 []) e w')) ∨
    (Tu.numIn (Tu.one (Tu.vals name l)) = (-1, true) ∧ Hid (∀ W, Below w.heap.size w W → Calls Tryz.prog 82 #[.agg #[.pointer (some ⟨g, 0, none⟩), .string m, .string t, .int .i64 mi, .slice fo nf fcap, .int .i64 ln, .slice bo nb bcap], .string name] W fun e w' => e = .returned (.tuple #[.int .i64 0, .bool false]) ∧ Below W.heap.size W w')) ∨
    (∃ x : Int, 0 ≤ x ∧ x < 1000000000 ∧ Tu.numIn (Tu.one (Tu.vals name l)) = (x, true) ∧ Hid (∀ W, Below w.heap.size w W → Calls Tryz.prog 82 #[.agg #[.pointer (some ⟨g, 0, none⟩), .string m, .string t, .int .i64 mi, .slice fo nf fcap, .int .i64 ln, .slice bo nb bcap], .string name] W fun e w' => e = .returned (.tuple #[.int .i64 x, .bool true]) ∧ Below W.heap.size W w')) := by
  by_cases hc : (Tu.one (Tu.vals name l)).2 = 10
  · exact Or.inr (Or.inl ⟨Tu.numIn_none hc, fun W hW => numberT_none name hN (h.stay hW) hc⟩)
  · cases hb : (Tu.numIn (Tu.one (Tu.vals name l))).2 with
    | false => exact Or.inl ⟨rfl, fun W hW => numberT_no name hN (h.stay hW) hb⟩
    | true =>
      have he : Tu.numIn (Tu.one (Tu.vals name l)) = ((Tu.numIn (Tu.one (Tu.vals name l))).1, true) := by rw [← hb]
      refine Or.inr (Or.inr ⟨_, Tu.numIn_pos hc he, ?_, he, fun W hW => numberT_yes name hN (h.stay hW) hc he⟩)
      generalize Tu.one (Tu.vals name l) = r at *
      unfold Tu.numIn at hb ⊢
      rw [if_neg hc] at hb ⊢
      rw [Bool.and_eq_true] at hb
      exact (Ch.number_small hb.1).2
set_option maxRecDepth 100000 in
set_option maxHeartbeats 8000000 in
theorem extendT_any (p : PwIn w0 w S) (h : StAt w S g s) (ok : Sr.Ok s) (hF : FlIn w l fo fcap nf) (body : List UInt8) (hb : body.length = nb) (hB : IsB w bo bcap body) (hnb : nb ≤ 100000) (u : Sp.Up) (uo : Option Addr) (un ucap : Nat) (hun : u.bytes.length = un) (hul : un ≤ 2000) (hs0 : -1 ≤ u.size) :
    Calls Tryz.prog 57 #[.agg #[.pointer (some ⟨g, 0, none⟩), .string m, .string t, .int .i64 mi, .slice fo nf fcap, .int .i64 ln, .slice bo nb bcap], .agg #[.int .i64 u.id, .int .i64 u.size, .string u.note, .slice uo un ucap, .int .i64 u.sent]] w fun e w' => TuEnd S w g (Tu.patch s u l body) e w' := by
  have T3 : TbAt StAt S w g [.cells #[.pointer (some ⟨g, 0, none⟩), .string m, .string t, .int .i64 mi, .slice fo nf fcap, .int .i64 ln, .slice bo nb bcap] 74 (0, 0), .cells #[.int .i64 u.id, .int .i64 u.size, .string u.note, .slice uo un ucap, .int .i64 u.sent] 67 (0, 0), .cells #[.int .i64 0, .slice none 0 0, .slice none 0 0] 32 (0, 0)] s (fun k => S k ∧ k < w.heap.size) (((w.alloc (.cells #[.pointer (some ⟨g, 0, none⟩), .string m, .string t, .int .i64 mi, .slice fo nf fcap, .int .i64 ln, .slice bo nb bcap] 74)).alloc (.cells #[.int .i64 u.id, .int .i64 u.size, .string u.note, .slice uo un ucap, .int .i64 u.sent] 67)).alloc (.cells #[.int .i64 0, .slice none 0 0, .slice none 0 0] 32)) := exThree h _ _
  have HB3 : Hid (Below w.heap.size w (((w.alloc (.cells #[.pointer (some ⟨g, 0, none⟩), .string m, .string t, .int .i64 mi, .slice fo nf fcap, .int .i64 ln, .slice bo nb bcap] 74)).alloc (.cells #[.int .i64 u.id, .int .i64 u.size, .string u.note, .slice uo un ucap, .int .i64 u.sent] 67)).alloc (.cells #[.int .i64 0, .slice none 0 0, .slice none 0 0] 32))) := then_ (then_ ((Below.refl _ w).alloc (Nat.le_refl _) _) ((Below.refl _ _).alloc (Nat.le_refl _) _)) ((Below.refl _ _).alloc (Nat.le_refl _) _)
  have HC : Hid (∀ W s' S', TbAt StAt S w g [.cells #[.pointer (some ⟨g, 0, none⟩), .string m, .string t, .int .i64 mi, .slice fo nf fcap, .int .i64 ln, .slice bo nb bcap] 74 (0, 0), .cells #[.int .i64 u.id, .int .i64 u.size, .string u.note, .slice uo un ucap, .int .i64 u.sent] 67 (0, 0), .cells #[.int .i64 0, .slice none 0 0, .slice none 0 0] 32 (0, 0)] s' S' W → W.cell? ⟨w.heap.size, 0, none⟩ = some (.pointer (some ⟨g, 0, none⟩)) ∧ W.cell? ⟨w.heap.size, 1, none⟩ = some (.string m) ∧ W.cell? ⟨w.heap.size, 2, none⟩ = some (.string t) ∧ W.cell? ⟨w.heap.size, 3, none⟩ = some (.int .i64 mi) ∧ W.cell? ⟨w.heap.size, 4, none⟩ = some (.slice fo nf fcap) ∧ W.cell? ⟨w.heap.size, 5, none⟩ = some (.int .i64 ln) ∧ W.cell? ⟨w.heap.size, 6, none⟩ = some (.slice bo nb bcap)) := fun W s' S' hW => hW.ex
  have HU : Hid (∀ W s' S', TbAt StAt S w g [.cells #[.pointer (some ⟨g, 0, none⟩), .string m, .string t, .int .i64 mi, .slice fo nf fcap, .int .i64 ln, .slice bo nb bcap] 74 (0, 0), .cells #[.int .i64 u.id, .int .i64 u.size, .string u.note, .slice uo un ucap, .int .i64 u.sent] 67 (0, 0), .cells #[.int .i64 0, .slice none 0 0, .slice none 0 0] 32 (0, 0)] s' S' W → W.cell? ⟨w.heap.size + 1, 0, none⟩ = some (.int .i64 u.id) ∧ W.cell? ⟨w.heap.size + 1, 1, none⟩ = some (.int .i64 u.size) ∧ W.cell? ⟨w.heap.size + 1, 2, none⟩ = some (.string u.note) ∧ W.cell? ⟨w.heap.size + 1, 3, none⟩ = some (.slice uo un ucap) ∧ W.cell? ⟨w.heap.size + 1, 4, none⟩ = some (.int .i64 u.sent)) := fun W s' S' hW => hW.up
  have H3 := Hid.mk' T3
  obtain ⟨x0, x1, x2, x3, x4, x5, x6⟩ := HC.out _ _ _ H3.out
  obtain ⟨v0, v1, v2, v3, v4⟩ := HU.out _ _ _ H3.out
  have HF := Hid.mk' hF; have HOk := Hid.mk' ok; have HPw := Hid.mk' p
  have HBd : Hid (∀ W, Below w.heap.size w W → IsB W bo bcap body) := fun W hW => hB.stay hW
  have HBl := Hid.mk' hb
  have hN1 := numberT_three (g := g) (m := m) (t := t) (mi := mi) (ln := ln) (bo := bo) (bcap := bcap) (nb := nb) Tu.fUO (by decide) hF
  have hN2 := numberT_three (g := g) (m := m) (t := t) (mi := mi) (ln := ln) (bo := bo) (bcap := bcap) (nb := nb) Tu.fUL (by decide) hF
  rw [Tu.vals_fUO] at hN1
  rw [Tu.vals_fUL] at hN2
  unfold Tu.fUO at hN1
  unfold Tu.fUL at hN2
  have HS1 : Hid (∀ x W, 0 ≤ u.size → x ≠ u.size → Calls Tryz.prog 83 #[.agg #[.int .i64 u.id, .int .i64 u.size, .string u.note, .slice uo un ucap, .int .i64 u.sent], .int .i64 x, .int .i64 ((un : Int) + nb)] W fun e w' => Gave W (Tu.said 400 []) e w') := fun x W => (needSize_any u.id u.size u.sent x ((un : Int) + nb) u.note uo un ucap W hs0).1
  have HS2 : Hid (∀ x W, u.size < 0 → (2000 < x ∨ x < (un : Int) + nb) → Calls Tryz.prog 83 #[.agg #[.int .i64 u.id, .int .i64 u.size, .string u.note, .slice uo un ucap, .int .i64 u.sent], .int .i64 x, .int .i64 ((un : Int) + nb)] W fun e w' => Gave W (Tu.said 413 []) e w') := fun x W => (needSize_any u.id u.size u.sent x ((un : Int) + nb) u.note uo un ucap W hs0).2.1
  have HS3 : Hid (∀ x W, (0 ≤ u.size ∧ x = u.size) ∨ (u.size < 0 ∧ ¬ (2000 < x ∨ x < (un : Int) + nb)) → Calls Tryz.prog 83 #[.agg #[.int .i64 u.id, .int .i64 u.size, .string u.note, .slice uo un ucap, .int .i64 u.sent], .int .i64 x, .int .i64 ((un : Int) + nb)] W fun e w' => e = .returned (.tuple #[]) ∧ Below W.heap.size W w') := fun x W => (needSize_any u.id u.size u.sent x ((un : Int) + nb) u.note uo un ucap W hs0).2.2
  clear T3 hF ok p h hB
  obtain ⟨R, hR⟩ : ∃ R, R = Tu.patch s u l body := ⟨_, rfl⟩
  rw [← hR]
  unfold Tu.patch at hR
  rw [hun, hb] at hR
  have HD := Hid.mk' hR
  clear hR hun hb
  go_enter Tryz.func57, Tryz.ntmps57
  by_cases hc9 : (Tu.one (Tu.vals Tu.nCT l)).2 = 9
  · rw [if_pos hc9] at HD
    have HM := Hid.mk' (mediaT_many (g := g) (m := m) (t := t) (mi := mi) (ln := ln) (bo := bo) (bcap := bcap) (nb := nb) (HF.out.stay HB3.out) hc9)
    clear hc9 hN1 hN2
    go_wp2_with fail
    refine (HM.out).mono ?_
    rintro e w9 hG
    obtain ⟨HE, ao9, cap9, n9, he⟩ := H3.out.fell hG
    unfold tgave at he
    subst he
    clear hG
    go_wp2
    exact ⟨rfl, by rw [HD.out]; exact HE.out⟩
  rw [if_neg hc9] at HD
  obtain ⟨hm1, hm2⟩ := mediaT_any (g := g) (m := m) (t := t) (mi := mi) (ln := ln) (bo := bo) (bcap := bcap) (nb := nb) (HF.out.stay HB3.out) hc9
  clear hc9
  cases hoff : Tu.isOff (Tu.one (Tu.vals Tu.nCT l)).1 with
  | false =>
    rw [if_pos hoff] at HD
    have HM := Hid.mk' (hm1 hoff)
    clear hm1 hm2 hoff hN1 hN2
    go_wp2_with fail
    refine (HM.out).mono ?_
    rintro e w9 hG
    obtain ⟨HE, ao9, cap9, n9, he⟩ := H3.out.fell hG
    unfold tgave at he
    subst he
    clear hG
    go_wp2
    exact ⟨rfl, by rw [HD.out]; exact HE.out⟩
  | true =>
  rw [if_neg (by rw [hoff]; simp)] at HD
  have HM := Hid.mk' (hm2 hoff)
  clear hm1 hm2 hoff
  go_wp2_with fail
  refine (HM.out).mono ?_
  rintro e w4 ⟨rfl, hw⟩
  have HB4 := Hid.mk' (then_ HB3.out hw)
  have H4 := Hid.mk' (H3.out.stay stLaw hw)
  clear hw H3 HB3 x0 x1 x2 x3 x4 x5 x6 v0 v1 v2 v3 v4
  obtain ⟨x0, x1, x2, x3, x4, x5, x6⟩ := HC.out _ _ _ H4.out
  obtain ⟨v0, v1, v2, v3, v4⟩ := HU.out _ _ _ H4.out
  clear HM
  rcases hN1 with ⟨hx, HN⟩ | ⟨hx, HN⟩ | ⟨x, hx0, hx1, hx, HN⟩
  · rw [if_pos (Or.inl hx)] at HD
    clear hx hN2
    go_wp2_with fail
    refine (HN.out _ HB4.out).mono ?_
    rintro e w9 hG
    obtain ⟨HE, ao9, cap9, n9, he⟩ := H4.out.fell hG
    unfold tgave at he
    subst he
    clear hG
    go_wp2
    exact ⟨rfl, by rw [HD.out]; exact HE.out⟩
  · rw [if_pos (Or.inr (by rw [hx]; decide))] at HD
    clear hx hN2
    go_wp2_with fail
    refine (HN.out _ HB4.out).mono ?_
    rintro e w5 ⟨rfl, hw⟩
    have HB5 := Hid.mk' (then_ HB4.out hw)
    have H5 := Hid.mk' (H4.out.stay stLaw hw)
    clear hw H4 HB4 x0 x1 x2 x3 x4 x5 x6 v0 v1 v2 v3 v4
    obtain ⟨x0, x1, x2, x3, x4, x5, x6⟩ := HC.out _ _ _ H5.out
    obtain ⟨v0, v1, v2, v3, v4⟩ := HU.out _ _ _ H5.out
    go_wp2_with fail
    refine (needT_none 400 400 rfl _).mono ?_
    rintro e w9 hG
    obtain ⟨HE, ao9, cap9, n9, he⟩ := H5.out.fell hG
    unfold tgave at he
    subst he
    clear hG
    go_wp2
    exact ⟨rfl, by rw [HD.out]; exact HE.out⟩
  rw [if_neg (by rw [hx]; exact fun e => e.elim (fun e => by cases e) (fun e => absurd e (by show ¬ x < 0; omega)))] at HD
  rw [hx] at HD
  simp only at HD
  clear hx
  go_wp2_with fail
  refine (HN.out _ HB4.out).mono ?_
  rintro e w5 ⟨rfl, hw⟩
  have HB5 := Hid.mk' (then_ HB4.out hw)
  have H5 := Hid.mk' (H4.out.stay stLaw hw)
  clear hw H4 HB4 x0 x1 x2 x3 x4 x5 x6 v0 v1 v2 v3 v4
  obtain ⟨x0, x1, x2, x3, x4, x5, x6⟩ := HC.out _ _ _ H5.out
  obtain ⟨v0, v1, v2, v3, v4⟩ := HU.out _ _ _ H5.out
  clear HN
  go_wp2_with fail
  refine (needT_yes 400 none 0 0 _).mono ?_
  rintro e wq ⟨rfl, hw⟩
  rw [hw]
  clear hw
  by_cases hxu : x = (un : Int)
  case neg =>
    rw [if_pos hxu] at HD
    have tx : (x == (un : Int)) = false := by rw [beq_eq_false_iff_ne]; exact hxu
    clear hxu hN2
    go_wp2_with fail
    refine (needT_none 409 409 rfl _).mono ?_
    rintro e w9 hG
    obtain ⟨HE, ao9, cap9, n9, he⟩ := H5.out.fell hG
    unfold tgave at he
    subst he
    clear hG
    go_wp2
    exact ⟨rfl, by rw [HD.out]; exact HE.out⟩
  rw [if_neg (fun e => e hxu)] at HD
  subst hxu
  clear hx0 hx1
  go_wp2_with fail
  refine (needT_yes 409 none 0 0 _).mono ?_
  rintro e wq ⟨rfl, hw⟩
  rw [hw]
  clear hw
  rcases hN2 with ⟨hy, HN⟩ | ⟨hy, HN⟩ | ⟨y, hy0, hy1, hy, HN⟩
  · rw [if_pos (Or.inl hy)] at HD
    clear hy
    go_wp2_with fail
    refine (HN.out _ HB5.out).mono ?_
    rintro e w9 hG
    obtain ⟨HE, ao9, cap9, n9, he⟩ := H5.out.fell hG
    unfold tgave at he
    subst he
    clear hG
    go_wp2
    exact ⟨rfl, by rw [HD.out]; exact HE.out⟩
  · have hte : Tu.tell u l ↔ (0 ≤ (-1 : Int) ∧ u.size < 0) := by unfold Tu.tell; rw [hy]
    rw [hy] at HD
    simp only at HD
    rw [if_neg (fun e => e.elim (fun e => by cases e) (fun e => by have := e.1; omega)), if_neg (fun e => by have := (hte.1 e.1).1; omega)] at HD
    have HTe := Hid.mk' hte
    clear hy hte
    go_wp2_with fail
    refine (HN.out _ HB5.out).mono ?_
    rintro e w6 ⟨rfl, hw⟩
    have HB6 := Hid.mk' (then_ HB5.out hw)
    have H6 := Hid.mk' (H5.out.stay stLaw hw)
    clear hw H5 HB5 x0 x1 x2 x3 x4 x5 x6 v0 v1 v2 v3 v4
    obtain ⟨x0, x1, x2, x3, x4, x5, x6⟩ := HC.out _ _ _ H6.out
    obtain ⟨v0, v1, v2, v3, v4⟩ := HU.out _ _ _ H6.out
    obtain ⟨brm, hbrm⟩ : ∃ b, (decide ((0 : Int) ≤ (nb : Int) + 60) && decide ((nb : Int) + 60 ≤ 100000 - (s.log.length : Int))) = b := ⟨_, rfl⟩
    have eR : brm = false ↔ 100000 < s.log.length + (nb + 60) := by
      rw [← hbrm, Bool.and_eq_false_iff, decide_eq_false_iff_not, decide_eq_false_iff_not]
      omega
    have HRm := Hid.mk' (roomSt_any H6.out.sh ((nb : Int) + 60))
    rw [hbrm] at HRm
    clear hbrm
    go_wp2_with fail
    refine HRm.out.mono ?_
    rintro e wq ⟨rfl, hw⟩
    rw [hw]
    clear hw
    clear HRm
    cases brm with
    | false =>
      rw [if_pos (eR.1 rfl)] at HD
      go_wp2_with fail
      refine (needT_none 507 507 rfl _).mono ?_
      rintro e w9 hG
      obtain ⟨HE, ao9, cap9, n9, he⟩ := H6.out.fell hG
      unfold tgave at he
      subst he
      clear hG
      go_wp2
      exact ⟨rfl, by rw [HD.out]; exact HE.out⟩
    | true =>
      rw [if_neg (fun e => by have := eR.2 e; cases this)] at HD
      clear eR
      go_wp2_with fail
      refine (needT_yes 507 none 0 0 _).mono ?_
      rintro e wq ⟨rfl, hw⟩
      rw [hw]
      clear hw
      have HAp := Hid.mk' (appendSt_any H6.out.sh HOk.out u.id (un : Int) bo nb bcap body (HBd.out _ HB6.out) HBl.out (by omega))
      have HSm : Hid ((Sr.append s u.id (un : Int) body).2 ≠ 0 → (Sr.append s u.id (un : Int) body).1 = s) := fun e => by unfold Sr.append at e ⊢; exact Tu.write_same e
      have HOa : Hid (Sr.Ok (Sr.append s u.id (un : Int) body).1) := HOk.out.append _ _ _
      go_wp2_with fail
      refine HAp.out.mono ?_
      rintro e w20 ⟨rfl, hat, hT⟩
      have H20 := Hid.mk' (H6.out.did hat hT)
      clear hat hT HAp H6 HB6 x0 x1 x2 x3 x4 x5 x6 v0 v1 v2 v3 v4
      generalize Sr.append s u.id (un : Int) body = ra at *
      obtain ⟨sa, ca⟩ := ra
      simp only at HD HSm H20 HOa ⊢
      obtain ⟨x0, x1, x2, x3, x4, x5, x6⟩ := HC.out _ _ _ H20.out
      obtain ⟨v0, v1, v2, v3, v4⟩ := HU.out _ _ _ H20.out
      by_cases hca : ca = 0
      · subst hca
        rw [if_neg (by simp)] at HD
        clear HSm
        go_wp2_with fail
        refine (needDone_yes _).mono ?_
        rintro e wq ⟨rfl, hw⟩
        rw [hw]
        clear hw
        rw [if_neg (fun e => by have := (HTe.out.1 e).1; omega)] at HD
        have HSy := Hid.mk' (syncSt_any H20.out.sh)
        go_wp2_with fail
        refine HSy.out.mono ?_
        rintro e w22 ⟨rfl, hat6, hT6⟩
        have H22 := Hid.mk' (H20.out.turned hat6 hT6)
        have HCt := Hid.mk' (countT_any Tu.fUO (un + nb) ((un : Int) + nb) (by omega) (by omega) w22 (H22.out.pow HPw.out))
        unfold Tu.fUO at HCt
        generalize Tu.dec (un + nb) = db at *
        clear hat6 hT6 HSy H20 x0 x1 x2 x3 x4 x5 x6 v0 v1 v2 v3 v4
        go_wp2_with fail
        refine HCt.out.mono ?_
        rintro e w23 ⟨rfl, hw⟩
        have H23 := Hid.mk' ((H22.out.stay stLaw hw).stay stLaw ((Below.refl _ w23).alloc (Nat.le_refl _) (.cells #[.string Tu.fUO, .string db] 58)))
        have HAn := Hid.mk' (answerT_lit 204 204 rfl [(Tu.fUO, db)] (some ⟨w23.heap.size, 0, none⟩) 1 1 _ (IsV.made w23 #[.string Tu.fUO, .string db] 1 58 (0, 0)) rfl (by decide))
        unfold Tu.fUO at HAn H23
        clear hw HCt H22
        go_wp2_with fail
        refine HAn.out.mono ?_
        rintro e w9 ⟨ao9, cap9, n9, rfl, hn9, hO9, hB9⟩
        obtain ⟨⟨z0, z1, z2, y0, y1, y2⟩, HE⟩ := H23.out.ends stLaw (i := 2) rfl (b := w.heap.size + 2) (by first | rfl | omega) (st := 204) (sti := 204) rfl hn9 (Nat.le_trans (Nat.le_add_right _ _) H23.out.sz) hO9 hB9
        clear hn9 hO9 hB9
        go_wp2
        generalize (((w9.setCell ⟨w.heap.size + 2, 0, none⟩ (.int .i64 204)).setCell ⟨w.heap.size + 2, 1, none⟩ (.slice ao9 n9 cap9)).setCell ⟨w.heap.size + 2, 2, none⟩ (.slice none 0 0)) = wf at *
        obtain ⟨q0, q1, q2, q3⟩ := HE.out
        refine bodyPost_ret (v := .agg #[.int .i64 204, .slice ao9 n9 cap9, .slice none 0 0]) (by simp [results, Tryz.results57, go_sem, q0, q1, q2]) rfl ?_
        rw [HD.out]
        exact TuEnd.of q3
      · rw [if_pos hca] at HD
        have hsa := HSm.out hca
        subst hsa
        have HNd := Hid.mk' (needDone_no ca hca w20)
        clear hca HSm
        go_wp2_with fail
        refine (HNd.out).mono ?_
        rintro e w9 hG
        obtain ⟨HE, ao9, cap9, n9, he⟩ := H20.out.fell hG
        unfold tgave at he
        subst he
        clear hG
        go_wp2
        exact ⟨rfl, by rw [HD.out]; exact HE.out⟩
  · have hte : Tu.tell u l ↔ (0 ≤ y ∧ u.size < 0) := by unfold Tu.tell; rw [hy]
    rw [hy] at HD
    simp only at HD
    have HTe := Hid.mk' hte
    clear hy hte
    go_wp2_with fail
    refine (HN.out _ HB5.out).mono ?_
    rintro e w6 ⟨rfl, hw⟩
    have HB6 := Hid.mk' (then_ HB5.out hw)
    have H6 := Hid.mk' (H5.out.stay stLaw hw)
    clear hw H5 HB5 x0 x1 x2 x3 x4 x5 x6 v0 v1 v2 v3 v4
    obtain ⟨x0, x1, x2, x3, x4, x5, x6⟩ := HC.out _ _ _ H6.out
    obtain ⟨v0, v1, v2, v3, v4⟩ := HU.out _ _ _ H6.out
    by_cases hsz : u.size < 0
    · rw [if_neg (fun e => e.elim (fun e => by cases e) (fun e => by have := e.2.1; omega))] at HD
      by_cases hbad : 2000 < y ∨ y < (un : Int) + nb
      · rw [if_pos ⟨HTe.out.2 ⟨hy0, hsz⟩, by simpa using hbad⟩] at HD
        have HQ := Hid.mk' (HS2.out y w6 hsz hbad)
        go_wp2_with fail
        refine (HQ.out).mono ?_
        rintro e w9 hG
        obtain ⟨HE, ao9, cap9, n9, he⟩ := H6.out.fell hG
        unfold tgave at he
        subst he
        clear hG
        go_wp2
        exact ⟨rfl, by rw [HD.out]; exact HE.out⟩
      · rw [if_neg (fun e => hbad (by simpa using e.2))] at HD
        have HQ := Hid.mk' (HS3.out y w6 (Or.inr ⟨hsz, hbad⟩))
        clear hbad
        go_wp2_with fail
        refine (HQ.out).mono ?_
        rintro e w7 ⟨rfl, hw⟩
        have HB7 := Hid.mk' (then_ HB6.out hw)
        have H7 := Hid.mk' (H6.out.stay stLaw hw)
        clear hw H6 HB6 x0 x1 x2 x3 x4 x5 x6 v0 v1 v2 v3 v4
        obtain ⟨x0, x1, x2, x3, x4, x5, x6⟩ := HC.out _ _ _ H7.out
        obtain ⟨v0, v1, v2, v3, v4⟩ := HU.out _ _ _ H7.out
        clear HQ
        obtain ⟨brm, hbrm⟩ : ∃ b, (decide ((0 : Int) ≤ (nb : Int) + 60) && decide ((nb : Int) + 60 ≤ 100000 - (s.log.length : Int))) = b := ⟨_, rfl⟩
        have eR : brm = false ↔ 100000 < s.log.length + (nb + 60) := by
          rw [← hbrm, Bool.and_eq_false_iff, decide_eq_false_iff_not, decide_eq_false_iff_not]
          omega
        have HRm := Hid.mk' (roomSt_any H7.out.sh ((nb : Int) + 60))
        rw [hbrm] at HRm
        clear hbrm
        go_wp2_with fail
        refine HRm.out.mono ?_
        rintro e wq ⟨rfl, hw⟩
        rw [hw]
        clear hw
        clear HRm
        cases brm with
        | false =>
          rw [if_pos (eR.1 rfl)] at HD
          go_wp2_with fail
          refine (needT_none 507 507 rfl _).mono ?_
          rintro e w9 hG
          obtain ⟨HE, ao9, cap9, n9, he⟩ := H7.out.fell hG
          unfold tgave at he
          subst he
          clear hG
          go_wp2
          exact ⟨rfl, by rw [HD.out]; exact HE.out⟩
        | true =>
          rw [if_neg (fun e => by have := eR.2 e; cases this)] at HD
          clear eR
          go_wp2_with fail
          refine (needT_yes 507 none 0 0 _).mono ?_
          rintro e wq ⟨rfl, hw⟩
          rw [hw]
          clear hw
          have HAp := Hid.mk' (appendSt_any H7.out.sh HOk.out u.id (un : Int) bo nb bcap body (HBd.out _ HB7.out) HBl.out (by omega))
          have HSm : Hid ((Sr.append s u.id (un : Int) body).2 ≠ 0 → (Sr.append s u.id (un : Int) body).1 = s) := fun e => by unfold Sr.append at e ⊢; exact Tu.write_same e
          have HOa : Hid (Sr.Ok (Sr.append s u.id (un : Int) body).1) := HOk.out.append _ _ _
          go_wp2_with fail
          refine HAp.out.mono ?_
          rintro e w20 ⟨rfl, hat, hT⟩
          have H20 := Hid.mk' (H7.out.did hat hT)
          clear hat hT HAp H7 HB7 x0 x1 x2 x3 x4 x5 x6 v0 v1 v2 v3 v4
          generalize Sr.append s u.id (un : Int) body = ra at *
          obtain ⟨sa, ca⟩ := ra
          simp only at HD HSm H20 HOa ⊢
          obtain ⟨x0, x1, x2, x3, x4, x5, x6⟩ := HC.out _ _ _ H20.out
          obtain ⟨v0, v1, v2, v3, v4⟩ := HU.out _ _ _ H20.out
          by_cases hca : ca = 0
          · subst hca
            rw [if_neg (by simp)] at HD
            clear HSm
            go_wp2_with fail
            refine (needDone_yes _).mono ?_
            rintro e wq ⟨rfl, hw⟩
            rw [hw]
            clear hw
            rw [if_pos (HTe.out.2 ⟨hy0, hsz⟩)] at HD
            have t1 : (u.size == -1) = true := by rw [beq_iff_eq]; omega
            have HDc := Hid.mk' (declareSt_any H20.out.sh HOa.out u.id y)
            go_wp2_with fail
            refine HDc.out.mono ?_
            rintro e w21 ⟨rfl, hat, hT⟩
            have H21 := Hid.mk' (H20.out.did hat hT)
            clear hat hT HDc H20 x0 x1 x2 x3 x4 x5 x6 v0 v1 v2 v3 v4
            generalize Sr.declare sa u.id y = rd at *
            obtain ⟨sd, cd⟩ := rd
            simp only at HD H21 ⊢
            obtain ⟨x0, x1, x2, x3, x4, x5, x6⟩ := HC.out _ _ _ H21.out
            obtain ⟨v0, v1, v2, v3, v4⟩ := HU.out _ _ _ H21.out
            have HSy := Hid.mk' (syncSt_any H21.out.sh)
            go_wp2_with fail
            refine HSy.out.mono ?_
            rintro e w22 ⟨rfl, hat6, hT6⟩
            have H22 := Hid.mk' (H21.out.turned hat6 hT6)
            have HCt := Hid.mk' (countT_any Tu.fUO (un + nb) ((un : Int) + nb) (by omega) (by omega) w22 (H22.out.pow HPw.out))
            unfold Tu.fUO at HCt
            generalize Tu.dec (un + nb) = db at *
            clear hat6 hT6 HSy H21 x0 x1 x2 x3 x4 x5 x6 v0 v1 v2 v3 v4
            go_wp2_with fail
            refine HCt.out.mono ?_
            rintro e w23 ⟨rfl, hw⟩
            have H23 := Hid.mk' ((H22.out.stay stLaw hw).stay stLaw ((Below.refl _ w23).alloc (Nat.le_refl _) (.cells #[.string Tu.fUO, .string db] 58)))
            have HAn := Hid.mk' (answerT_lit 204 204 rfl [(Tu.fUO, db)] (some ⟨w23.heap.size, 0, none⟩) 1 1 _ (IsV.made w23 #[.string Tu.fUO, .string db] 1 58 (0, 0)) rfl (by decide))
            unfold Tu.fUO at HAn H23
            clear hw HCt H22
            go_wp2_with fail
            refine HAn.out.mono ?_
            rintro e w9 ⟨ao9, cap9, n9, rfl, hn9, hO9, hB9⟩
            obtain ⟨⟨z0, z1, z2, y0, y1, y2⟩, HE⟩ := H23.out.ends stLaw (i := 2) rfl (b := w.heap.size + 2) (by first | rfl | omega) (st := 204) (sti := 204) rfl hn9 (Nat.le_trans (Nat.le_add_right _ _) H23.out.sz) hO9 hB9
            clear hn9 hO9 hB9
            go_wp2
            generalize (((w9.setCell ⟨w.heap.size + 2, 0, none⟩ (.int .i64 204)).setCell ⟨w.heap.size + 2, 1, none⟩ (.slice ao9 n9 cap9)).setCell ⟨w.heap.size + 2, 2, none⟩ (.slice none 0 0)) = wf at *
            obtain ⟨q0, q1, q2, q3⟩ := HE.out
            refine bodyPost_ret (v := .agg #[.int .i64 204, .slice ao9 n9 cap9, .slice none 0 0]) (by simp [results, Tryz.results57, go_sem, q0, q1, q2]) rfl ?_
            rw [HD.out]
            exact TuEnd.of q3
          · rw [if_pos hca] at HD
            have hsa := HSm.out hca
            subst hsa
            have HNd := Hid.mk' (needDone_no ca hca w20)
            clear hca HSm
            go_wp2_with fail
            refine (HNd.out).mono ?_
            rintro e w9 hG
            obtain ⟨HE, ao9, cap9, n9, he⟩ := H20.out.fell hG
            unfold tgave at he
            subst he
            clear hG
            go_wp2
            exact ⟨rfl, by rw [HD.out]; exact HE.out⟩
    · have hsz0 : 0 ≤ u.size := by omega
      by_cases hne : y = u.size
      · rw [if_neg (fun e => e.elim (fun e => by cases e) (fun e => e.2.2 hne)), if_neg (fun e => hsz (HTe.out.1 e.1).2)] at HD
        have HQ := Hid.mk' (HS3.out y w6 (Or.inl ⟨hsz0, hne⟩))
        clear hne
        go_wp2_with fail
        refine (HQ.out).mono ?_
        rintro e w7 ⟨rfl, hw⟩
        have HB7 := Hid.mk' (then_ HB6.out hw)
        have H7 := Hid.mk' (H6.out.stay stLaw hw)
        clear hw H6 HB6 x0 x1 x2 x3 x4 x5 x6 v0 v1 v2 v3 v4
        obtain ⟨x0, x1, x2, x3, x4, x5, x6⟩ := HC.out _ _ _ H7.out
        obtain ⟨v0, v1, v2, v3, v4⟩ := HU.out _ _ _ H7.out
        clear HQ
        obtain ⟨brm, hbrm⟩ : ∃ b, (decide ((0 : Int) ≤ (nb : Int) + 60) && decide ((nb : Int) + 60 ≤ 100000 - (s.log.length : Int))) = b := ⟨_, rfl⟩
        have eR : brm = false ↔ 100000 < s.log.length + (nb + 60) := by
          rw [← hbrm, Bool.and_eq_false_iff, decide_eq_false_iff_not, decide_eq_false_iff_not]
          omega
        have HRm := Hid.mk' (roomSt_any H7.out.sh ((nb : Int) + 60))
        rw [hbrm] at HRm
        clear hbrm
        go_wp2_with fail
        refine HRm.out.mono ?_
        rintro e wq ⟨rfl, hw⟩
        rw [hw]
        clear hw
        clear HRm
        cases brm with
        | false =>
          rw [if_pos (eR.1 rfl)] at HD
          go_wp2_with fail
          refine (needT_none 507 507 rfl _).mono ?_
          rintro e w9 hG
          obtain ⟨HE, ao9, cap9, n9, he⟩ := H7.out.fell hG
          unfold tgave at he
          subst he
          clear hG
          go_wp2
          exact ⟨rfl, by rw [HD.out]; exact HE.out⟩
        | true =>
          rw [if_neg (fun e => by have := eR.2 e; cases this)] at HD
          clear eR
          go_wp2_with fail
          refine (needT_yes 507 none 0 0 _).mono ?_
          rintro e wq ⟨rfl, hw⟩
          rw [hw]
          clear hw
          have HAp := Hid.mk' (appendSt_any H7.out.sh HOk.out u.id (un : Int) bo nb bcap body (HBd.out _ HB7.out) HBl.out (by omega))
          have HSm : Hid ((Sr.append s u.id (un : Int) body).2 ≠ 0 → (Sr.append s u.id (un : Int) body).1 = s) := fun e => by unfold Sr.append at e ⊢; exact Tu.write_same e
          have HOa : Hid (Sr.Ok (Sr.append s u.id (un : Int) body).1) := HOk.out.append _ _ _
          go_wp2_with fail
          refine HAp.out.mono ?_
          rintro e w20 ⟨rfl, hat, hT⟩
          have H20 := Hid.mk' (H7.out.did hat hT)
          clear hat hT HAp H7 HB7 x0 x1 x2 x3 x4 x5 x6 v0 v1 v2 v3 v4
          generalize Sr.append s u.id (un : Int) body = ra at *
          obtain ⟨sa, ca⟩ := ra
          simp only at HD HSm H20 HOa ⊢
          obtain ⟨x0, x1, x2, x3, x4, x5, x6⟩ := HC.out _ _ _ H20.out
          obtain ⟨v0, v1, v2, v3, v4⟩ := HU.out _ _ _ H20.out
          by_cases hca : ca = 0
          · subst hca
            rw [if_neg (by simp)] at HD
            clear HSm
            go_wp2_with fail
            refine (needDone_yes _).mono ?_
            rintro e wq ⟨rfl, hw⟩
            rw [hw]
            clear hw
            have t1 : (u.size == -1) = false := by rw [beq_eq_false_iff_ne]; omega
            rw [if_neg (fun e => by have := (HTe.out.1 e).2; omega)] at HD
            have HSy := Hid.mk' (syncSt_any H20.out.sh)
            go_wp2_with fail
            refine HSy.out.mono ?_
            rintro e w22 ⟨rfl, hat6, hT6⟩
            have H22 := Hid.mk' (H20.out.turned hat6 hT6)
            have HCt := Hid.mk' (countT_any Tu.fUO (un + nb) ((un : Int) + nb) (by omega) (by omega) w22 (H22.out.pow HPw.out))
            unfold Tu.fUO at HCt
            generalize Tu.dec (un + nb) = db at *
            clear hat6 hT6 HSy H20 x0 x1 x2 x3 x4 x5 x6 v0 v1 v2 v3 v4
            go_wp2_with fail
            refine HCt.out.mono ?_
            rintro e w23 ⟨rfl, hw⟩
            have H23 := Hid.mk' ((H22.out.stay stLaw hw).stay stLaw ((Below.refl _ w23).alloc (Nat.le_refl _) (.cells #[.string Tu.fUO, .string db] 58)))
            have HAn := Hid.mk' (answerT_lit 204 204 rfl [(Tu.fUO, db)] (some ⟨w23.heap.size, 0, none⟩) 1 1 _ (IsV.made w23 #[.string Tu.fUO, .string db] 1 58 (0, 0)) rfl (by decide))
            unfold Tu.fUO at HAn H23
            clear hw HCt H22
            go_wp2_with fail
            refine HAn.out.mono ?_
            rintro e w9 ⟨ao9, cap9, n9, rfl, hn9, hO9, hB9⟩
            obtain ⟨⟨z0, z1, z2, y0, y1, y2⟩, HE⟩ := H23.out.ends stLaw (i := 2) rfl (b := w.heap.size + 2) (by first | rfl | omega) (st := 204) (sti := 204) rfl hn9 (Nat.le_trans (Nat.le_add_right _ _) H23.out.sz) hO9 hB9
            clear hn9 hO9 hB9
            go_wp2
            generalize (((w9.setCell ⟨w.heap.size + 2, 0, none⟩ (.int .i64 204)).setCell ⟨w.heap.size + 2, 1, none⟩ (.slice ao9 n9 cap9)).setCell ⟨w.heap.size + 2, 2, none⟩ (.slice none 0 0)) = wf at *
            obtain ⟨q0, q1, q2, q3⟩ := HE.out
            refine bodyPost_ret (v := .agg #[.int .i64 204, .slice ao9 n9 cap9, .slice none 0 0]) (by simp [results, Tryz.results57, go_sem, q0, q1, q2]) rfl ?_
            rw [HD.out]
            exact TuEnd.of q3
          · rw [if_pos hca] at HD
            have hsa := HSm.out hca
            subst hsa
            have HNd := Hid.mk' (needDone_no ca hca w20)
            clear hca HSm
            go_wp2_with fail
            refine (HNd.out).mono ?_
            rintro e w9 hG
            obtain ⟨HE, ao9, cap9, n9, he⟩ := H20.out.fell hG
            unfold tgave at he
            subst he
            clear hG
            go_wp2
            exact ⟨rfl, by rw [HD.out]; exact HE.out⟩
      · rw [if_pos (Or.inr ⟨hy0, hsz0, hne⟩)] at HD
        have HQ := Hid.mk' (HS1.out y w6 hsz0 hne)
        clear hne
        go_wp2_with fail
        refine (HQ.out).mono ?_
        rintro e w9 hG
        obtain ⟨HE, ao9, cap9, n9, he⟩ := H6.out.fell hG
        unfold tgave at he
        subst he
        clear hG
        go_wp2
        exact ⟨rfl, by rw [HD.out]; exact HE.out⟩
end
end Go.Proofs.YtdclmpdjjkjfjaaGreatDoor
