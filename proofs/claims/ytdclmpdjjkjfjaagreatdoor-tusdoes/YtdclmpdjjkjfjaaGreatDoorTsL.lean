/- Package tus, walked: an exchange's reply. -/
import Derived.Test.YtdclmpdjjkjfjaaGreatDoorTsK
import Derived.Test.YtdclmpdjjkjfjaaGreatDoorPk28
import Derived.Test.YtdclmpdjjkjfjaaGreatDoorPk6
namespace Go.Proofs.YtdclmpdjjkjfjaaGreatDoor
open Go.RowKit

section
variable {g : Nat} {m t : ByteArray} {mi ln : Int} {l : List (ByteArray × ByteArray)} {fo : Option Addr} {fcap nf : Nat} {bo : Option Addr} {bcap nb : Nat} {w w0 : World} {S : Nat → Prop} {s : Sr.Sh}
theorem TbAt.pw {O : ObP} {S' : Nat → Prop} {bs : List Obj} {W : World} (h : TbAt O S w g bs s S' W) (p : PwIn w0 w S) : PwIn w0 W S' :=
  ⟨p.pow, p.bel.trans (h.tu.below (fun k e => p.far k e.1) p.bel.size), fun k e => by
    have hz := p.bel.size
    rcases h.ap k e with h2 | h2
    · exact p.far k h2.1
    · omega⟩
set_option maxRecDepth 100000 in
set_option maxHeartbeats 8000000 in
theorem replyT_any (p : PwIn w0 w S) (h : StAt w S g s) (ok : Sr.Ok s) (hlg : s.log.length ≤ 99000) (hF : FlIn w l fo fcap nf) (body : List UInt8) (hb : body.length = nb) (hB : IsB w bo bcap body) (hnb : nb ≤ 100000) (ht : t.size ≤ 100000) :
    Calls Tryz.prog 28 #[.agg #[.pointer (some ⟨g, 0, none⟩), .string m, .string t, .int .i64 mi, .slice fo nf fcap, .int .i64 ln, .slice bo nb bcap]] w fun e w' => TuEnd S w g (Tu.tus s m t l body) e w' := by
  have T2 : TbAt StAt S w g [.cells #[.pointer (some ⟨g, 0, none⟩), .string m, .string t, .int .i64 mi, .slice fo nf fcap, .int .i64 ln, .slice bo nb bcap] 74 (0, 0), .cells #[.int .i64 0, .slice none 0 0, .slice none 0 0] 32 (0, 0)] s (fun k => S k ∧ k < w.heap.size) ((w.alloc (.cells #[.pointer (some ⟨g, 0, none⟩), .string m, .string t, .int .i64 mi, .slice fo nf fcap, .int .i64 ln, .slice bo nb bcap] 74)).alloc (.cells #[.int .i64 0, .slice none 0 0, .slice none 0 0] 32)) := exTwo h _
  have HB2 : Hid (Below w.heap.size w ((w.alloc (.cells #[.pointer (some ⟨g, 0, none⟩), .string m, .string t, .int .i64 mi, .slice fo nf fcap, .int .i64 ln, .slice bo nb bcap] 74)).alloc (.cells #[.int .i64 0, .slice none 0 0, .slice none 0 0] 32))) := then_ ((Below.refl _ w).alloc (Nat.le_refl _) _) ((Below.refl _ _).alloc (Nat.le_refl _) _)
  have HC : Hid (∀ W s' S', TbAt StAt S w g [.cells #[.pointer (some ⟨g, 0, none⟩), .string m, .string t, .int .i64 mi, .slice fo nf fcap, .int .i64 ln, .slice bo nb bcap] 74 (0, 0), .cells #[.int .i64 0, .slice none 0 0, .slice none 0 0] 32 (0, 0)] s' S' W → W.cell? ⟨w.heap.size, 0, none⟩ = some (.pointer (some ⟨g, 0, none⟩)) ∧ W.cell? ⟨w.heap.size, 1, none⟩ = some (.string m) ∧ W.cell? ⟨w.heap.size, 2, none⟩ = some (.string t) ∧ W.cell? ⟨w.heap.size, 3, none⟩ = some (.int .i64 mi) ∧ W.cell? ⟨w.heap.size, 4, none⟩ = some (.slice fo nf fcap) ∧ W.cell? ⟨w.heap.size, 5, none⟩ = some (.int .i64 ln) ∧ W.cell? ⟨w.heap.size, 6, none⟩ = some (.slice bo nb bcap)) := fun W s' S' hW => hW.ex
  obtain ⟨x0, x1, x2, x3, x4, x5, x6⟩ := HC.out _ _ _ T2
  have H2 := Hid.mk' T2
  have HF := Hid.mk' hF; have HOk := Hid.mk' ok; have HPw := Hid.mk' p; have HBd := Hid.mk' hB; have HBl := Hid.mk' hb; have HLg := Hid.mk' hlg
  clear T2 hF ok p h hB hb hlg
  obtain ⟨R, hR⟩ : ∃ R, R = Tu.tus s m t l body := ⟨_, rfl⟩
  rw [← hR]
  unfold Tu.tus at hR
  have HD := Hid.mk' hR
  clear hR
  obtain ⟨bf, hbf⟩ : ∃ b, (t.toList == ([47, 102, 105, 108, 101, 115] : List UInt8)) = b := ⟨_, rfl⟩
  have eF : t = Tu.bFiles ↔ bf = true := by rw [← hbf]; exact Tu.eqL t Tu.bFiles _ rfl
  obtain ⟨bo_, hbo_⟩ : ∃ b, (m.toList == ([79, 80, 84, 73, 79, 78, 83] : List UInt8)) = b := ⟨_, rfl⟩
  have eO : m = Tu.mOpt ↔ bo_ = true := by rw [← hbo_]; exact Tu.eqL m Tu.mOpt _ rfl
  go_enter Tryz.func28, Tryz.ntmps28
  cases bf with
  | true =>
    have HTf := Hid.mk' (eF.2 rfl)
    cases bo_ with
    | true =>
      rw [if_pos ⟨eF.2 rfl, eO.2 rfl⟩] at HD
      have HOp : Hid (Calls Tryz.prog 50 #[] ((w.alloc (.cells #[.pointer (some ⟨g, 0, none⟩), .string m, .string t, .int .i64 mi, .slice fo nf fcap, .int .i64 ln, .slice bo nb bcap] 74)).alloc (.cells #[.int .i64 0, .slice none 0 0, .slice none 0 0] 32)) fun e w' => ∃ (ao : Option Addr) (cap k : Nat), e = .returned (.agg #[.int .i64 204, .slice ao k cap, .slice none 0 0]) ∧ (Tu.said 204 [(Tu.fTV, Tu.v100), (Tu.fTX, Tu.v2000), (Tu.fTE, Tu.vTE)]).2.length = k ∧ OwnV w' ((w.alloc (.cells #[.pointer (some ⟨g, 0, none⟩), .string m, .string t, .int .i64 mi, .slice fo nf fcap, .int .i64 ln, .slice bo nb bcap] 74)).alloc (.cells #[.int .i64 0, .slice none 0 0, .slice none 0 0] 32)).heap.size 58 2 ao cap k (pairV (Tu.said 204 [(Tu.fTV, Tu.v100), (Tu.fTX, Tu.v2000), (Tu.fTE, Tu.vTE)]).2) ∧ Below ((w.alloc (.cells #[.pointer (some ⟨g, 0, none⟩), .string m, .string t, .int .i64 mi, .slice fo nf fcap, .int .i64 ln, .slice bo nb bcap] 74)).alloc (.cells #[.int .i64 0, .slice none 0 0, .slice none 0 0] 32)).heap.size ((w.alloc (.cells #[.pointer (some ⟨g, 0, none⟩), .string m, .string t, .int .i64 mi, .slice fo nf fcap, .int .i64 ln, .slice bo nb bcap] 74)).alloc (.cells #[.int .i64 0, .slice none 0 0, .slice none 0 0] 32)) w') := optionsT_any _ (H2.out.pow HPw.out)
      clear eF eO
      go_wp2_with fail
      refine HOp.out.mono ?_
      rintro e w9 ⟨ao9, cap9, n9, rfl, hn9, hO9, hB9⟩
      obtain ⟨⟨z0, z1, z2, y0, y1, y2⟩, HE⟩ := H2.out.ends stLaw (i := 1) rfl (b := w.heap.size + 1) (by first | rfl | omega) (st := 204) (sti := 204) rfl hn9 (Nat.le_trans (Nat.le_add_right _ _) H2.out.sz) hO9 hB9
      clear hn9 hO9 hB9
      go_wp2
      generalize (((w9.setCell ⟨w.heap.size + 1, 0, none⟩ (.int .i64 204)).setCell ⟨w.heap.size + 1, 1, none⟩ (.slice ao9 n9 cap9)).setCell ⟨w.heap.size + 1, 2, none⟩ (.slice none 0 0)) = wf at *
      obtain ⟨q0, q1, q2, q3⟩ := HE.out
      refine bodyPost_ret (v := .agg #[.int .i64 204, .slice ao9 n9 cap9, .slice none 0 0]) (by simp [results, Tryz.results28, go_sem, q0, q1, q2]) rfl ?_
      rw [HD.out]
      exact TuEnd.of q3
    | false =>
      rw [if_neg (fun e => by have := eO.1 e.2; cases this)] at HD
      clear eF eO
      have hzr := HF.out.val Tu.nTR
      generalize hvr : Tu.one (Tu.vals Tu.nTR l) = rr at *
      obtain ⟨vr, cr⟩ := rr
      simp only at hzr HD
      by_cases hr9 : cr = 9
      · subst hr9
        rw [if_pos rfl] at HD
        have HT := Hid.mk' (textT_no (g := g) (m := m) (t := t) (mi := mi) (ln := ln) (bo := bo) (bcap := bcap) (nb := nb) Tu.fTR (by decide) (HF.out.stay HB2.out) (by rw [Tu.vals_fTR]; exact hvr))
        unfold Tu.fTR at HT
        clear hvr hzr
        go_wp2_with fail
        refine (HT.out).mono ?_
        rintro e w9 hG
        obtain ⟨HE, ao9, cap9, n9, he⟩ := H2.out.fell hG
        unfold tgave at he
        subst he
        clear hG
        go_wp2
        exact ⟨rfl, by rw [HD.out]; exact HE.out⟩
      rw [if_neg hr9] at HD
      have HT := Hid.mk' (textT_yes (g := g) (m := m) (t := t) (mi := mi) (ln := ln) (bo := bo) (bcap := bcap) (nb := nb) Tu.fTR (by decide) (HF.out.stay HB2.out) (by rw [Tu.vals_fTR]; exact hvr) hr9)
      unfold Tu.fTR at HT
      clear hvr hzr hr9
      generalize decide (cr = 0) = cb at *
      obtain ⟨bv, hbv⟩ : ∃ b, ((⟨vr.toArray⟩ : ByteArray).toList == ([49, 46, 48, 46, 48] : List UInt8)) = b := ⟨_, rfl⟩
      have eV : vr = Tu.v100.data.toList ↔ bv = true := by rw [← hbv]; exact Tu.eqV vr _
      generalize (⟨vr.toArray⟩ : ByteArray) = vb at *
      go_wp2_with fail
      refine (HT.out).mono ?_
      rintro e w3 ⟨rfl, hw⟩
      have HB3 := Hid.mk' (then_ HB2.out hw)
      have H3 := Hid.mk' (H2.out.stay stLaw hw)
      clear hw H2 HB2 x0 x1 x2 x3 x4 x5 x6
      obtain ⟨x0, x1, x2, x3, x4, x5, x6⟩ := HC.out _ _ _ H3.out
      clear HT
      have HFd := Hid.mk' (fieldT_any Tu.fTV Tu.v100 w3)
      unfold Tu.fTV Tu.v100 at HFd
      go_wp2_with fail
      refine HFd.out.mono ?_
      rintro e w4 ⟨rfl, hw⟩
      have hba := (Below.refl _ w4).alloc (Nat.le_refl _) (.cells #[.string Tu.fTV, .string Tu.v100] 58)
      have H4 := Hid.mk' ((H3.out.stay stLaw hw).stay stLaw hba)
      have HB4 := Hid.mk' (then_ (then_ HB3.out hw) hba)
      have HNo := Hid.mk' (needT_no 412 412 rfl [(Tu.fTV, Tu.v100)] (some ⟨w4.heap.size, 0, none⟩) 1 1 _ (IsV.made w4 #[.string Tu.fTV, .string Tu.v100] 1 58 (0, 0)) rfl (by decide))
      clear hw hba HFd H3 HB3 x0 x1 x2 x3 x4 x5 x6
      cases bv with
      | false =>
        rw [if_pos (fun e => by have := eV.1 e; cases this)] at HD
        unfold Tu.fTV Tu.v100 at HNo H4
        go_wp2_with fail
        refine (HNo.out).mono ?_
        rintro e w9 hG
        obtain ⟨HE, ao9, cap9, n9, he⟩ := H4.out.fell hG
        unfold tgave at he
        subst he
        clear hG
        go_wp2
        exact ⟨rfl, by rw [HD.out]; exact HE.out⟩
      | true =>
      rw [if_neg (fun e => e (eV.2 rfl))] at HD
      clear eV HNo
      obtain ⟨x0, x1, x2, x3, x4, x5, x6⟩ := HC.out _ _ _ H4.out
      unfold Tu.fTV Tu.v100 at x0 x1 x2 x3 x4 x5 x6 H4 HB4
      go_wp2_with fail
      refine (needT_yes 412 _ _ _ _).mono ?_
      rintro e wq ⟨rfl, hw⟩
      rw [hw]
      clear hw
      generalize (w4.alloc (.cells #[.string ⟨#[84, 117, 115, 45, 86, 101, 114, 115, 105, 111, 110]⟩, .string ⟨#[49, 46, 48, 46, 48]⟩] 58)) = w5 at *
      rw [if_pos HTf.out] at HD
      have HCr := Hid.mk' (createT_any (g := g) (m := m) (t := t) (mi := mi) (ln := ln) (bo := bo) (bcap := bcap) (nb := nb) (H4.out.pw HPw.out) H4.out.sh HOk.out (HF.out.stay HB4.out))
      generalize Tu.post s m l = r9 at *
      obtain ⟨sr, st, lr⟩ := r9
      go_wp2_with fail
      refine (HCr.out).mono ?_
      rintro e w9 hE
      cases hE with
      | @gave ao9 cap9 n9 _ hn9 hO9 hat9 hT9 =>
        have HE := Hid.mk' (H4.out.fellT hn9 hO9 hat9 hT9)
        unfold tgave at HE ⊢
        clear hn9 hO9 hat9 hT9
        go_wp2
        exact ⟨rfl, by rw [HD.out]; exact HE.out⟩
      | @ret ao9 cap9 n9 _ hn9 hO9 hat9 hT9 =>
        have hH9 := H4.out.did hat9 hT9
        replace hO9 := hO9.mono (Nat.le_trans (Nat.le_add_right _ _) H4.out.sz)
        have hB9 := Below.refl w9.heap.size w9
        obtain ⟨⟨z0, z1, z2, y0, y1, y2⟩, HE⟩ := hH9.ends stLaw (i := 1) rfl (b := w.heap.size + 1) (by first | rfl | omega) (st := st) (sti := (st : Int)) rfl hn9 (Nat.le_refl _) hO9 hB9
        clear hn9 hO9 hB9 hat9 hT9 hH9
        go_wp2
        generalize (((w9.setCell ⟨w.heap.size + 1, 0, none⟩ (.int .i64 (st : Int))).setCell ⟨w.heap.size + 1, 1, none⟩ (.slice ao9 n9 cap9)).setCell ⟨w.heap.size + 1, 2, none⟩ (.slice none 0 0)) = wf at *
        obtain ⟨q0, q1, q2, q3⟩ := HE.out
        refine bodyPost_ret (v := .agg #[.int .i64 (st : Int), .slice ao9 n9 cap9, .slice none 0 0]) (by simp [results, Tryz.results28, go_sem, q0, q1, q2]) rfl ?_
        rw [HD.out]
        exact TuEnd.of q3
  | false =>
    have HTf : Hid (¬ t = Tu.bFiles) := fun e => by have := eF.1 e; cases this
    rw [if_neg (fun e => HTf.out e.1)] at HD
    clear eF eO
    cases bo_ with
    | true =>
      have hzr := HF.out.val Tu.nTR
      generalize hvr : Tu.one (Tu.vals Tu.nTR l) = rr at *
      obtain ⟨vr, cr⟩ := rr
      simp only at hzr HD
      by_cases hr9 : cr = 9
      · subst hr9
        rw [if_pos rfl] at HD
        have HT := Hid.mk' (textT_no (g := g) (m := m) (t := t) (mi := mi) (ln := ln) (bo := bo) (bcap := bcap) (nb := nb) Tu.fTR (by decide) (HF.out.stay HB2.out) (by rw [Tu.vals_fTR]; exact hvr))
        unfold Tu.fTR at HT
        clear hvr hzr
        go_wp2_with fail
        refine (HT.out).mono ?_
        rintro e w9 hG
        obtain ⟨HE, ao9, cap9, n9, he⟩ := H2.out.fell hG
        unfold tgave at he
        subst he
        clear hG
        go_wp2
        exact ⟨rfl, by rw [HD.out]; exact HE.out⟩
      rw [if_neg hr9] at HD
      have HT := Hid.mk' (textT_yes (g := g) (m := m) (t := t) (mi := mi) (ln := ln) (bo := bo) (bcap := bcap) (nb := nb) Tu.fTR (by decide) (HF.out.stay HB2.out) (by rw [Tu.vals_fTR]; exact hvr) hr9)
      unfold Tu.fTR at HT
      clear hvr hzr hr9
      generalize decide (cr = 0) = cb at *
      obtain ⟨bv, hbv⟩ : ∃ b, ((⟨vr.toArray⟩ : ByteArray).toList == ([49, 46, 48, 46, 48] : List UInt8)) = b := ⟨_, rfl⟩
      have eV : vr = Tu.v100.data.toList ↔ bv = true := by rw [← hbv]; exact Tu.eqV vr _
      generalize (⟨vr.toArray⟩ : ByteArray) = vb at *
      go_wp2_with fail
      refine (HT.out).mono ?_
      rintro e w3 ⟨rfl, hw⟩
      have HB3 := Hid.mk' (then_ HB2.out hw)
      have H3 := Hid.mk' (H2.out.stay stLaw hw)
      clear hw H2 HB2 x0 x1 x2 x3 x4 x5 x6
      obtain ⟨x0, x1, x2, x3, x4, x5, x6⟩ := HC.out _ _ _ H3.out
      clear HT
      have HFd := Hid.mk' (fieldT_any Tu.fTV Tu.v100 w3)
      unfold Tu.fTV Tu.v100 at HFd
      go_wp2_with fail
      refine HFd.out.mono ?_
      rintro e w4 ⟨rfl, hw⟩
      have hba := (Below.refl _ w4).alloc (Nat.le_refl _) (.cells #[.string Tu.fTV, .string Tu.v100] 58)
      have H4 := Hid.mk' ((H3.out.stay stLaw hw).stay stLaw hba)
      have HB4 := Hid.mk' (then_ (then_ HB3.out hw) hba)
      have HNo := Hid.mk' (needT_no 412 412 rfl [(Tu.fTV, Tu.v100)] (some ⟨w4.heap.size, 0, none⟩) 1 1 _ (IsV.made w4 #[.string Tu.fTV, .string Tu.v100] 1 58 (0, 0)) rfl (by decide))
      clear hw hba HFd H3 HB3 x0 x1 x2 x3 x4 x5 x6
      cases bv with
      | false =>
        rw [if_pos (fun e => by have := eV.1 e; cases this)] at HD
        unfold Tu.fTV Tu.v100 at HNo H4
        go_wp2_with fail
        refine (HNo.out).mono ?_
        rintro e w9 hG
        obtain ⟨HE, ao9, cap9, n9, he⟩ := H4.out.fell hG
        unfold tgave at he
        subst he
        clear hG
        go_wp2
        exact ⟨rfl, by rw [HD.out]; exact HE.out⟩
      | true =>
      rw [if_neg (fun e => e (eV.2 rfl))] at HD
      clear eV HNo
      obtain ⟨x0, x1, x2, x3, x4, x5, x6⟩ := HC.out _ _ _ H4.out
      unfold Tu.fTV Tu.v100 at x0 x1 x2 x3 x4 x5 x6 H4 HB4
      go_wp2_with fail
      refine (needT_yes 412 _ _ _ _).mono ?_
      rintro e wq ⟨rfl, hw⟩
      rw [hw]
      clear hw
      generalize (w4.alloc (.cells #[.string ⟨#[84, 117, 115, 45, 86, 101, 114, 115, 105, 111, 110]⟩, .string ⟨#[49, 46, 48, 46, 48]⟩] 58)) = w5 at *
      rw [if_neg HTf.out] at HD
      obtain ⟨hup1, hup2⟩ := uploadT_any (g := g) (m := m) (t := t) (mi := mi) (ln := ln) (fo := fo) (fcap := fcap) (nf := nf) (bo := bo) (bcap := bcap) (nb := nb) H4.out.sh HOk.out (H4.out.pow HPw.out) ht
      cases hua : Tu.upAt s.h t with
      | none =>
        rw [hua] at HD
        simp only at HD
        have HUp := Hid.mk' (hup1 hua)
        clear hup1 hup2 hua
        go_wp2_with fail
        refine (HUp.out).mono ?_
        rintro e w9 hG
        obtain ⟨HE, ao9, cap9, n9, he⟩ := H4.out.fell hG
        unfold tgave at he
        subst he
        clear hG
        go_wp2
        exact ⟨rfl, by rw [HD.out]; exact HE.out⟩
      | some u =>
      rw [hua] at HD
      simp only at HD
      have HUp := Hid.mk' (hup2 u hua)
      have hmem := (Tu.upAt_mem hua).1
      have huo := HOk.out.h.all u hmem
      have hul := huo.long; have hs0 := huo.size0; have hs1 := huo.size1
      have HDz := Hid.mk' (Tu.drop_room HOk.out hua HLg.out)
      clear hup1 hup2 hua hmem huo
      obtain ⟨un, hun⟩ : ∃ un, u.bytes.length = un := ⟨_, rfl⟩
      have HUn := Hid.mk' hun
      rw [hun] at hul
      rw [hun] at HUp
      clear hun
      go_wp2_with fail
      refine HUp.out.mono ?_
      rintro e w6 ⟨uo, ucap, rfl, hw⟩
      have hba := (Below.refl _ w6).alloc (Nat.le_refl _) (.cells #[.int .i64 u.id, .int .i64 u.size, .string u.note, .slice uo un ucap, .int .i64 u.sent] 67)
      have H6 := Hid.mk' ((H4.out.stay stLaw hw).stay stLaw hba)
      have HB6 := Hid.mk' (then_ (then_ HB4.out hw) hba)
      clear hw hba HUp H4 HB4 x0 x1 x2 x3 x4 x5 x6
      obtain ⟨x0, x1, x2, x3, x4, x5, x6⟩ := HC.out _ _ _ H6.out
      have v0 : (w6.alloc (.cells #[.int .i64 u.id, .int .i64 u.size, .string u.note, .slice uo un ucap, .int .i64 u.sent] 67)).cell? ⟨w6.heap.size, 0, none⟩ = some (.int .i64 u.id) := World.cell?_alloc_mark w6 _ _ _ 0
      have v1 : (w6.alloc (.cells #[.int .i64 u.id, .int .i64 u.size, .string u.note, .slice uo un ucap, .int .i64 u.sent] 67)).cell? ⟨w6.heap.size, 1, none⟩ = some (.int .i64 u.size) := World.cell?_alloc_mark w6 _ _ _ 1
      have v2 : (w6.alloc (.cells #[.int .i64 u.id, .int .i64 u.size, .string u.note, .slice uo un ucap, .int .i64 u.sent] 67)).cell? ⟨w6.heap.size, 2, none⟩ = some (.string u.note) := World.cell?_alloc_mark w6 _ _ _ 2
      have v3 : (w6.alloc (.cells #[.int .i64 u.id, .int .i64 u.size, .string u.note, .slice uo un ucap, .int .i64 u.sent] 67)).cell? ⟨w6.heap.size, 3, none⟩ = some (.slice uo un ucap) := World.cell?_alloc_mark w6 _ _ _ 3
      have v4 : (w6.alloc (.cells #[.int .i64 u.id, .int .i64 u.size, .string u.note, .slice uo un ucap, .int .i64 u.sent] 67)).cell? ⟨w6.heap.size, 4, none⟩ = some (.int .i64 u.sent) := World.cell?_alloc_mark w6 _ _ _ 4
      go_upto_region 8 with fail
      generalize (w6.alloc (.cells #[.int .i64 u.id, .int .i64 u.size, .string u.note, .slice uo un ucap, .int .i64 u.sent] 67)) = w7 at *
      generalize w6.heap.size = k6 at *
      unfold Tu.ask at HD
      obtain ⟨bh, hbh⟩ : ∃ b, (m.toList == ([72, 69, 65, 68] : List UInt8)) = b := ⟨_, rfl⟩
      have eH : m = Tu.mHead ↔ bh = true := by rw [← hbh]; exact Tu.eqL m Tu.mHead _ rfl
      cases bh with
      | true =>
        rw [if_pos (eH.2 rfl)] at HD
        have HDs : Hid (Calls Tryz.prog 56 #[.agg #[.int .i64 u.id, .int .i64 u.size, .string u.note, .slice uo un ucap, .int .i64 u.sent]] w7 fun e w' => ∃ (ao : Option Addr) (cap k : Nat), e = .returned (.agg #[.int .i64 200, .slice ao k cap, .slice none 0 0]) ∧ (Tu.head u).2.length = k ∧ OwnV w' w7.heap.size 58 2 ao cap k (pairV (Tu.head u).2) ∧ Below w7.heap.size w7 w') := describeT_any u uo un ucap HUn.out hs0 hs1 hul w7 (H6.out.pow HPw.out)
        have HHd : Hid (Tu.head u = (200, (Tu.head u).2)) := by unfold Hid; rfl
        rw [HHd.out] at HD
        clear eH HHd
        generalize (Tu.head u).2 = lh at *
        go_wp2_with fail
        refine HDs.out.mono ?_
        rintro e w9 ⟨ao9, cap9, n9, rfl, hn9, hO9, hB9⟩
        obtain ⟨⟨z0, z1, z2, y0, y1, y2⟩, HE⟩ := H6.out.ends stLaw (i := 1) rfl (b := w.heap.size + 1) (by first | rfl | omega) (st := 200) (sti := 200) rfl hn9 (Nat.le_trans (Nat.le_add_right _ _) H6.out.sz) hO9 hB9
        clear hn9 hO9 hB9
        go_wp2
        generalize (((w9.setCell ⟨w.heap.size + 1, 0, none⟩ (.int .i64 200)).setCell ⟨w.heap.size + 1, 1, none⟩ (.slice ao9 n9 cap9)).setCell ⟨w.heap.size + 1, 2, none⟩ (.slice none 0 0)) = wf at *
        obtain ⟨q0, q1, q2, q3⟩ := HE.out
        refine bodyPost_ret (v := .agg #[.int .i64 200, .slice ao9 n9 cap9, .slice none 0 0]) (by simp [results, Tryz.results28, go_sem, q0, q1, q2]) rfl ?_
        rw [HD.out]
        exact TuEnd.of q3
      | false =>
      rw [if_neg (fun e => by have := eH.1 e; cases this)] at HD
      clear eH
      obtain ⟨bt, hbt⟩ : ∃ b, (m.toList == ([80, 65, 84, 67, 72] : List UInt8)) = b := ⟨_, rfl⟩
      have eT : m = Tu.mPat ↔ bt = true := by rw [← hbt]; exact Tu.eqL m Tu.mPat _ rfl
      cases bt with
      | true =>
        rw [if_neg (fun e => by have := (eT.2 rfl).symm.trans e; revert this; decide), if_pos (eT.2 rfl)] at HD
        have HEx := Hid.mk' (extendT_any (g := g) (m := m) (t := t) (mi := mi) (ln := ln) (bo := bo) (bcap := bcap) (nb := nb) (H6.out.pw HPw.out) H6.out.sh HOk.out (HF.out.stay HB6.out) body HBl.out (HBd.out.stay HB6.out) hnb u uo un ucap HUn.out hul hs0)
        clear eT
        generalize Tu.patch s u l body = r9 at *
        obtain ⟨sr, st, lr⟩ := r9
        go_wp2_with fail
        refine (HEx.out).mono ?_
        rintro e w9 hE
        cases hE with
        | @gave ao9 cap9 n9 _ hn9 hO9 hat9 hT9 =>
          have HE := Hid.mk' (H6.out.fellT hn9 hO9 hat9 hT9)
          unfold tgave at HE ⊢
          clear hn9 hO9 hat9 hT9
          go_wp2
          exact ⟨rfl, by rw [HD.out]; exact HE.out⟩
        | @ret ao9 cap9 n9 _ hn9 hO9 hat9 hT9 =>
          have hH9 := H6.out.did hat9 hT9
          replace hO9 := hO9.mono (Nat.le_trans (Nat.le_add_right _ _) H6.out.sz)
          have hB9 := Below.refl w9.heap.size w9
          obtain ⟨⟨z0, z1, z2, y0, y1, y2⟩, HE⟩ := hH9.ends stLaw (i := 1) rfl (b := w.heap.size + 1) (by first | rfl | omega) (st := st) (sti := (st : Int)) rfl hn9 (Nat.le_refl _) hO9 hB9
          clear hn9 hO9 hB9 hat9 hT9 hH9
          go_wp2
          generalize (((w9.setCell ⟨w.heap.size + 1, 0, none⟩ (.int .i64 (st : Int))).setCell ⟨w.heap.size + 1, 1, none⟩ (.slice ao9 n9 cap9)).setCell ⟨w.heap.size + 1, 2, none⟩ (.slice none 0 0)) = wf at *
          obtain ⟨q0, q1, q2, q3⟩ := HE.out
          refine bodyPost_ret (v := .agg #[.int .i64 (st : Int), .slice ao9 n9 cap9, .slice none 0 0]) (by simp [results, Tryz.results28, go_sem, q0, q1, q2]) rfl ?_
          rw [HD.out]
          exact TuEnd.of q3
      | false =>
      obtain ⟨bd, hbd⟩ : ∃ b, (m.toList == ([68, 69, 76, 69, 84, 69] : List UInt8)) = b := ⟨_, rfl⟩
      have eD : m = Tu.mDel ↔ bd = true := by rw [← hbd]; exact Tu.eqL m Tu.mDel _ rfl
      cases bd with
      | true =>
        rw [if_pos (eD.2 rfl), if_neg (fun e => e HDz.out)] at HD
        have HRe := Hid.mk' (removeT_any (g := g) (m := m) (t := t) (mi := mi) (ln := ln) (fo := fo) (fcap := fcap) (nf := nf) (bo := bo) (bcap := bcap) (nb := nb) H6.out.sh HOk.out u uo un ucap HDz.out)
        clear eT eD
        generalize (Sr.sync (Sr.drop s u.id).1, Tu.said 204 []) = r9 at *
        obtain ⟨sr, st, lr⟩ := r9
        go_wp2_with fail
        refine (HRe.out).mono ?_
        rintro e w9 hE
        cases hE with
        | @gave ao9 cap9 n9 _ hn9 hO9 hat9 hT9 =>
          have HE := Hid.mk' (H6.out.fellT hn9 hO9 hat9 hT9)
          unfold tgave at HE ⊢
          clear hn9 hO9 hat9 hT9
          go_wp2
          exact ⟨rfl, by rw [HD.out]; exact HE.out⟩
        | @ret ao9 cap9 n9 _ hn9 hO9 hat9 hT9 =>
          have hH9 := H6.out.did hat9 hT9
          replace hO9 := hO9.mono (Nat.le_trans (Nat.le_add_right _ _) H6.out.sz)
          have hB9 := Below.refl w9.heap.size w9
          obtain ⟨⟨z0, z1, z2, y0, y1, y2⟩, HE⟩ := hH9.ends stLaw (i := 1) rfl (b := w.heap.size + 1) (by first | rfl | omega) (st := st) (sti := (st : Int)) rfl hn9 (Nat.le_refl _) hO9 hB9
          clear hn9 hO9 hB9 hat9 hT9 hH9
          go_wp2
          generalize (((w9.setCell ⟨w.heap.size + 1, 0, none⟩ (.int .i64 (st : Int))).setCell ⟨w.heap.size + 1, 1, none⟩ (.slice ao9 n9 cap9)).setCell ⟨w.heap.size + 1, 2, none⟩ (.slice none 0 0)) = wf at *
          obtain ⟨q0, q1, q2, q3⟩ := HE.out
          refine bodyPost_ret (v := .agg #[.int .i64 (st : Int), .slice ao9 n9 cap9, .slice none 0 0]) (by simp [results, Tryz.results28, go_sem, q0, q1, q2]) rfl ?_
          rw [HD.out]
          exact TuEnd.of q3
      | false =>
      rw [if_neg (fun e => by have := eD.1 e; cases this), if_neg (fun e => by have := eT.1 e; cases this)] at HD
      have HAn := Hid.mk' (answerT_lit 405 405 rfl [] none 0 0 w7 (IsV.nil w7) rfl (by decide))
      clear eT eD
      go_wp2_with fail
      refine HAn.out.mono ?_
      rintro e w9 ⟨ao9, cap9, n9, rfl, hn9, hO9, hB9⟩
      obtain ⟨⟨z0, z1, z2, y0, y1, y2⟩, HE⟩ := H6.out.ends stLaw (i := 1) rfl (b := w.heap.size + 1) (by first | rfl | omega) (st := 405) (sti := 405) rfl hn9 (Nat.le_trans (Nat.le_add_right _ _) H6.out.sz) hO9 hB9
      clear hn9 hO9 hB9
      go_wp2
      generalize (((w9.setCell ⟨w.heap.size + 1, 0, none⟩ (.int .i64 405)).setCell ⟨w.heap.size + 1, 1, none⟩ (.slice ao9 n9 cap9)).setCell ⟨w.heap.size + 1, 2, none⟩ (.slice none 0 0)) = wf at *
      obtain ⟨q0, q1, q2, q3⟩ := HE.out
      refine bodyPost_ret (v := .agg #[.int .i64 405, .slice ao9 n9 cap9, .slice none 0 0]) (by simp [results, Tryz.results28, go_sem, q0, q1, q2]) rfl ?_
      rw [HD.out]
      exact TuEnd.of q3
    | false =>
      have hzr := HF.out.val Tu.nTR
      generalize hvr : Tu.one (Tu.vals Tu.nTR l) = rr at *
      obtain ⟨vr, cr⟩ := rr
      simp only at hzr HD
      by_cases hr9 : cr = 9
      · subst hr9
        rw [if_pos rfl] at HD
        have HT := Hid.mk' (textT_no (g := g) (m := m) (t := t) (mi := mi) (ln := ln) (bo := bo) (bcap := bcap) (nb := nb) Tu.fTR (by decide) (HF.out.stay HB2.out) (by rw [Tu.vals_fTR]; exact hvr))
        unfold Tu.fTR at HT
        clear hvr hzr
        go_wp2_with fail
        refine (HT.out).mono ?_
        rintro e w9 hG
        obtain ⟨HE, ao9, cap9, n9, he⟩ := H2.out.fell hG
        unfold tgave at he
        subst he
        clear hG
        go_wp2
        exact ⟨rfl, by rw [HD.out]; exact HE.out⟩
      rw [if_neg hr9] at HD
      have HT := Hid.mk' (textT_yes (g := g) (m := m) (t := t) (mi := mi) (ln := ln) (bo := bo) (bcap := bcap) (nb := nb) Tu.fTR (by decide) (HF.out.stay HB2.out) (by rw [Tu.vals_fTR]; exact hvr) hr9)
      unfold Tu.fTR at HT
      clear hvr hzr hr9
      generalize decide (cr = 0) = cb at *
      obtain ⟨bv, hbv⟩ : ∃ b, ((⟨vr.toArray⟩ : ByteArray).toList == ([49, 46, 48, 46, 48] : List UInt8)) = b := ⟨_, rfl⟩
      have eV : vr = Tu.v100.data.toList ↔ bv = true := by rw [← hbv]; exact Tu.eqV vr _
      generalize (⟨vr.toArray⟩ : ByteArray) = vb at *
      go_wp2_with fail
      refine (HT.out).mono ?_
      rintro e w3 ⟨rfl, hw⟩
      have HB3 := Hid.mk' (then_ HB2.out hw)
      have H3 := Hid.mk' (H2.out.stay stLaw hw)
      clear hw H2 HB2 x0 x1 x2 x3 x4 x5 x6
      obtain ⟨x0, x1, x2, x3, x4, x5, x6⟩ := HC.out _ _ _ H3.out
      clear HT
      have HFd := Hid.mk' (fieldT_any Tu.fTV Tu.v100 w3)
      unfold Tu.fTV Tu.v100 at HFd
      go_wp2_with fail
      refine HFd.out.mono ?_
      rintro e w4 ⟨rfl, hw⟩
      have hba := (Below.refl _ w4).alloc (Nat.le_refl _) (.cells #[.string Tu.fTV, .string Tu.v100] 58)
      have H4 := Hid.mk' ((H3.out.stay stLaw hw).stay stLaw hba)
      have HB4 := Hid.mk' (then_ (then_ HB3.out hw) hba)
      have HNo := Hid.mk' (needT_no 412 412 rfl [(Tu.fTV, Tu.v100)] (some ⟨w4.heap.size, 0, none⟩) 1 1 _ (IsV.made w4 #[.string Tu.fTV, .string Tu.v100] 1 58 (0, 0)) rfl (by decide))
      clear hw hba HFd H3 HB3 x0 x1 x2 x3 x4 x5 x6
      cases bv with
      | false =>
        rw [if_pos (fun e => by have := eV.1 e; cases this)] at HD
        unfold Tu.fTV Tu.v100 at HNo H4
        go_wp2_with fail
        refine (HNo.out).mono ?_
        rintro e w9 hG
        obtain ⟨HE, ao9, cap9, n9, he⟩ := H4.out.fell hG
        unfold tgave at he
        subst he
        clear hG
        go_wp2
        exact ⟨rfl, by rw [HD.out]; exact HE.out⟩
      | true =>
      rw [if_neg (fun e => e (eV.2 rfl))] at HD
      clear eV HNo
      obtain ⟨x0, x1, x2, x3, x4, x5, x6⟩ := HC.out _ _ _ H4.out
      unfold Tu.fTV Tu.v100 at x0 x1 x2 x3 x4 x5 x6 H4 HB4
      go_wp2_with fail
      refine (needT_yes 412 _ _ _ _).mono ?_
      rintro e wq ⟨rfl, hw⟩
      rw [hw]
      clear hw
      generalize (w4.alloc (.cells #[.string ⟨#[84, 117, 115, 45, 86, 101, 114, 115, 105, 111, 110]⟩, .string ⟨#[49, 46, 48, 46, 48]⟩] 58)) = w5 at *
      rw [if_neg HTf.out] at HD
      obtain ⟨hup1, hup2⟩ := uploadT_any (g := g) (m := m) (t := t) (mi := mi) (ln := ln) (fo := fo) (fcap := fcap) (nf := nf) (bo := bo) (bcap := bcap) (nb := nb) H4.out.sh HOk.out (H4.out.pow HPw.out) ht
      cases hua : Tu.upAt s.h t with
      | none =>
        rw [hua] at HD
        simp only at HD
        have HUp := Hid.mk' (hup1 hua)
        clear hup1 hup2 hua
        go_wp2_with fail
        refine (HUp.out).mono ?_
        rintro e w9 hG
        obtain ⟨HE, ao9, cap9, n9, he⟩ := H4.out.fell hG
        unfold tgave at he
        subst he
        clear hG
        go_wp2
        exact ⟨rfl, by rw [HD.out]; exact HE.out⟩
      | some u =>
      rw [hua] at HD
      simp only at HD
      have HUp := Hid.mk' (hup2 u hua)
      have hmem := (Tu.upAt_mem hua).1
      have huo := HOk.out.h.all u hmem
      have hul := huo.long; have hs0 := huo.size0; have hs1 := huo.size1
      have HDz := Hid.mk' (Tu.drop_room HOk.out hua HLg.out)
      clear hup1 hup2 hua hmem huo
      obtain ⟨un, hun⟩ : ∃ un, u.bytes.length = un := ⟨_, rfl⟩
      have HUn := Hid.mk' hun
      rw [hun] at hul
      rw [hun] at HUp
      clear hun
      go_wp2_with fail
      refine HUp.out.mono ?_
      rintro e w6 ⟨uo, ucap, rfl, hw⟩
      have hba := (Below.refl _ w6).alloc (Nat.le_refl _) (.cells #[.int .i64 u.id, .int .i64 u.size, .string u.note, .slice uo un ucap, .int .i64 u.sent] 67)
      have H6 := Hid.mk' ((H4.out.stay stLaw hw).stay stLaw hba)
      have HB6 := Hid.mk' (then_ (then_ HB4.out hw) hba)
      clear hw hba HUp H4 HB4 x0 x1 x2 x3 x4 x5 x6
      obtain ⟨x0, x1, x2, x3, x4, x5, x6⟩ := HC.out _ _ _ H6.out
      have v0 : (w6.alloc (.cells #[.int .i64 u.id, .int .i64 u.size, .string u.note, .slice uo un ucap, .int .i64 u.sent] 67)).cell? ⟨w6.heap.size, 0, none⟩ = some (.int .i64 u.id) := World.cell?_alloc_mark w6 _ _ _ 0
      have v1 : (w6.alloc (.cells #[.int .i64 u.id, .int .i64 u.size, .string u.note, .slice uo un ucap, .int .i64 u.sent] 67)).cell? ⟨w6.heap.size, 1, none⟩ = some (.int .i64 u.size) := World.cell?_alloc_mark w6 _ _ _ 1
      have v2 : (w6.alloc (.cells #[.int .i64 u.id, .int .i64 u.size, .string u.note, .slice uo un ucap, .int .i64 u.sent] 67)).cell? ⟨w6.heap.size, 2, none⟩ = some (.string u.note) := World.cell?_alloc_mark w6 _ _ _ 2
      have v3 : (w6.alloc (.cells #[.int .i64 u.id, .int .i64 u.size, .string u.note, .slice uo un ucap, .int .i64 u.sent] 67)).cell? ⟨w6.heap.size, 3, none⟩ = some (.slice uo un ucap) := World.cell?_alloc_mark w6 _ _ _ 3
      have v4 : (w6.alloc (.cells #[.int .i64 u.id, .int .i64 u.size, .string u.note, .slice uo un ucap, .int .i64 u.sent] 67)).cell? ⟨w6.heap.size, 4, none⟩ = some (.int .i64 u.sent) := World.cell?_alloc_mark w6 _ _ _ 4
      go_upto_region 8 with fail
      generalize (w6.alloc (.cells #[.int .i64 u.id, .int .i64 u.size, .string u.note, .slice uo un ucap, .int .i64 u.sent] 67)) = w7 at *
      generalize w6.heap.size = k6 at *
      unfold Tu.ask at HD
      obtain ⟨bh, hbh⟩ : ∃ b, (m.toList == ([72, 69, 65, 68] : List UInt8)) = b := ⟨_, rfl⟩
      have eH : m = Tu.mHead ↔ bh = true := by rw [← hbh]; exact Tu.eqL m Tu.mHead _ rfl
      cases bh with
      | true =>
        rw [if_pos (eH.2 rfl)] at HD
        have HDs : Hid (Calls Tryz.prog 56 #[.agg #[.int .i64 u.id, .int .i64 u.size, .string u.note, .slice uo un ucap, .int .i64 u.sent]] w7 fun e w' => ∃ (ao : Option Addr) (cap k : Nat), e = .returned (.agg #[.int .i64 200, .slice ao k cap, .slice none 0 0]) ∧ (Tu.head u).2.length = k ∧ OwnV w' w7.heap.size 58 2 ao cap k (pairV (Tu.head u).2) ∧ Below w7.heap.size w7 w') := describeT_any u uo un ucap HUn.out hs0 hs1 hul w7 (H6.out.pow HPw.out)
        have HHd : Hid (Tu.head u = (200, (Tu.head u).2)) := by unfold Hid; rfl
        rw [HHd.out] at HD
        clear eH HHd
        generalize (Tu.head u).2 = lh at *
        go_wp2_with fail
        refine HDs.out.mono ?_
        rintro e w9 ⟨ao9, cap9, n9, rfl, hn9, hO9, hB9⟩
        obtain ⟨⟨z0, z1, z2, y0, y1, y2⟩, HE⟩ := H6.out.ends stLaw (i := 1) rfl (b := w.heap.size + 1) (by first | rfl | omega) (st := 200) (sti := 200) rfl hn9 (Nat.le_trans (Nat.le_add_right _ _) H6.out.sz) hO9 hB9
        clear hn9 hO9 hB9
        go_wp2
        generalize (((w9.setCell ⟨w.heap.size + 1, 0, none⟩ (.int .i64 200)).setCell ⟨w.heap.size + 1, 1, none⟩ (.slice ao9 n9 cap9)).setCell ⟨w.heap.size + 1, 2, none⟩ (.slice none 0 0)) = wf at *
        obtain ⟨q0, q1, q2, q3⟩ := HE.out
        refine bodyPost_ret (v := .agg #[.int .i64 200, .slice ao9 n9 cap9, .slice none 0 0]) (by simp [results, Tryz.results28, go_sem, q0, q1, q2]) rfl ?_
        rw [HD.out]
        exact TuEnd.of q3
      | false =>
      rw [if_neg (fun e => by have := eH.1 e; cases this)] at HD
      clear eH
      obtain ⟨bt, hbt⟩ : ∃ b, (m.toList == ([80, 65, 84, 67, 72] : List UInt8)) = b := ⟨_, rfl⟩
      have eT : m = Tu.mPat ↔ bt = true := by rw [← hbt]; exact Tu.eqL m Tu.mPat _ rfl
      cases bt with
      | true =>
        rw [if_neg (fun e => by have := (eT.2 rfl).symm.trans e; revert this; decide), if_pos (eT.2 rfl)] at HD
        have HEx := Hid.mk' (extendT_any (g := g) (m := m) (t := t) (mi := mi) (ln := ln) (bo := bo) (bcap := bcap) (nb := nb) (H6.out.pw HPw.out) H6.out.sh HOk.out (HF.out.stay HB6.out) body HBl.out (HBd.out.stay HB6.out) hnb u uo un ucap HUn.out hul hs0)
        clear eT
        generalize Tu.patch s u l body = r9 at *
        obtain ⟨sr, st, lr⟩ := r9
        go_wp2_with fail
        refine (HEx.out).mono ?_
        rintro e w9 hE
        cases hE with
        | @gave ao9 cap9 n9 _ hn9 hO9 hat9 hT9 =>
          have HE := Hid.mk' (H6.out.fellT hn9 hO9 hat9 hT9)
          unfold tgave at HE ⊢
          clear hn9 hO9 hat9 hT9
          go_wp2
          exact ⟨rfl, by rw [HD.out]; exact HE.out⟩
        | @ret ao9 cap9 n9 _ hn9 hO9 hat9 hT9 =>
          have hH9 := H6.out.did hat9 hT9
          replace hO9 := hO9.mono (Nat.le_trans (Nat.le_add_right _ _) H6.out.sz)
          have hB9 := Below.refl w9.heap.size w9
          obtain ⟨⟨z0, z1, z2, y0, y1, y2⟩, HE⟩ := hH9.ends stLaw (i := 1) rfl (b := w.heap.size + 1) (by first | rfl | omega) (st := st) (sti := (st : Int)) rfl hn9 (Nat.le_refl _) hO9 hB9
          clear hn9 hO9 hB9 hat9 hT9 hH9
          go_wp2
          generalize (((w9.setCell ⟨w.heap.size + 1, 0, none⟩ (.int .i64 (st : Int))).setCell ⟨w.heap.size + 1, 1, none⟩ (.slice ao9 n9 cap9)).setCell ⟨w.heap.size + 1, 2, none⟩ (.slice none 0 0)) = wf at *
          obtain ⟨q0, q1, q2, q3⟩ := HE.out
          refine bodyPost_ret (v := .agg #[.int .i64 (st : Int), .slice ao9 n9 cap9, .slice none 0 0]) (by simp [results, Tryz.results28, go_sem, q0, q1, q2]) rfl ?_
          rw [HD.out]
          exact TuEnd.of q3
      | false =>
      obtain ⟨bd, hbd⟩ : ∃ b, (m.toList == ([68, 69, 76, 69, 84, 69] : List UInt8)) = b := ⟨_, rfl⟩
      have eD : m = Tu.mDel ↔ bd = true := by rw [← hbd]; exact Tu.eqL m Tu.mDel _ rfl
      cases bd with
      | true =>
        rw [if_pos (eD.2 rfl), if_neg (fun e => e HDz.out)] at HD
        have HRe := Hid.mk' (removeT_any (g := g) (m := m) (t := t) (mi := mi) (ln := ln) (fo := fo) (fcap := fcap) (nf := nf) (bo := bo) (bcap := bcap) (nb := nb) H6.out.sh HOk.out u uo un ucap HDz.out)
        clear eT eD
        generalize (Sr.sync (Sr.drop s u.id).1, Tu.said 204 []) = r9 at *
        obtain ⟨sr, st, lr⟩ := r9
        go_wp2_with fail
        refine (HRe.out).mono ?_
        rintro e w9 hE
        cases hE with
        | @gave ao9 cap9 n9 _ hn9 hO9 hat9 hT9 =>
          have HE := Hid.mk' (H6.out.fellT hn9 hO9 hat9 hT9)
          unfold tgave at HE ⊢
          clear hn9 hO9 hat9 hT9
          go_wp2
          exact ⟨rfl, by rw [HD.out]; exact HE.out⟩
        | @ret ao9 cap9 n9 _ hn9 hO9 hat9 hT9 =>
          have hH9 := H6.out.did hat9 hT9
          replace hO9 := hO9.mono (Nat.le_trans (Nat.le_add_right _ _) H6.out.sz)
          have hB9 := Below.refl w9.heap.size w9
          obtain ⟨⟨z0, z1, z2, y0, y1, y2⟩, HE⟩ := hH9.ends stLaw (i := 1) rfl (b := w.heap.size + 1) (by first | rfl | omega) (st := st) (sti := (st : Int)) rfl hn9 (Nat.le_refl _) hO9 hB9
          clear hn9 hO9 hB9 hat9 hT9 hH9
          go_wp2
          generalize (((w9.setCell ⟨w.heap.size + 1, 0, none⟩ (.int .i64 (st : Int))).setCell ⟨w.heap.size + 1, 1, none⟩ (.slice ao9 n9 cap9)).setCell ⟨w.heap.size + 1, 2, none⟩ (.slice none 0 0)) = wf at *
          obtain ⟨q0, q1, q2, q3⟩ := HE.out
          refine bodyPost_ret (v := .agg #[.int .i64 (st : Int), .slice ao9 n9 cap9, .slice none 0 0]) (by simp [results, Tryz.results28, go_sem, q0, q1, q2]) rfl ?_
          rw [HD.out]
          exact TuEnd.of q3
      | false =>
      rw [if_neg (fun e => by have := eD.1 e; cases this), if_neg (fun e => by have := eT.1 e; cases this)] at HD
      have HAn := Hid.mk' (answerT_lit 405 405 rfl [] none 0 0 w7 (IsV.nil w7) rfl (by decide))
      clear eT eD
      go_wp2_with fail
      refine HAn.out.mono ?_
      rintro e w9 ⟨ao9, cap9, n9, rfl, hn9, hO9, hB9⟩
      obtain ⟨⟨z0, z1, z2, y0, y1, y2⟩, HE⟩ := H6.out.ends stLaw (i := 1) rfl (b := w.heap.size + 1) (by first | rfl | omega) (st := 405) (sti := 405) rfl hn9 (Nat.le_trans (Nat.le_add_right _ _) H6.out.sz) hO9 hB9
      clear hn9 hO9 hB9
      go_wp2
      generalize (((w9.setCell ⟨w.heap.size + 1, 0, none⟩ (.int .i64 405)).setCell ⟨w.heap.size + 1, 1, none⟩ (.slice ao9 n9 cap9)).setCell ⟨w.heap.size + 1, 2, none⟩ (.slice none 0 0)) = wf at *
      obtain ⟨q0, q1, q2, q3⟩ := HE.out
      refine bodyPost_ret (v := .agg #[.int .i64 405, .slice ao9 n9 cap9, .slice none 0 0]) (by simp [results, Tryz.results28, go_sem, q0, q1, q2]) rfl ?_
      rw [HD.out]
      exact TuEnd.of q3
end
end Go.Proofs.YtdclmpdjjkjfjaaGreatDoor
