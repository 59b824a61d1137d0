/- Package forms, walked: a byte of a part. -/
import Derived.Test.YtjpenioloeplgadGreatDoorPk19
import Derived.Test.YtjpenioloeplgadGreatDoorPk17
import Derived.Test.YtjpenioloeplgadGreatDoorPk6
namespace Go.Proofs.YtjpenioloeplgadGreatDoor
open Go.RowKit

/-- a form that keeps s, and apart from it what was told -/
inductive Went (w : World) (S So : Nat → Prop) (g gt : Nat) (m : List UInt8) (s : Fm.St) (t : Fm.Td) (w' : World) : Prop
  | mk (S' So' : Nat → Prop) (hF : FmAt w' S' g m s) (hO : TdAt w' So' gt t) (hd : ∀ k, S' k → ¬ So' k) (hS : ∀ k, S' k → S k ∨ w.heap.size ≤ k) (hSo : ∀ k, So' k → So k ∨ w.heap.size ≤ k) (hT : Turns (fun k => S k ∨ So k) w w')
/-- a form that fell, and apart from it what was told -/
inductive Fell (w : World) (S So : Nat → Prop) (g gt : Nat) (t : Fm.Td) (w' : World) : Prop
  | mk (So' : Nat → Prop) (sk ln : Value) (ah pl pt cd : Int) (fo : Option Addr) (nf fcap : Nat) (hR : FrAt w' g sk ah ln fo nf fcap pl pt cd) (hO : TdAt w' So' gt t) (hd : ¬ So' g) (hSo : ∀ k, So' k → So k ∨ w.heap.size ≤ k) (hT : Turns (fun k => S k ∨ So k) w w')
/-- what a byte comes to, ahead of a code's being kept -/
inductive Took (w : World) (S So : Nat → Prop) (g gt : Nat) (m : List UInt8) (s : Fm.St) (c : UInt8) (t : Fm.Td) (e : Ending) (w' : World) : Prop
  | ok (he : e = .returned (.int .i64 0)) (h : Went w S So g gt m (Fm.next m s c).1 (Fm.tells t (Fm.next m s c).2) w')
  | fail (k : Nat) (hk : k ≠ 0) (hN : Fm.next m s c = Fm.fails k) (he : e = .returned (.int .i64 (k : Int))) (h : Fell w S So g gt t w')
section
variable {w w1 w' : World} {S : Nat → Prop} {g gs gl : Nat} {m : List UInt8} {s : Fm.St}
/-- another place -/
theorem FmAt.move (h : FmAt w S g m s) (hl : Fm.live s) (p : Nat) (hp : p ≠ 6) : FmAt (w.setCell ⟨g, 4, none⟩ (.int .i64 (p : Int))) S g m { s with place := p } ∧ Turns S w (w.setCell ⟨g, 4, none⟩ (.int .i64 (p : Int))) := by
  cases h with
  | dead h me row => exact absurd hl h
  | live h me gs gl q fo fcap D row inn =>
    exact ⟨.live ⟨h.1, hp⟩ me gs gl q fo fcap D (row.s4 p) ((inn.turns (FrAt.set w g 4 _) (fun k e => e.2)).as rfl rfl rfl), (FrAt.set w g 4 _).mono (fun k e => by subst e; exact me)⟩
/-- behind a byte for the seeker -/
theorem FmAt.sought {p : SkP} {fo : Option Addr} {fcap : Nat} {D : Nat → Prop} (hl : Fm.live s) (me : S g) (row : FrAt w g (.pointer (some ⟨gs, 0, none⟩)) (s.ahead : Int) (.pointer (some ⟨gl, 0, none⟩)) fo s.fields.length fcap (s.place : Int) (s.parts : Int) (s.code : Int)) (inn : FmIn w (fun k => S k ∧ k ≠ g) m s gs gl p fo fcap D)
    {h2 a2 : Nat} (hS : SkAt w1 gs m h2 p) (hG : w.grownBy w1 (some gs)) : FmAt (w1.setCell ⟨g, 1, none⟩ (.int .i64 (a2 : Int))) S g m { s with held := h2, ahead := a2 } ∧ Turns S w (w1.setCell ⟨g, 1, none⟩ (.int .i64 (a2 : Int))) := by
  have hT : Turns (fun k => k = gs) w w1 := Turns.of_grown hG (fun k e => by injection e with e; exact e.symm)
  have hT2 : Turns (fun k => k = g) w1 (w1.setCell ⟨g, 1, none⟩ (.int .i64 (a2 : Int))) := FrAt.set w1 g 1 _
  have hne : gs ≠ g := inn.skC.1.2
  have r1 := (row.turns hT (fun e => hne e.symm)).s1 (a2 : Int)
  have hlD : ∀ k, (((S k ∧ k ≠ g) ∧ D k) → ¬ k = gs) := fun k e e2 => inn.skD.1 (e2 ▸ e.2)
  have i1 : FmIn w1 (fun k => S k ∧ k ≠ g) m { s with held := h2, ahead := a2 } gs gl p fo fcap D := ⟨hS, inn.skC, inn.skD, inn.ln.turns hT hlD, inn.own.turns hT (fun a e => (inn.fs a e).1), inn.fC⟩
  refine ⟨.live hl me gs gl p fo fcap D r1 (i1.turns hT2 (fun k e => e.2)), (hT.mono (fun k e => by subst e; exact inn.skC.1.1)).trans (hT2.mono (S' := S) (fun k e => by subst e; exact me)) (fun _ e _ => e)⟩
end
/-- a form, and what was told, behind a step of the form alone -/
structure Pair (w0 : World) (S So : Nat → Prop) (g gt : Nat) (m : List UInt8) (s : Fm.St) (t : Fm.Td) (w : World) : Prop where
  fm : FmAt w (fun k => S k ∧ k < w0.heap.size) g m s
  td : TdAt w (fun k => So k ∧ k < w0.heap.size) gt t
  apart : ∀ k, S k → ¬ So k
  turns : Turns (fun k => S k ∨ So k) w0 w
section
variable {w0 w w' : World} {S So : Nat → Prop} {g gt : Nat} {m : List UInt8} {s s' : Fm.St} {t t' : Fm.Td}
theorem Pair.start (hF : FmAt w S g m s) (hO : TdAt w So gt t) (hd : ∀ k, S k → ¬ So k) : Pair w S So g gt m s t w := ⟨hF.mono (fun _ hk e => ⟨e, hk⟩), hO.mono (fun _ hk e => ⟨e, hk⟩), hd, Turns.refl _ _⟩
/-- the form alone turned -/
theorem Pair.form (h : Pair w0 S So g gt m s t w) (hF : FmAt w' (fun k => S k ∧ k < w0.heap.size) g m s') (hT : Turns (fun k => S k ∧ k < w0.heap.size) w w') : Pair w0 S So g gt m s' t w' :=
  ⟨hF, h.td.turns hT (fun k e e2 => h.apart k e2.1 e.1), h.apart, h.turns.trans hT (fun _ e _ => Or.inl e.1)⟩
/-- it is over -/
theorem Pair.went (h : Pair w0 S So g gt m s t w) : Went w0 S So g gt m s t w :=
  .mk _ _ h.fm h.td (fun k e e2 => h.apart k e.1 e2.1) (fun _ e => Or.inl e.1) (fun _ e => Or.inl e.1) h.turns
/-- what was told turned -/
theorem Pair.told (h : Pair w0 S So g gt m s t w) (hO : TdAt w' (orNew (fun k => So k ∧ k < w0.heap.size) w) gt t') (hT : Turns (fun k => So k ∧ k < w0.heap.size) w w') : Went w0 S So g gt m s t' w' ∧ FmAt w' (fun k => S k ∧ k < w0.heap.size) g m s := by
  have hz := h.turns.size
  have hF := h.fm.turns hT (fun k e e2 => h.apart k e.1 e2.1)
  refine ⟨.mk _ _ hF hO (fun k e e2 => ?_) (fun k e => Or.inl e.1) (fun k e => ?_) (h.turns.trans hT (fun i e _ => Or.inr e.1)), hF⟩
  · rcases e2 with e2 | e2
    · exact h.apart k e.1 e2.1
    · have := e.2; omega
  · rcases e with e | e
    · exact Or.inl e.1
    · exact Or.inr (by omega)
end
/-- one behind the other -/
theorem Went.then_ {w0 w w' : World} {S So S1 So1 : Nat → Prop} {g gt : Nat} {m : List UInt8} {s' : Fm.St} {t' : Fm.Td} (hS1 : ∀ k, S1 k → S k ∨ w0.heap.size ≤ k) (hSo1 : ∀ k, So1 k → So k ∨ w0.heap.size ≤ k) (hT : Turns (fun k => S k ∨ So k) w0 w) (h2 : Went w S1 So1 g gt m s' t' w') : Went w0 S So g gt m s' t' w' := by
  obtain ⟨S2, So2, hF2, hO2, hd2, hS2, hSo2, hT2⟩ := h2
  have hz := hT.size
  refine .mk S2 So2 hF2 hO2 hd2 (fun k e => ?_) (fun k e => ?_) (hT.trans hT2 (fun i e hi => ?_))
  · rcases hS2 k e with e | e
    · exact hS1 k e
    · exact Or.inr (by omega)
  · rcases hSo2 k e with e | e
    · exact hSo1 k e
    · exact Or.inr (by omega)
  · rcases e with e | e
    · rcases hS1 i e with e | e
      · exact Or.inl e
      · omega
    · rcases hSo1 i e with e | e
      · exact Or.inr e
      · omega
theorem overD_bare : Fm.overD = bareD 6 ⟨#[]⟩ ⟨#[]⟩ ⟨#[]⟩ 0 := rfl

set_option maxHeartbeats 2000000 in
theorem takeByte_any (w : World) (S So : Nat → Prop) (g gt : Nat) (m : List UInt8) (s : Fm.St) (c : UInt8) (t : Fm.Td) (h : FmAt w S g m s) (hl : Fm.live s) (hp : s.place = 0) (hG : Fm.Good m s) (hO : TdAt w So gt t) (hd : ∀ k, S k → ¬ So k) (hm : m.length ≤ 1000) (ha : s.ahead ≤ 2) (hes : t.es.length ≤ 80000) (hbs : t.bs.length ≤ 80000) :
    Calls Tryz.prog 69 #[.pointer (some ⟨g, 0, none⟩), .pointer (some ⟨gt, 0, none⟩), .int .u8 c.toNat] w fun e w' => e = .returned (.tuple #[]) ∧ Went w S So g gt m (Fm.next m s c).1 (Fm.tells t (Fm.next m s c).2) w' := by
  have hP := Pair.start h hO hd
  have hN : Fm.next m s c = ({ s with held := Sk.after m s.held c, ahead := s.ahead - (Sk.out m s.held c).length, place := if Sk.found m s.held c then 1 else 0 }, if 0 < s.parts then Fm.someD ((Sk.out m s.held c).drop s.ahead) ++ (if Sk.found m s.held c then [Fm.overD] else []) else []) := by
    unfold Fm.next
    rw [if_neg (fun k => k hl), if_pos hp]
  have hol := Fm.out_length m s.held c hG.held
  have hhl := hG.held
  cases hP.fm with
  | dead h2 me row => exact absurd hl h2
  | live h2 me gs gl p fo fcap D row inn =>
    have c0 := row.c0
    have hne : g ≠ gs := fun e => inn.skC.1.2 e.symm
    have HF := Hid.mk' (seekerFeed_any w g gs s.ahead m s.held c p row.c0 row.c1 (row.fz 1) hne inn.sk hG.held hm (by omega))
    have hSo : ∀ w1 a2, SkAt w1 gs m (Sk.after m s.held c) p → w.grownBy w1 (some gs) → Pair w S So g gt m { s with held := Sk.after m s.held c, ahead := a2 } t (w1.setCell ⟨g, 1, none⟩ (.int .i64 ((a2 : Nat) : Int))) := fun w1 a2 hS hG => by
      obtain ⟨r1, r2⟩ := FmAt.sought (a2 := a2) hl me row inn hS hG
      exact hP.form r1 r2
    have HSo := Hid.mk' hSo
    have HN := Hid.mk' hN
    have HG := Hid.mk' (And.intro hl hp)
    have hlt := row.lt
    clear hSo hN row inn hP h hO hd hG hl h2 me
    generalize hout : Sk.out m s.held c = out at *
    generalize hfd : Sk.found m s.held c = fd at *
    generalize haf : Sk.after m s.held c = af at *
    go_enter Tryz.func69, Tryz.ntmps69
    go_wp2_with fail
    refine HF.out.mono ?_
    rintro e w2 ⟨w1, ao, cap, n, he, hn, hw, hB, hlo, hS, hGr⟩
    rw [hout] at hn hw hB
    rw [hfd] at he
    rw [haf] at hS
    subst he
    have hP2 := HSo.out w1 (s.ahead - out.length) hS hGr
    have hB2 : IsB w2 ao cap (out.drop s.ahead) := by
      rw [hw]
      exact hB.turns (FrAt.set w1 g 1 _) (fun a e e2 => by have := hlo a e; omega)
    rw [← hw] at hP2
    have HP2 := Hid.mk' hP2; have HB2 := Hid.mk' hB2; have HNn := Hid.mk' hn
    obtain ⟨c4, c5, _, fz⟩ := hP2.fm.cells
    have f4 := fz 4
    have hnl : n ≤ 1001 := by rw [hn, List.length_drop]; omega
    have HMv := Hid.mk' (fun (W : World) (hW : FmAt W (fun k => S k ∧ k < w.heap.size) g m { s with held := af, ahead := s.ahead - out.length }) => hW.move HG.out.1 1 (by decide))
    clear hP2 hB2 hn hB hS hGr hw hlo fz HF hout hfd haf
    have c5 : w2.cell? ⟨g, 5, none⟩ = some (.int .i64 (s.parts : Int)) := c5
    by_cases hpt : 0 < s.parts
    · have tp : decide ((s.parts : Int) > 0) = true := decide_eq_true (by omega)
      have HAB := Hid.mk' (addBytes_any w2 _ gt t ao cap n (out.drop s.ahead) HP2.out.td HB2.out HNn.out.symm (by omega))
      go_wp2_with fail
      refine HAB.out.mono ?_
      rintro e w3 ⟨rfl, hO3, hT3⟩
      obtain ⟨hW3, hF3⟩ := HP2.out.told hO3 hT3
      obtain ⟨c4', c5', _, fz⟩ := hF3.cells
      have f4' := fz 4
      have HO3 := Hid.mk' hO3; have HW3 := Hid.mk' hW3; have HF3 := Hid.mk' hF3; have HT3 := Hid.mk' hT3
      clear hO3 hW3 hF3 hT3 fz HAB c4 f4
      have c5' : w3.cell? ⟨g, 5, none⟩ = some (.int .i64 (s.parts : Int)) := c5'
      cases fd with
      | false =>
        go_wp2
        refine bodyPost_ret (results_none rfl _ _ _) rfl ?_
        refine ⟨rfl, ?_⟩
        rw [HN.out, if_pos hpt]
        show Went w S So g gt m { s with held := af, ahead := s.ahead - out.length, place := 0 } (Fm.tells t (Fm.someD (out.drop s.ahead) ++ [])) w3
        rw [List.append_nil, Fm.tells_someD]
        have : ({ s with held := af, ahead := s.ahead - out.length, place := 0 } : Fm.St) = { s with held := af, ahead := s.ahead - out.length } := by have := HG.out.2; cases s; simp only at this; subst this; rfl
        rw [this]
        exact HW3.out
      | true =>
        obtain ⟨hm1, hm2⟩ := HMv.out w3 HF3.out
        have hTo := HO3.out.turns hm2 (fun k e e2 => by
          rcases e with e | e
          · exact HP2.out.apart k e2.1 e.1
          · have := e2.2; have := HP2.out.turns.size; omega)
        have HAd := Hid.mk' (tdAdd_any _ _ gt _ 6 ⟨#[]⟩ ⟨#[]⟩ ⟨#[]⟩ 0 hTo (by decide) (by show t.es.length ≤ 90000; omega))
        have HM1 := Hid.mk' hm1; have HM2 := Hid.mk' hm2
        have c5'' := hm1.cells.2.1
        have c5'' : (w3.setCell ⟨g, 4, none⟩ (.int .i64 ((1 : Nat) : Int))).cell? ⟨g, 5, none⟩ = some (.int .i64 (s.parts : Int)) := c5''
        clear hm1 hm2 hTo
        go_wp2_with fail
        refine HAd.out.mono ?_
        rintro e w5 ⟨rfl, hO5, hT5⟩
        have HO5 := Hid.mk' hO5; have HT5 := Hid.mk' hT5
        clear hO5 hT5
        go_wp2
        go_end0
        refine ⟨rfl, ?_⟩
        rw [HN.out, if_pos hpt]
        show Went w S So g gt m { s with held := af, ahead := s.ahead - out.length, place := 1 } (Fm.tells t (Fm.someD (out.drop s.ahead) ++ [Fm.overD])) w5
        rw [Fm.tells_append, Fm.tells_someD]
        have hz := HT3.out.size
        have hz0 := HP2.out.turns.size
        have hF5 := HM1.out.turns HT5.out (fun k e e2 => by
          rcases e2 with e2 | e2
          · exact HP2.out.apart k e.1 e2.1
          · have := e.2; omega)
        refine .mk _ _ hF5 HO5.out (fun k e e2 => ?_) (fun _ e => Or.inl e.1) (fun k e => ?_) (((HP2.out.turns.trans HT3.out (fun _ e _ => Or.inr e.1)).trans HM2.out (fun _ e _ => Or.inl e.1)).trans HT5.out (fun i e hi => ?_))
        · rcases e2 with e2 | e2
          · rcases e2 with e2 | e2
            · exact HP2.out.apart k e.1 e2.1
            · have := e.2; omega
          · have := e.2; simp at e2; omega
        · rcases e with e | e
          · rcases e with e | e
            · exact Or.inl e.1
            · exact Or.inr (by omega)
          · exact Or.inr (by simp at e; omega)
        · rcases e with e | e
          · exact Or.inr e.1
          · omega
    · have tp : decide ((s.parts : Int) > 0) = false := decide_eq_false (by omega)
      cases fd with
      | false =>
        go_wp2
        refine bodyPost_ret (results_none rfl _ _ _) rfl ?_
        refine ⟨rfl, ?_⟩
        rw [HN.out, if_neg hpt]
        show Went w S So g gt m { s with held := af, ahead := s.ahead - out.length, place := 0 } t w2
        have : ({ s with held := af, ahead := s.ahead - out.length, place := 0 } : Fm.St) = { s with held := af, ahead := s.ahead - out.length } := by have := HG.out.2; cases s; simp only at this; subst this; rfl
        rw [this]
        exact HP2.out.went
      | true =>
        obtain ⟨hm1, hm2⟩ := HMv.out w2 HP2.out.fm
        have HM1 := Hid.mk' hm1; have HM2 := Hid.mk' hm2
        have c5'' := hm1.cells.2.1
        have c5'' : (w2.setCell ⟨g, 4, none⟩ (.int .i64 ((1 : Nat) : Int))).cell? ⟨g, 5, none⟩ = some (.int .i64 (s.parts : Int)) := c5''
        clear hm1 hm2
        go_wp2
        go_end0
        refine ⟨rfl, ?_⟩
        rw [HN.out, if_neg hpt]
        exact (HP2.out.form HM1.out HM2.out).went
end Go.Proofs.YtjpenioloeplgadGreatDoor
