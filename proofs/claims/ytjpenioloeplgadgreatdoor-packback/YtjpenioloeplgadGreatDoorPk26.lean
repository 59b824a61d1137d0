/- Small texts, one behind the other: FmE, FmF, FmG, FmH, GtA, GtB, FmI, FmJ. -/
import Derived.Test.YtjpenioloeplgadGreatDoorFmD
import Derived.Test.YtjpenioloeplgadGreatDoorPk22
import Derived.Deep.RegionLaw
import Derived.Deep.AppendLies
import Derived.Test.YtjpenioloeplgadGreatDoorPk25
import Derived.Deep.DeepCutAuto
import Derived.Test.YtjpenioloeplgadGreatDoorPk6
import Derived.Test.YtjpenioloeplgadGreatDoorPk16
import Derived.Test.YtjpenioloeplgadGreatDoorMemG
import Derived.Test.YtjpenioloeplgadGreatDoorSkN
import Derived.Test.YtjpenioloeplgadGreatDoorPk20
import Derived.Test.YtjpenioloeplgadGreatDoorPk12
import Derived.Test.YtjpenioloeplgadGreatDoorFmMk
import Derived.Test.YtjpenioloeplgadGreatDoorPk8
/- Package forms, walked: one field more of a part's head. -/
namespace Go.Proofs.YtjpenioloeplgadGreatDoor
open Go.RowKit

/-- what a field comes to -/
inductive FldOut (w : World) (g : Nat) (fo : Option Addr) (nf : Nat) (fs : List Rq.Fl) (t : List UInt8) (e : Ending) (w' : World) : Prop
  | many (h : nf = 16) (he : e = .returned (.int .i64 8)) (hw : w' = w)
  | bad (h : nf ≠ 16) (c : Nat) (hc : c ≠ 0) (hd : (Fd.of t).code = c) (he : e = .returned (.int .i64 (c : Int))) (hB : Below w.heap.size w w')
  | ok (h : nf ≠ 16) (hd : (Fd.of t).code = 0) (w3 : World) (g3 cap3 : Nat) (he : e = .returned (.int .i64 0)) (hw : w' = w3.setCell ⟨g, 3, none⟩ (.slice (some ⟨g3, 0, none⟩) (nf + 1) cap3)) (hO : OwnV w3 0 58 2 (some ⟨g3, 0, none⟩) cap3 (nf + 1) (pairV (Rq.flT (fs ++ [((Fd.of t).name, (Fd.of t).value)])))) (hT : Turns (fun k => blockOf fo = some k) w w3) (hat : blockOf fo = some g3 ∨ w.heap.size ≤ g3)

set_option maxRecDepth 100000 in
set_option maxHeartbeats 4000000 in
theorem fieldF_any (w : World) (g : Nat) (fo : Option Addr) (nf fcap : Nat) (fs : List Rq.Fl) (t : ByteArray) (c3 : w.cell? ⟨g, 3, none⟩ = some (.slice fo nf fcap)) (f3 : w.frozen? ⟨g, 3, none⟩ = false) (hne : blockOf fo ≠ some g) (ho : OwnV w 0 58 2 fo fcap nf (pairV (Rq.flT fs))) (hn : nf ≤ 16) (ht : t.size ≤ 2000) :
    Calls Tryz.prog 96 #[.pointer (some ⟨g, 2, none⟩), .string t] w fun e w' => FldOut w g fo nf fs t.data.toList e w' := by
  by_cases h16 : nf = 16
  · have t16 : ((nf : Int) == 16) = true := by rw [h16]; rfl
    have H16 := Hid.mk' h16
    clear h16 ho
    go_enter Tryz.func96, Tryz.ntmps96
    go_wp2
    go_ret
    exact .many H16.out rfl rfl
  · have t16 : ((nf : Int) == 16) = false := by rw [beq_eq_false_iff_ne]; omega
    have H16 := Hid.mk' h16
    have HPr := Hid.mk' (parse_any t w ht)
    unfold Fd.val at HPr
    have hlt := World.block_lt_of_cell? w _ c3
    clear h16
    by_cases hc : (Fd.of t.data.toList).code = 0
    · rw [hc] at HPr
      obtain ⟨nm, hnm⟩ : ∃ nm : ByteArray, (⟨(Fd.of t.data.toList).name.toArray⟩ : ByteArray) = nm := ⟨_, rfl⟩
      obtain ⟨vl, hvl⟩ : ∃ vl : ByteArray, (⟨(Fd.of t.data.toList).value.toArray⟩ : ByteArray) = vl := ⟨_, rfl⟩
      rw [hnm, hvl] at HPr
      have HXs : Hid (pairV (Rq.flT fs) ++ [.string nm, .string vl] = pairV (Rq.flT (fs ++ [((Fd.of t.data.toList).name, (Fd.of t.data.toList).value)]))) := by
        unfold Hid
        rw [Rq.flT_append, pairV_append, ← hnm, ← hvl]; rfl
      have HC := Hid.mk' hc
      have hK : ∀ W, Below w.heap.size w W → W.cell? ⟨g, 3, none⟩ = some (.slice fo nf fcap) := fun W hW => (hW.cell hlt).trans c3
      have hK2 : ∀ W W3, Below w.heap.size w W → W.grownBy W3 (Value.slice fo nf fcap).ownBlock → W3.cell? ⟨g, 3, none⟩ = some (.slice fo nf fcap) ∧ W3.frozen? ⟨g, 3, none⟩ = false := fun W W3 hW hG => by
        rw [ownBlock_slice] at hG
        have hb : W.heap[g]? = w.heap[g]? := hW.block g hlt
        refine ⟨hG.cell (hK W hW) (fun e => hne e.symm), ?_⟩
        rw [World.frozen?_of_block (a := ⟨g, 3, none⟩) ((hG.block g (Nat.lt_of_lt_of_le hlt hW.size) (fun e => hne e.symm)).trans hb)]
        exact f3
      have HK := Hid.mk' hK; have HK2 := Hid.mk' hK2
      have HO := Hid.mk' ho
      obtain ⟨i0, hi0, hz0, hz1, hz2⟩ := info_parts info_fld
      have Hi := Hid.mk' hi0; have Hz0 := Hid.mk' hz0; have Hz1 := Hid.mk' hz1; have Hz2 := Hid.mk' hz2
      have HN : Hid (nf + 1 ≤ maxLen ∧ (nf + 1) * 32 ≤ 140737488355328) := ⟨by unfold maxLen; omega, by omega⟩
      clear hi0 hz0 hz1 hz2 ho hK hK2 hc hnm hvl
      go_enter Tryz.func96, Tryz.ntmps96
      go_wp2_with fail
      refine HPr.out.mono ?_
      rintro e w1 ⟨rfl, hB⟩
      have hB0 : Below w.heap.size w (w1.alloc (.cells #[.string nm, .string vl] 58)) := hB.trans ((Below.refl _ _).alloc hB.size _)
      have hB1 : Below w.heap.size w ((w1.alloc (.cells #[.string nm, .string vl] 58)).alloc (.cells #[.string nm, .string vl] 58)) := hB0.trans ((Below.refl _ _).alloc hB0.size _)
      have hB2 : Below w.heap.size w ((w1.alloc (.cells #[.string nm, .string vl] 58)).alloc (.cells #[.string nm, .string vl] 58)).drew := hB1.trans ⟨rfl, rfl, rfl, Nat.le_refl _, fun _ _ => rfl⟩
      have k3 := HK.out _ hB0
      have j3 := HK.out _ hB1
      have HB2 := Hid.mk' hB2
      have HOw := Hid.mk' (OwnV.below HO.out hB2 (fun a e => (HO.out.block a e).2))
      have HNw : Hid (∀ j u, ([.string nm, .string vl] : List Value)[j]? = some u → ((w1.alloc (.cells #[.string nm, .string vl] 58)).alloc (.cells #[.string nm, .string vl] 58)).drew.cell? (Addr.add ⟨w1.heap.size + 1, 0, none⟩ j) = some u) := fun j u hu => by
        rw [Addr.add_lit, Nat.zero_add]
        show ((w1.alloc (.cells #[.string nm, .string vl] 58)).alloc (.cells #[.string nm, .string vl] 58)).cell? _ = _
        rw [World.cell?_alloc_at _ _ _ _ (by simp), List.getElem?_toArray]
        exact hu
      have HS := Hid.mk' hB.size
      clear hB hB0 hB1 hB2 c3 f3
      go_wp2
      go_region_law
        ((refine step_append_lies _ (by rfl) _ _ _ (by rfl) 0 58 i0 (.agg #[.string ⟨#[]⟩, .string ⟨#[]⟩]) 2 32 Tryz.underlying22 Hi.out Hz0.out Hz1.out Hz2.out (by rfl) (by decide) (.slice fo nf fcap) nf _ (by rfl) HOw.out ⟨w1.heap.size + 1, 0, none⟩ 1 1 [.string nm, .string vl] (by rfl) (by rfl) HNw.out (fun u hu => by simp at hu; rcases hu with rfl | rfl <;> rfl) (by decide) HN.out.1 HN.out.2 (Nat.zero_le _) (w1.heap.size + 2) (by simp) ?_; intro g3 cap3 w3 hown3 hgrow hat3 hlt3; have HG3 := Hid.mk' hgrow; have HO3 := Hid.mk' hown3; have HA3 := Hid.mk' hat3; have q3 := (HK2.out _ _ HB2.out hgrow).1; have qf := (HK2.out _ _ HB2.out hgrow).2; clear hgrow hown3 hat3))
      all_goals
        go_wp2
        go_ret
        have hG := HG3.out; have hA := HA3.out
        rw [ownBlock_slice] at hG hA
        refine .ok H16.out HC.out w3 g3 cap3 rfl rfl (by rw [← HXs.out]; exact HO3.out) ((Turns.of_below HB2.out).trans (Turns.of_grown (S := fun k => blockOf fo = some k) hG (fun k e => e)) (fun _ e _ => e)) ?_
        rcases hA with e | e
        · exact Or.inl e
        · exact Or.inr (by have := HS.out; omega)
    · have tc : (((Fd.of t.data.toList).code : Int) == 0) = false := by rw [beq_eq_false_iff_ne]; omega
      have HC := Hid.mk' hc
      generalize hcc : (Fd.of t.data.toList).code = cc at *
      clear hc ho
      go_enter Tryz.func96, Tryz.ntmps96
      go_wp2_with fail
      refine HPr.out.mono ?_
      rintro e w1 ⟨rfl, hB⟩
      have HCc := Hid.mk' hcc
      have HBb := Hid.mk' (then_ hB ((Below.refl _ _).alloc (Nat.le_refl _) (.cells #[.string ⟨(Fd.of t.data.toList).name.toArray⟩, .string ⟨(Fd.of t.data.toList).value.toArray⟩] 58)))
      clear hcc hB
      go_wp2
      go_ret
      exact .bad H16.out cc HC.out HCc.out rfl HBb.out
end Go.Proofs.YtjpenioloeplgadGreatDoor

/- Package forms, walked: a part begins. -/
namespace Go.Proofs.YtjpenioloeplgadGreatDoor
open Go.RowKit

/-- what a line of a part's head comes to, ahead of a code's being kept -/
inductive Lined (w : World) (S So : Nat → Prop) (g gt : Nat) (m : List UInt8) (s : Fm.St) (tx : List UInt8) (t : Fm.Td) (e : Ending) (w' : World) : Prop
  | ok (he : e = .returned (.int .i64 0)) (h : Went w S So g gt m (Fm.line s tx).1 (Fm.tells t (Fm.line s tx).2) w')
  | fail (k : Nat) (hk : k ≠ 0) (hN : Fm.line s tx = Fm.fails k) (he : e = .returned (.int .i64 (k : Int))) (h : Fell w S So g gt t w')
theorem partD_bare (p : Fm.Prt) : Fm.partD p = bareD 5 ⟨p.name.toArray⟩ ⟨p.file.toArray⟩ ⟨p.type.toArray⟩ 0 := rfl
theorem line_begin {s : Fm.St} {p : Fm.Prt} (hp : Fm.part s.fields = .inr p) (h12 : s.parts ≠ 12) : Fm.line s [] = ({ s with fields := [], parts := s.parts + 1, place := 0, held := 2, ahead := 2 }, [Fm.partD p]) := by
  have := Fm.line_part (s := s) hp h12
  exact this
theorem line_code {s : Fm.St} {c : Nat} (hp : Fm.part s.fields = .inl c) : Fm.line s [] = Fm.fails c := by
  unfold Fm.line
  rw [if_neg (fun h => h rfl), hp]
theorem line_many {s : Fm.St} {p : Fm.Prt} (hp : Fm.part s.fields = .inr p) (h12 : s.parts = 12) : Fm.line s [] = Fm.fails 8 := by
  unfold Fm.line
  rw [if_neg (fun h => h rfl), hp]
  simp only
  rw [if_pos h12]

set_option maxRecDepth 100000 in
set_option maxHeartbeats 4000000 in
theorem begin_any (w : World) (S So : Nat → Prop) (g gt : Nat) (m : List UInt8) (s : Fm.St) (t : Fm.Td) (h : FmAt w S g m s) (hl : Fm.live s) (h0 : s.held = 0) (hm : s.fields.length ≤ 16) (hsh : ∀ f ∈ s.fields, f.1.length ≤ 200 ∧ f.2.length ≤ 200) (hpt : s.parts ≤ 12) (hO : TdAt w So gt t) (hd : ∀ k, S k → ¬ So k) (h2 : m.take 2 = [13, 10]) (h3 : 3 ≤ m.length) (hL : m.length ≤ 1000) (hes : t.es.length ≤ 80000) :
    Calls Tryz.prog 97 #[.pointer (some ⟨g, 0, none⟩), .pointer (some ⟨gt, 0, none⟩)] w fun e w' => Lined w S So g gt m s [] t e w' := by
  have hP := Pair.start h hO hd
  cases hP.fm with
  | dead h2 me row => exact absurd hl h2
  | live hl2 me gs gl p fo fcap D row inn =>
    have hT1 : Turns (fun k => k = g) w (w.setCell ⟨g, 3, none⟩ (.slice none 0 0)) := FrAt.set w g 3 _
    have r1 := row.s3 none 0 0
    have i0 : FmIn w (fun k => (S k ∧ k < w.heap.size) ∧ k ≠ g) m { s with fields := [] } gs gl p none 0 D := ⟨inn.sk, inn.skC, inn.skD, inn.ln, OwnV.nil _ _ _ _, fun a e => (by cases e)⟩
    have i1 := i0.turns hT1 (fun k e => e.2)
    have hV := inn.own.isV.turns hT1 (fun a e => (inn.fC a e).1.2)
    have hne : g ≠ gs := fun e => inn.skC.1.2 e.symm
    have HGv := Hid.mk' (giveF_any w g fo s.fields.length fcap row.c3 (row.fz 3))
    have HPt := Hid.mk' (part_any (Rq.flT s.fields) fo fcap s.fields.length _ hV (Rq.flT_length _) (by omega) (fun q hq => by
      unfold Rq.flT at hq
      obtain ⟨f, hf, rfl⟩ := List.mem_map.1 hq
      have := hsh f hf
      refine ⟨?_, ?_⟩
      · show f.1.toArray.size ≤ _; rw [List.size_toArray]; omega
      · show f.2.toArray.size ≤ _; rw [List.size_toArray]; omega))
    rw [Rq.flB_flT] at HPt
    have HP := Hid.mk' hP; have HR1 := Hid.mk' r1; have HI1 := Hid.mk' i1; have HT1 := Hid.mk' hT1; have HMe := Hid.mk' me; have HLv := Hid.mk' hl; have HH0 := Hid.mk' h0
    have hlt := row.lt
    have hgo : ¬ So g := hd g me.1
    have HGo := Hid.mk' hgo
    have HM : Hid (m.take 2 = [13, 10] ∧ 3 ≤ m.length ∧ m.length ≤ 1000) := ⟨h2, h3, hL⟩
    have HFell : Hid (∀ (W2 : World), Below (w.setCell ⟨g, 3, none⟩ (.slice none 0 0)).heap.size (w.setCell ⟨g, 3, none⟩ (.slice none 0 0)) W2 → Fell w S So g gt t W2) := fun W2 hb => by
      have hTd := (HP.out.td.turns HT1.out (fun k e e2 => by subst e2; exact HGo.out e.1)).stay hb
      exact .mk _ _ _ _ _ _ _ _ _ _ (HR1.out.stay hb) hTd (fun e => HGo.out e.1) (fun k e => Or.inl e.1) ((HT1.out.mono (S' := fun k => S k ∨ So k) (fun k e => by subst e; exact Or.inl HMe.out.1)).trans (Turns.of_below hb) (fun _ e _ => e))
    clear hV inn i0 i1 r1 row hP h hO hd h0 hl hl2 me hT1 h2 h3 hL hgo hm hsh
    cases hpp : Fm.part s.fields with
    | inl k =>
      have hk := Fm.part_code hpp
      have HN := Hid.mk' (line_code hpp)
      have HK := Hid.mk' hk
      rw [hpp] at HPt
      unfold Fm.partV at HPt
      simp only at HPt
      have tc : ((k : Int) != 0) = true := by rw [bne_iff_ne]; omega
      clear hpp hk
      go_enter Tryz.func97, Tryz.ntmps97
      go_wp2_with fail
      refine HGv.out.mono ?_
      rintro e w1 ⟨rfl, hw⟩
      subst hw
      go_wp2_with fail
      refine HPt.out.mono ?_
      rintro e w2 ⟨rfl, hb2⟩
      have HF := Hid.mk' (HFell.out _ (then_ hb2 ((Below.refl _ _).alloc (Nat.le_refl _) (.cells #[.string ⟨#[]⟩, .string ⟨#[]⟩, .string ⟨#[]⟩, .slice none 0 0] 27))))
      clear hb2
      go_wp2
      go_ret
      exact .fail k HK.out HN.out rfl HF.out
    | inr pr =>
      rw [hpp] at HPt
      unfold Fm.partV at HPt
      simp only at HPt
      by_cases h12 : s.parts = 12
      · have HN := Hid.mk' (line_many hpp h12)
        have t12 : ((s.parts : Int) == 12) = true := by rw [h12]; rfl
        clear hpp h12
        go_enter Tryz.func97, Tryz.ntmps97
        go_wp2_with fail
        refine HGv.out.mono ?_
        rintro e w1 ⟨rfl, hw⟩
        subst hw
        go_wp2_with fail
        refine HPt.out.mono ?_
        rintro e w2 ⟨rfl, hb2⟩
        have hb3 := then_ hb2 ((Below.refl _ _).alloc (Nat.le_refl _) (.cells #[.string ⟨pr.name.toArray⟩, .string ⟨pr.file.toArray⟩, .string ⟨pr.type.toArray⟩, .slice none 0 0] 27))
        have HF := Hid.mk' (HFell.out _ hb3)
        have c5 := (HR1.out.stay hb3).c5
        clear hb2 hb3
        go_wp2
        go_ret
        exact .fail 8 (by decide) HN.out rfl HF.out
      · have HN := Hid.mk' (line_begin hpp h12)
        have t12 : ((s.parts : Int) == 12) = false := by rw [beq_eq_false_iff_ne]; omega
        clear hpp
        go_enter Tryz.func97, Tryz.ntmps97
        go_wp2_with fail
        refine HGv.out.mono ?_
        rintro e w1 ⟨rfl, hw⟩
        subst hw
        go_wp2_with fail
        refine HPt.out.mono ?_
        rintro e w2 ⟨rfl, hb2⟩
        have hb3 := then_ hb2 ((Below.refl _ _).alloc (Nat.le_refl _) (.cells #[.string ⟨pr.name.toArray⟩, .string ⟨pr.file.toArray⟩, .string ⟨pr.type.toArray⟩, .slice none 0 0] 27))
        have hrow2 := heap_alloc_new w2 (.cells #[.string ⟨pr.name.toArray⟩, .string ⟨pr.file.toArray⟩, .string ⟨pr.type.toArray⟩, .slice none 0 0] 27)
        have hw2 : w.heap.size ≤ w2.heap.size := by have := hb2.size; simpa using this
        go_upto_region 2 with fail
        generalize hW2 : (w2.alloc (.cells #[.string ⟨pr.name.toArray⟩, .string ⟨pr.file.toArray⟩, .string ⟨pr.type.toArray⟩, .slice none 0 0] 27)) = W2 at *
        have r2 := HR1.out.stay hb3
        have r3 := (r2.s5 ((s.parts : Int) + 1)).s4 0
        have hT3 : Turns (fun k => k = g) W2 ((W2.setCell ⟨g, 5, none⟩ (.int .i64 ((s.parts : Int) + 1))).setCell ⟨g, 4, none⟩ (.int .i64 0)) := (FrAt.set W2 g 5 _).trans (FrAt.set _ g 4 _) (fun _ e _ => e)
        have i3 := (HI1.out.stay hb3).turns hT3 (fun k e => e.2)
        have c5 := r2.c5; have f5 := r2.fz 5
        have c4 := (r2.s5 ((s.parts : Int) + 1)).c4; have f4 := (r2.s5 ((s.parts : Int) + 1)).fz 4
        have hSk : SkAt ((W2.setCell ⟨g, 5, none⟩ (.int .i64 ((s.parts : Int) + 1))).setCell ⟨g, 4, none⟩ (.int .i64 0)) gs m 0 p := by have := i3.sk; rw [show ({ s with fields := [] } : Fm.St).held = 0 from HH0.out] at this; exact this
        have HSb := Hid.mk' (seekBytes_any _ g gs m p _ r3.c0 r3.c1 (r3.fz 1) hne hSk HM.out.1 HM.out.2.1 (by have := HM.out.2.2; omega))
        have HB3 := Hid.mk' hb3; have HRow2 := Hid.mk' hrow2; have HR3 := Hid.mk' r3; have HT3 := Hid.mk' hT3; have HI3 := Hid.mk' i3
        clear hb2 hb3 hrow2 r2 r3 hT3 i3 hSk
        go_wp2_with fail
        refine HSb.out.mono ?_
        rintro e w5 ⟨w4, rfl, hw5, hS5, hG5⟩
        obtain ⟨r5, t5⟩ := FmAt.sought (s := { s with fields := [], parts := s.parts + 1, place := 0 }) (a2 := 2) (S := fun k => S k ∧ k < w.heap.size) ⟨HLv.out.1, by show (0 : Nat) ≠ 6; decide⟩ HMe.out HR3.out (HI3.out.as rfl rfl rfl) hS5 hG5
        have e5 : w4.setCell ⟨g, 1, none⟩ (.int .i64 ((2 : Nat) : Int)) = w5 := hw5.symm
        rw [e5] at r5 t5
        have hgs : gs < w.heap.size := by have := HI1.out.sk.lt; simpa using this
        have hTg : ∀ {a b : World}, Turns (fun k => k = g) a b → Turns (fun k => S k ∧ k < w.heap.size) a b := fun hh => hh.mono (fun k e => by subst e; exact HMe.out)
        have hTall : Turns (fun k => S k ∧ k < w.heap.size) w w5 := (((hTg HT1.out).trans (Turns.of_below HB3.out) (fun _ e _ => e)).trans (hTg HT3.out) (fun _ e _ => e)).trans t5 (fun _ e _ => e)
        have hP5 := HP.out.form r5 hTall
        have q1 := HT3.out.row HRow2.out (fun e => by omega)
        have q2 : w4.heap[w2.heap.size]? = _ := (hG5.block _ (Array.getElem?_eq_some_iff.1 q1).1 (fun e => by injection e with e; omega)).trans q1
        have q3 : w5.heap[w2.heap.size]? = some (.cells #[.string ⟨pr.name.toArray⟩, .string ⟨pr.file.toArray⟩, .string ⟨pr.type.toArray⟩, .slice none 0 0] 27 (0, 0)) := by
          rw [← e5]; exact (FrAt.set w4 g 1 _).row q2 (fun e => by omega)
        have p0 : w5.cell? ⟨w2.heap.size, 0, none⟩ = some (.string ⟨pr.name.toArray⟩) := cell_of_row w5 _ 0 _ _ _ q3
        have p1 : w5.cell? ⟨w2.heap.size, 1, none⟩ = some (.string ⟨pr.file.toArray⟩) := cell_of_row w5 _ 1 _ _ _ q3
        have p2 : w5.cell? ⟨w2.heap.size, 2, none⟩ = some (.string ⟨pr.type.toArray⟩) := cell_of_row w5 _ 2 _ _ _ q3
        have p3 : w5.cell? ⟨w2.heap.size, 3, none⟩ = some (.slice none 0 0) := cell_of_row w5 _ 3 _ _ _ q3
        have HAd := Hid.mk' (tdAdd_any w5 _ gt t 5 ⟨pr.name.toArray⟩ ⟨pr.file.toArray⟩ ⟨pr.type.toArray⟩ 0 hP5.td (by decide) (by omega))
        have HP5 := Hid.mk' hP5
        clear r5 t5 e5 hTall hP5 q1 q2 q3 hTg hw5 hS5 hG5 hgs
        go_wp2_with fail
        refine HAd.out.mono ?_
        rintro e w6 ⟨rfl, hO6, hT6⟩
        have HW := Hid.mk' (HP5.out.told hO6 hT6).1
        clear hO6 hT6
        go_wp2
        go_ret
        refine .ok rfl ?_
        rw [HN.out]
        exact HW.out
end Go.Proofs.YtjpenioloeplgadGreatDoor

/- Package forms, walked: a byte of a part's head; a byte. -/
namespace Go.Proofs.YtjpenioloeplgadGreatDoor
open Go.RowKit

theorem Fell.then_ {w0 w w' : World} {S So S1 So1 : Nat → Prop} {g gt : Nat} {t' : Fm.Td} (hS1 : ∀ k, S1 k → S k ∨ w0.heap.size ≤ k) (hSo1 : ∀ k, So1 k → So k ∨ w0.heap.size ≤ k) (hT : Turns (fun k => S k ∨ So k) w0 w) (h2 : Fell w S1 So1 g gt t' w') : Fell w0 S So g gt t' w' := by
  obtain ⟨So2, sk, ln, ah, pl, pt, cd, fo, nf, fcap, hR, hO2, hd2, hSo2, hT2⟩ := h2
  have hz := hT.size
  refine .mk So2 sk ln ah pl pt cd fo nf fcap hR hO2 hd2 (fun k e => ?_) (hT.trans hT2 (fun i e hi => ?_))
  · rcases hSo2 k e with e | e
    · exact hSo1 k e
    · exact Or.inr (by omega)
  · rcases e with e | e
    · rcases hS1 i e with e | e
      · exact Or.inl e
      · omega
    · rcases hSo1 i e with e | e
      · exact Or.inr e
      · omega
theorem Lined.took {w0 w w' : World} {S So S1 So1 : Nat → Prop} {g gt : Nat} {m : List UInt8} {s s1 : Fm.St} {c : UInt8} {tx : List UInt8} {t : Fm.Td} {e : Ending} (hN : Fm.next m s c = Fm.line s1 tx) (hS1 : ∀ k, S1 k → S k ∨ w0.heap.size ≤ k) (hSo1 : ∀ k, So1 k → So k ∨ w0.heap.size ≤ k) (hT : Turns (fun k => S k ∨ So k) w0 w) (h : Lined w S1 So1 g gt m s1 tx t e w') : Took w0 S So g gt m s c t e w' := by
  cases h with
  | ok he h => exact .ok he (by rw [hN]; exact Went.then_ hS1 hSo1 hT h)
  | fail k hk hL he h => exact .fail k hk (hN.trans hL) he (Fell.then_ hS1 hSo1 hT h)
/-- a field's line -/
theorem fieldLine_any (w : World) (S So : Nat → Prop) (g gt : Nat) (m : List UInt8) (s : Fm.St) (tx : List UInt8) (t : Fm.Td) (h : FmAt w S g m s) (hl : Fm.live s) (hm : s.fields.length ≤ 16) (hO : TdAt w So gt t) (hd : ∀ k, S k → ¬ So k) (htx : tx ≠ []) (hz : tx.length ≤ 200) :
    Calls Tryz.prog 96 #[.pointer (some ⟨g, 2, none⟩), .string ⟨tx.toArray⟩] w fun e w' => Lined w S So g gt m s tx t e w' := by
  have hP := Pair.start h hO hd
  cases hP.fm with
  | dead h2 me row => exact absurd hl h2
  | live hl2 me gs gl p fo fcap D row inn =>
    have hgo : ¬ So g := hd g me.1
    refine (fieldF_any w g fo s.fields.length fcap s.fields ⟨tx.toArray⟩ row.c3 (row.fz 3) (fun e => ?_) inn.own hm (by show tx.toArray.size ≤ _; rw [List.size_toArray]; omega)).mono ?_
    · cases fo with
      | none => cases e
      | some a => injection e with e; exact (inn.fC a rfl).1.2 e
    · intro e w' hF
      have hL : Fm.line s tx = if s.fields.length = 16 then Fm.fails 8 else if (Fd.of tx).code ≠ 0 then Fm.fails (Fd.of tx).code else ({ s with fields := s.fields ++ [((Fd.of tx).name, (Fd.of tx).value)] }, []) := by
        unfold Fm.line; rw [if_pos htx]
      cases hF with
      | many h16 he hw =>
        rw [if_pos h16] at hL
        subst hw
        exact .fail 8 (by decide) hL he (.mk _ _ _ _ _ _ _ _ _ _ row hP.td (fun e => hgo e.1) (fun k e => Or.inl e.1) (Turns.refl _ _))
      | bad h16 c hc hd2 he hB =>
        have hd2 : (Fd.of tx).code = c := hd2
        rw [if_neg h16, hd2, if_pos hc] at hL
        exact .fail c hc hL he (.mk _ _ _ _ _ _ _ _ _ _ (row.stay hB) (hP.td.stay hB) (fun e => hgo e.1) (fun k e => Or.inl e.1) (Turns.of_below hB))
      | ok h16 hd2 w3 g3 cap3 he hw hO3 hT3 hat =>
        have hd2 : (Fd.of tx).code = 0 := hd2
        rw [if_neg h16, hd2, if_neg (fun e => e rfl)] at hL
        refine .ok he ?_
        rw [hL]
        subst hw
        have hfo : ∀ k, blockOf fo = some k → ∃ a, fo = some a ∧ a.block = k := fun k e => by
          cases fo with
          | none => cases e
          | some a => injection e with e; exact ⟨a, rfl, e⟩
        have hz3 := hT3.size
        have hT4 : Turns (fun k => k = g) w3 (w3.setCell ⟨g, 3, none⟩ (.slice (some ⟨g3, 0, none⟩) (s.fields.length + 1) cap3)) := FrAt.set w3 g 3 _
        have hlt := row.lt
        have r3 := (row.turns hT3 (fun e => by obtain ⟨a, ea, eb⟩ := hfo g e; exact (inn.fC a ea).1.2 eb)).s3 (some ⟨g3, 0, none⟩) (s.fields.length + 1) cap3
        have hg3 : g3 < w3.heap.size := (hO3.block _ rfl).2
        have hg3g : g3 ≠ g := fun e => by
          rcases hat with e2 | e2
          · obtain ⟨a, ea, eb⟩ := hfo g3 e2; exact (inn.fC a ea).1.2 (eb.trans e)
          · omega
        have hlen : (s.fields ++ [((Fd.of tx).name, (Fd.of tx).value)]).length = s.fields.length + 1 := by rw [List.length_append]; rfl
        have i3 : FmIn w3 (fun k => (S k ∧ k < w.heap.size ∨ w.heap.size ≤ k ∧ k < w3.heap.size) ∧ k ≠ g) m { s with fields := s.fields ++ [((Fd.of tx).name, (Fd.of tx).value)] } gs gl p (some ⟨g3, 0, none⟩) cap3 (fun k => D k ∧ k < w.heap.size) := by
          refine ⟨inn.sk.turns hT3 ?_ ?_ ?_, ⟨⟨Or.inl inn.skC.1.1, inn.skC.1.2⟩, ⟨Or.inl inn.skC.2.1.1, inn.skC.2.1.2⟩, fun a e => ⟨Or.inl (inn.skC.2.2 a e).1, (inn.skC.2.2 a e).2⟩⟩, ⟨fun e => inn.skD.1 e.1, fun e => inn.skD.2.1 e.1, fun a e e2 => inn.skD.2.2 a e e2.1⟩, ?_, ?_, ?_⟩
          · intro e; obtain ⟨a, ea, eb⟩ := hfo _ e; exact (inn.fs a ea).1 eb
          · intro e; obtain ⟨a, ea, eb⟩ := hfo _ e; exact (inn.fs a ea).2.1 eb
          · intro b hb e; obtain ⟨a, ea, eb⟩ := hfo _ e; exact (inn.fs a ea).2.2 b hb eb
          · have := (inn.ln.mono (S' := fun k => ((S k ∧ k < w.heap.size ∨ w.heap.size ≤ k ∧ k < w3.heap.size) ∧ k ≠ g) ∧ (D k ∧ k < w.heap.size)) (fun k hk e => ⟨⟨Or.inl e.1.1, e.1.2⟩, e.2, hk⟩))
            exact this.turns hT3 (fun k e e2 => by obtain ⟨a, ea, eb⟩ := hfo _ e2; exact (inn.fC a ea).2 (eb ▸ e.2.1))
          · show OwnV w3 0 58 2 (some ⟨g3, 0, none⟩) cap3 (s.fields ++ [((Fd.of tx).name, (Fd.of tx).value)]).length _
            rw [hlen]; exact hO3
          · intro a e
            injection e with e; subst e
            refine ⟨⟨?_, hg3g⟩, fun e2 => ?_⟩
            · rcases hat with e2 | e2
              · obtain ⟨a, ea, eb⟩ := hfo g3 e2; exact Or.inl (eb ▸ (inn.fC a ea).1.1)
              · exact Or.inr ⟨e2, hg3⟩
            · rcases hat with e3 | e3
              · obtain ⟨a, ea, eb⟩ := hfo g3 e3; exact (inn.fC a ea).2 (eb ▸ e2.1)
              · have h9 : g3 < w.heap.size := e2.2; omega
        have i4 := i3.turns hT4 (fun k e => e.2)
        have r4 : FrAt (w3.setCell ⟨g, 3, none⟩ (.slice (some ⟨g3, 0, none⟩) (s.fields.length + 1) cap3)) g (.pointer (some ⟨gs, 0, none⟩)) (s.ahead : Int) (.pointer (some ⟨gl, 0, none⟩)) (some ⟨g3, 0, none⟩) (s.fields ++ [((Fd.of tx).name, (Fd.of tx).value)]).length cap3 (s.place : Int) (s.parts : Int) (s.code : Int) := by rw [hlen]; exact r3
        have hfoS : ∀ k, blockOf fo = some k → S k ∧ k < w.heap.size := fun k e => by obtain ⟨a, ea, eb⟩ := hfo k e; exact eb ▸ (inn.fC a ea).1.1
        refine .mk (fun k => S k ∧ k < w.heap.size ∨ w.heap.size ≤ k ∧ k < w3.heap.size) (fun k => So k ∧ k < w.heap.size) (.live (s := { s with fields := s.fields ++ [((Fd.of tx).name, (Fd.of tx).value)] }) hl (Or.inl me) gs gl p _ cap3 _ r4 i4) ((hP.td.turns hT3 (fun k e e2 => hd k (hfoS k e2).1 e.1)).turns hT4 (fun k e e2 => by subst e2; exact hgo e.1)) (fun k e e2 => ?_) (fun k e => ?_) (fun k e => Or.inl e.1) ?_
        · rcases e with e | e
          · exact hd k e.1 e2.1
          · have := e2.2; omega
        · rcases e with e | e
          · exact Or.inl e.1
          · exact Or.inr e.1
        · exact (hT3.mono (S' := fun k => S k ∨ So k) (fun k e => Or.inl (hfoS k e).1)).trans (hT4.mono (S' := fun k => S k ∨ So k) (fun k e => by subst e; exact Or.inl me.1)) (fun _ e _ => e)
/-- behind a byte for the reader of lines -/
theorem FmAt.lined {w w1 : World} {S : Nat → Prop} {g gs gl : Nat} {m : List UInt8} {s : Fm.St} {p : SkP} {fo : Option Addr} {fcap : Nat} {D : Nat → Prop} {ln2 : Ln.St} (hl : Fm.live s) (me : S g) (hSz : ∀ k, S k → k < w.heap.size) (row : FrAt w g (.pointer (some ⟨gs, 0, none⟩)) (s.ahead : Int) (.pointer (some ⟨gl, 0, none⟩)) fo s.fields.length fcap (s.place : Int) (s.parts : Int) (s.code : Int)) (inn : FmIn w (fun k => S k ∧ k ≠ g) m s gs gl p fo fcap D)
    (hL : LineAt w1 (orNew (fun k => (S k ∧ k ≠ g) ∧ D k) w) gl ln2) (hT : Turns (fun k => (S k ∧ k ≠ g) ∧ D k) w w1) : FmAt w1 (fun k => S k ∨ w.heap.size ≤ k ∧ k < w1.heap.size) g m { s with ln := ln2 } := by
  have hlt := row.lt
  refine .live hl (Or.inl me) gs gl p fo fcap (fun k => D k ∧ k < w.heap.size ∨ w.heap.size ≤ k) (row.turns hT (fun e => e.1.2 rfl)) ⟨inn.sk.turns hT (fun e => inn.skD.1 e.2) (fun e => inn.skD.2.1 e.2) (fun a e e2 => inn.skD.2.2 a e e2.2), ⟨⟨Or.inl inn.skC.1.1, inn.skC.1.2⟩, ⟨Or.inl inn.skC.2.1.1, inn.skC.2.1.2⟩, fun a e => ⟨Or.inl (inn.skC.2.2 a e).1, (inn.skC.2.2 a e).2⟩⟩, ⟨?_, ?_, ?_⟩, hL.mono (fun k hk e => ?_), inn.own.turns hT (fun a e e2 => (inn.fC a e).2 e2.2), fun a e => ⟨⟨Or.inl (inn.fC a e).1.1, (inn.fC a e).1.2⟩, ?_⟩⟩
  · intro e; rcases e with e | e
    · exact inn.skD.1 e.1
    · have := hSz _ inn.skC.1.1; omega
  · intro e; rcases e with e | e
    · exact inn.skD.2.1 e.1
    · have := hSz _ inn.skC.2.1.1; omega
  · intro a ea e; rcases e with e | e
    · exact inn.skD.2.2 a ea e.1
    · have := hSz _ (inn.skC.2.2 a ea).1; omega
  · rcases e with e | e
    · exact ⟨⟨Or.inl e.1.1, e.1.2⟩, Or.inl ⟨e.2, hSz k e.1.1⟩⟩
    · exact ⟨⟨Or.inr ⟨e, hk⟩, by omega⟩, Or.inr e⟩
  · intro e2; rcases e2 with e2 | e2
    · exact (inn.fC a e).2 e2.1
    · have := hSz _ (inn.fC a e).1.1; omega

set_option maxRecDepth 100000 in
set_option maxHeartbeats 4000000 in
theorem takeHead_any (w : World) (S So : Nat → Prop) (g gt : Nat) (m : List UInt8) (s : Fm.St) (c : UInt8) (t : Fm.Td) (h : FmAt w S g m s) (hl : Fm.live s) (hp : s.place = 5) (hG : Fm.Good m s) (hO : TdAt w So gt t) (hd : ∀ k, S k → ¬ So k) (h2 : m.take 2 = [13, 10]) (h3 : 3 ≤ m.length) (hL : m.length ≤ 1000) (hes : t.es.length ≤ 80000) :
    Calls Tryz.prog 70 #[.pointer (some ⟨g, 0, none⟩), .pointer (some ⟨gt, 0, none⟩), .int .u8 c.toNat] w fun e w' => Took w S So g gt m s c t e w' := by
  have hP := Pair.start h hO hd
  have hN := Fm.next_head m hp hl.1 c
  cases hP.fm with
  | dead h2 me row => exact absurd hl h2
  | live hl2 me gs gl p fo fcap D row inn =>
    have HF := Hid.mk' (feedLines_any w _ gl s.ln c inn.ln hG.ln.short)
    unfold Ln.fed at HF
    have c2 := row.c2
    have HP := Hid.mk' hP; have HN := Hid.mk' hN; have HRow := Hid.mk' row
    have hgo : ¬ So g := hd g me.1
    have HGo := Hid.mk' hgo
    -- behind the line's byte
    have hAft : ∀ w1, LineAt w1 (orNew (fun k => ((S k ∧ k < w.heap.size) ∧ k ≠ g) ∧ D k) w) gl (Ln.next s.ln c) → Turns (fun k => ((S k ∧ k < w.heap.size) ∧ k ≠ g) ∧ D k) w w1 → FmAt w1 (fun k => (S k ∧ k < w.heap.size) ∨ w.heap.size ≤ k ∧ k < w1.heap.size) g m { s with ln := Ln.next s.ln c } ∧ TdAt w1 (fun k => So k ∧ k < w.heap.size) gt t ∧ Turns (fun k => S k ∨ So k) w w1 := fun w1 hL1 hT1 =>
      ⟨FmAt.lined hl me (fun k e => e.2) row inn hL1 hT1, hP.td.turns hT1 (fun k e e2 => hd k e2.1.1.1 e.1), hT1.mono (fun k e => Or.inl e.1.1.1)⟩
    have HAft := Hid.mk' hAft
    have HD := Hid.mk' hd
    have hapart : ∀ w1 : World, ∀ k, ((S k ∧ k < w.heap.size) ∨ w.heap.size ≤ k ∧ k < w1.heap.size) → ¬ (So k ∧ k < w.heap.size) := fun w1 k e e2 => by
      rcases e with e | e
      · exact hd k e.1 e2.1
      · omega
    have HAp := Hid.mk' hapart
    have HGd := Hid.mk' hG; have HLv := Hid.mk' hl; have HPl := Hid.mk' hp; have HM : Hid (m.take 2 = [13, 10] ∧ 3 ≤ m.length ∧ m.length ≤ 1000) := ⟨h2, h3, hL⟩
    clear hAft hapart inn row hP h hO hd hl2 me hN hgo h2 h3 hL
    by_cases hc : (Ln.next s.ln c).code = 0
    · have tc : (((Ln.next s.ln c).code : Int) != 0) = false := by rw [hc]; rfl
      cases he : Ln.ends s.ln c with
      | false =>
        rw [he] at HF HN
        rw [if_neg (fun e => e hc), if_neg (by simp)] at HN
        have HC := Hid.mk' hc
        generalize hcd : ((Ln.next s.ln c).code : Int) = cd at HF tc
        have HCd : Hid (cd = 0) := by unfold Hid; rw [← hcd, hc]; rfl
        clear hc hcd he
        generalize (⟨(Ln.text s.ln c).toArray⟩ : ByteArray) = tx at *
        go_enter Tryz.func70, Tryz.ntmps70
        go_wp2_with fail
        refine HF.out.mono ?_
        rintro e w1 ⟨rfl, hL1, hT1⟩
        have HA := Hid.mk' (HAft.out w1 hL1 hT1)
        clear hL1 hT1
        go_wp2
        go_ret
        refine .ok (by rw [HCd.out]; rfl) ?_
        rw [HN.out]
        exact .mk _ _ HA.out.1 HA.out.2.1 (HAp.out w1) (fun k e => e.imp (fun e => e.1) (fun e => e.1)) (fun k e => Or.inl e.1) HA.out.2.2
      | true =>
        rw [he] at HF HN
        rw [if_neg (fun e => e hc), if_pos rfl] at HN
        have hsh := (Rq.text_short (c := c) hG.ln).1
        have HSt := Hid.mk' (Fm.ends_start he)
        rw [hc] at HF
        clear tc
        by_cases htx : Ln.text s.ln c = []
        · have HB : Hid (∀ w1, FmAt w1 (fun k => (S k ∧ k < w.heap.size) ∨ w.heap.size ≤ k ∧ k < w1.heap.size) g m { s with ln := Ln.next s.ln c } → TdAt w1 (fun k => So k ∧ k < w.heap.size) gt t → Calls Tryz.prog 97 #[.pointer (some ⟨g, 0, none⟩), .pointer (some ⟨gt, 0, none⟩)] w1 fun e w' => Lined w1 (fun k => (S k ∧ k < w.heap.size) ∨ w.heap.size ≤ k ∧ k < w1.heap.size) (fun k => So k ∧ k < w.heap.size) g gt m { s with ln := Ln.next s.ln c } [] t e w') := fun w1 hF1 hO1 =>
            begin_any w1 _ _ g gt m { s with ln := Ln.next s.ln c } t hF1 HLv.out (HGd.out.idle (by rw [HPl.out]; decide)) HGd.out.many HGd.out.short HGd.out.parts hO1 (HAp.out w1) HM.out.1 HM.out.2.1 HM.out.2.2 hes
          rw [htx] at HF HN
          clear htx hc he hG hl hp
          go_enter Tryz.func70, Tryz.ntmps70
          go_wp2_with fail
          refine HF.out.mono ?_
          rintro e w1 ⟨rfl, hL1, hT1⟩
          have HA := Hid.mk' (HAft.out w1 hL1 hT1)
          clear hL1 hT1
          go_wp2_with fail
          refine (HB.out w1 HA.out.1 HA.out.2.1).mono ?_
          intro e w2 hLd
          have HK := Hid.mk' (Lined.took (w0 := w) HN.out (S := S) (So := So) (fun k e => e.imp (fun e => e.1) (fun e => e.1)) (fun k e => Or.inl e.1) HA.out.2.2 hLd)
          obtain ⟨v, hv⟩ : ∃ v, e = .returned v := by cases hLd with
            | ok he h => exact ⟨_, he⟩
            | fail k hk hN he h => exact ⟨_, he⟩
          clear hLd
          subst hv
          go_wp2
          go_ret
          exact HK.out
        · have ttx : ((⟨(Ln.text s.ln c).toArray⟩ : ByteArray).toList == []) = false := by rw [beq_eq_false_iff_ne, Lib.toList_data]; exact htx
          have HB : Hid (∀ w1, FmAt w1 (fun k => (S k ∧ k < w.heap.size) ∨ w.heap.size ≤ k ∧ k < w1.heap.size) g m { s with ln := Ln.next s.ln c } → TdAt w1 (fun k => So k ∧ k < w.heap.size) gt t → Calls Tryz.prog 96 #[.pointer (some ⟨g, 2, none⟩), .string ⟨(Ln.text s.ln c).toArray⟩] w1 fun e w' => Lined w1 (fun k => (S k ∧ k < w.heap.size) ∨ w.heap.size ≤ k ∧ k < w1.heap.size) (fun k => So k ∧ k < w.heap.size) g gt m { s with ln := Ln.next s.ln c } (Ln.text s.ln c) t e w') := fun w1 hF1 hO1 =>
            fieldLine_any w1 _ _ g gt m { s with ln := Ln.next s.ln c } (Ln.text s.ln c) t hF1 HLv.out HGd.out.many hO1 (HAp.out w1) htx hsh
          clear htx hc he hG hl hp hsh
          generalize (⟨(Ln.text s.ln c).toArray⟩ : ByteArray) = tx at *
          go_enter Tryz.func70, Tryz.ntmps70
          go_wp2_with fail
          refine HF.out.mono ?_
          rintro e w1 ⟨rfl, hL1, hT1⟩
          have HA := Hid.mk' (HAft.out w1 hL1 hT1)
          clear hL1 hT1
          go_wp2_with fail
          refine (HB.out w1 HA.out.1 HA.out.2.1).mono ?_
          intro e w2 hLd
          have HK := Hid.mk' (Lined.took (w0 := w) HN.out (S := S) (So := So) (fun k e => e.imp (fun e => e.1) (fun e => e.1)) (fun k e => Or.inl e.1) HA.out.2.2 hLd)
          obtain ⟨v, hv⟩ : ∃ v, e = .returned v := by cases hLd with
            | ok he h => exact ⟨_, he⟩
            | fail k hk hN he h => exact ⟨_, he⟩
          clear hLd
          subst hv
          go_wp2
          go_ret
          exact HK.out
    · have tc : (((Ln.next s.ln c).code : Int) != 0) = true := by rw [bne_iff_ne]; omega
      rw [if_pos hc] at HN
      have HC := Hid.mk' hc
      generalize hcd : (Ln.next s.ln c).code = cd at *
      clear hc
      generalize (⟨(Ln.text s.ln c).toArray⟩ : ByteArray) = tx at *
      generalize Ln.ends s.ln c = en at *
      go_enter Tryz.func70, Tryz.ntmps70
      go_wp2_with fail
      refine HF.out.mono ?_
      rintro e w1 ⟨rfl, hL1, hT1⟩
      have HA := Hid.mk' (HAft.out w1 hL1 hT1)
      have HR1 := Hid.mk' (HRow.out.turns hT1 (fun e => e.1.2 rfl))
      clear hL1 hT1 hcd
      go_wp2
      go_ret
      exact .fail cd HC.out HN.out rfl (.mk _ _ _ _ _ _ _ _ _ _ HR1.out HA.out.2.1 (fun e => HGo.out e.1) (fun k e => Or.inl e.1) HA.out.2.2)
end Go.Proofs.YtjpenioloeplgadGreatDoor

/- Package forms, walked: Feed. -/
namespace Go.Proofs.YtjpenioloeplgadGreatDoor
open Go.RowKit

/-- what a reader of forms with this mark and state asks -/
structure FmOk (m : List UInt8) (s : Fm.St) : Prop where
  good : Fm.Good m s
  two : m.take 2 = [13, 10]
  long : 5 ≤ m.length
  short : m.length ≤ 100
  ahead : s.ahead ≤ 2
theorem FmOk.fold {m : List UInt8} {s : Fm.St} (h : FmOk m s) (l : List UInt8) : FmOk m (Fm.fold m s l) := ⟨h.good.fold (by have := h.long; omega) l, h.two, h.long, h.short, Fm.fold_ahead m l s h.ahead⟩

set_option maxHeartbeats 1000000 in
theorem take_any (w : World) (S So : Nat → Prop) (g gt : Nat) (m : List UInt8) (s : Fm.St) (c : UInt8) (t : Fm.Td) (h : FmAt w S g m s) (hl : Fm.live s) (hG : FmOk m s) (hO : TdAt w So gt t) (hd : ∀ k, S k → ¬ So k) (hes : t.es.length ≤ 80000) (hbs : t.bs.length ≤ 80000) :
    Calls Tryz.prog 45 #[.pointer (some ⟨g, 0, none⟩), .pointer (some ⟨gt, 0, none⟩), .int .u8 c.toNat] w fun e w' => Took w S So g gt m s c t e w' := by
  have c4 := h.cells.1
  have h3 : 3 ≤ m.length := by have := hG.long; omega
  have h1 : m.length ≤ 1000 := by have := hG.short; omega
  by_cases hp0 : s.place = 0
  · have HT := Hid.mk' (takeByte_any w S So g gt m s c t h hl hp0 hG.good hO hd h1 hG.ahead hes hbs)
    have t0 : ((s.place : Int) == 0) = true := by rw [hp0]; rfl
    clear hp0 h hl hG hO hd
    go_enter Tryz.func45, Tryz.ntmps45
    go_wp2_with fail
    refine HT.out.mono ?_
    rintro e w1 ⟨rfl, hW⟩
    have HW := Hid.mk' hW
    clear hW
    go_wp2
    go_ret
    exact .ok rfl HW.out
  · have t0 : ((s.place : Int) == 0) = false := by rw [beq_eq_false_iff_ne]; omega
    by_cases hp5 : s.place = 5
    · have HT := Hid.mk' (takeHead_any w S So g gt m s c t h hl hp5 hG.good hO hd hG.two h3 h1 hes)
      have t5 : ((s.place : Int) == 5) = true := by rw [hp5]; rfl
      clear hp5 hp0 h hl hG hO hd
      go_enter Tryz.func45, Tryz.ntmps45
      go_wp2_with fail
      refine HT.out.mono ?_
      intro e w1 hW
      have HW := Hid.mk' hW
      obtain ⟨v, hv⟩ : ∃ v, e = .returned v := by cases hW with
        | ok he h => exact ⟨_, he⟩
        | fail k hk hN he h => exact ⟨_, he⟩
      clear hW
      subst hv
      go_wp2
      go_ret
      exact HW.out
    · have t5 : ((s.place : Int) == 5) = false := by rw [beq_eq_false_iff_ne]; omega
      have hp6 := hG.good.place
      have hn6 := hl.2
      have HT := Hid.mk' (takeBehindMark_any w S So g gt m s c t h hl (by omega) hO hd hes)
      clear hp5 hp0 h hl hG hO hd hp6 hn6
      go_enter Tryz.func45, Tryz.ntmps45
      go_wp2_with fail
      refine HT.out.mono ?_
      intro e w1 hW
      have HW := Hid.mk' hW
      obtain ⟨v, hv⟩ : ∃ v, e = .returned v := by cases hW with
        | ok he h => exact ⟨_, he⟩
        | fail k hk hN he h => exact ⟨_, he⟩
      clear hW
      subst hv
      go_wp2
      go_ret
      exact HW.out
/-- what the loop over bytes keeps -/
structure FfRel (w : World) (S : Nat → Prop) (g : Nat) (m : List UInt8) (s : Fm.St) (l : List UInt8) (k : Nat) (wr : World) : Prop where
  two : ∃ S' So', FmAt wr S' g m (Fm.fold m s (l.take k)) ∧ TdAt wr So' w.heap.size (Fm.tells Fm.td0 (Fm.outs m s (l.take k))) ∧ (∀ i, S' i → ¬ So' i) ∧ (∀ i, S' i → S i ∨ w.heap.size ≤ i) ∧ (∀ i, So' i → w.heap.size ≤ i)
  turns : Turns S w wr
/-- what Feed comes to -/
inductive FedForm (w : World) (S : Nat → Prop) (g : Nat) (m : List UInt8) (s : Fm.St) (l : List UInt8) (e : Ending) (w' : World) : Prop
  | mk (ao : Option Addr) (cap n : Nat) (S' So' : Nat → Prop) (he : e = .returned (.slice ao n cap)) (hn : n = (joinD (Fm.outs m s l)).length) (hR : FmAt w' S' g m (Fm.fold m s l)) (hO : AllN w' So' 54 ao cap (joinD (Fm.outs m s l))) (hd : ∀ i, S' i → ¬ So' i) (hS : ∀ i, S' i → S i ∨ w.heap.size ≤ i) (hSo : ∀ i, So' i → w.heap.size ≤ i) (hT : Turns S w w')
theorem FfRel.step {w wr w' : World} {S S' So' : Nat → Prop} {g : Nat} {m : List UInt8} {s : Fm.St} {l : List UInt8} {k : Nat} (hk : k < l.length) (hS : ∀ i, S' i → S i ∨ w.heap.size ≤ i) (hSo : ∀ i, So' i → w.heap.size ≤ i) (hT : Turns S w wr)
    (h : Went wr S' So' g w.heap.size m (Fm.next m (Fm.fold m s (l.take k)) l[k]).1 (Fm.tells (Fm.tells Fm.td0 (Fm.outs m s (l.take k))) (Fm.next m (Fm.fold m s (l.take k)) l[k]).2) w') : FfRel w S g m s l (k + 1) w' := by
  obtain ⟨S2, So2, hF, hO, hd, hS2, hSo2, hT2⟩ := h
  have ht : l.take (k + 1) = l.take k ++ [l[k]] := List.take_succ_eq_append_getElem hk
  have hz := hT.size
  refine ⟨⟨S2, So2, by rw [ht, Fm.fold_snoc]; exact hF, by rw [ht, Fm.outs_snoc, Fm.tells_append]; exact hO, hd, fun i e => ?_, fun i e => ?_⟩, hT.trans hT2 (fun i e hi => ?_)⟩
  · rcases hS2 i e with e | e
    · exact hS i e
    · exact Or.inr (by omega)
  · rcases hSo2 i e with e | e
    · exact hSo i e
    · omega
  · rcases e with e | e
    · rcases hS i e with e | e
      · exact e
      · omega
    · have := hSo i e; omega
/-- behind a code -/
theorem fell_done {w w1 w2 : World} {S So So1 : Nat → Prop} {g gt : Nat} {m : List UInt8} {t : Fm.Td} {k : Nat} (hk : k ≠ 0) (me : S g)
    (hd1 : ¬ So1 g) (hSo1 : ∀ i, So1 i → So i ∨ w.heap.size ≤ i) (hT1 : Turns (fun i => S i ∨ So i) w w1)
    {w7 : World} (hR7 : FrAt w7 g (.pointer none) 0 (.pointer none) none 0 0 0 0 (k : Int)) (hT7 : Turns (fun i => i = g) w1 w7) (hg : g < w.heap.size) (hO2 : TdAt w2 (orNew (fun i => So1 i ∧ i < w1.heap.size) w7) gt (Fm.tell t (Fm.failD k))) (hT2 : Turns (fun i => So1 i ∧ i < w1.heap.size) w7 w2) :
    Went w S So g gt m (Fm.fails k).1 (Fm.tells t (Fm.fails k).2) w2 := by
  have hz1 := hT1.size
  have hz7 := hT7.size
  refine .mk (fun i => i = g) _ (.dead (Fm.failed_dead hk) rfl (hR7.turns hT2 (fun e => hd1 e.1))) hO2 (fun i e e2 => ?_) (fun i e => by subst e; exact Or.inl me) (fun i e => ?_) ((hT1.trans hT7 (fun i e _ => by subst e; exact Or.inl me)).trans hT2 (fun i e hi => ?_))
  · subst e
    rcases e2 with e2 | e2
    · exact hd1 e2.1
    · omega
  · rcases e with e | e
    · exact hSo1 i e.1
    · exact Or.inr (by omega)
  · rcases hSo1 i e.1 with e | e
    · exact Or.inr e
    · omega
theorem FfRel.done {w wr w' : World} {S S' So' : Nat → Prop} {g : Nat} {m : List UInt8} {s : Fm.St} {l : List UInt8} {k : Nat} {ao bo : Option Addr} {cap bc : Nat} (hF : FmAt wr S' g m (Fm.fold m s (l.take k))) (hd : ∀ i, S' i → ¬ So' i) (hS : ∀ i, S' i → S i ∨ w.heap.size ≤ i) (hSo : ∀ i, So' i → w.heap.size ≤ i) (hT : Turns S w wr) (ho : Fm.outs m s l = Fm.outs m s (l.take k)) (hf : Fm.fold m s l = Fm.fold m s (l.take k))
    (hR : TdRow w' (orNew (fun i => So' i ∧ i < wr.heap.size) wr) w.heap.size ao cap bo bc ⟨Fm.flush (Fm.tells Fm.td0 (Fm.outs m s (l.take k))), []⟩) (hT2 : Turns (fun i => So' i ∧ i < wr.heap.size) wr w') : FedForm w S g m s l (.returned (.slice ao (Fm.flush (Fm.tells Fm.td0 (Fm.outs m s (l.take k)))).length cap)) w' := by
  have hfl := (Fm.flush_tells _ (Fm.clean_outs m (l.take k) s)).1
  have hz := hT.size
  refine .mk ao cap _ (fun i => S' i ∧ i < wr.heap.size) (fun i => orNew (fun i => So' i ∧ i < wr.heap.size) wr i) rfl (by rw [hfl, ho]) (by rw [hf]; exact (hF.mono (fun i hi e => ⟨e, hi⟩)).turns hT2 (fun i e e2 => hd i e.1 e2.1)) (by rw [ho, ← hfl]; exact hR.all.mono (fun i _ e => e.1.1)) (fun i e e2 => ?_) (fun i e => hS i e.1) (fun i e => ?_) (hT.trans hT2 (fun i e hi => by have := hSo i e.1; omega))
  · rcases e2 with e2 | e2
    · exact hd i e.1 e2.1
    · have := e.2; omega
  · rcases e with e | e
    · exact hSo i e.1
    · omega

set_option maxRecDepth 100000 in
set_option maxHeartbeats 4000000 in
theorem feedForm_any (w : World) (S : Nat → Prop) (g : Nat) (m : List UInt8) (s : Fm.St) (l : List UInt8) (bo : Option Addr) (bcap n : Nat) (h : FmAt w S g m s) (hG : FmOk m s) (hB : IsB w bo bcap l) (hbo : l ≠ [] → ∀ a, bo = some a → ¬ S a.block) (hn : l.length = n) (hl : n ≤ 20000) :
    Calls Tryz.prog 21 #[.pointer (some ⟨g, 0, none⟩), .slice bo n bcap] w fun e w' => FedForm w S g m s l e w' := by
  subst hn
  have hlt := h.lt
  have hb0 : Below w.heap.size w (w.alloc (.cells #[.slice none 0 0, .slice none 0 0] 91)) := (Below.refl _ _).alloc (Nat.le_refl _) _
  have hStart : FfRel w S g m s l 0 (w.alloc (.cells #[.slice none 0 0, .slice none 0 0] 91)) := ⟨⟨fun k => S k ∧ k < w.heap.size, fun k => w.heap.size ≤ k, (h.mono (fun k hk e => ⟨e, hk⟩)).stay hb0, ⟨_, _, _, _, TdRow.made w⟩, fun i e e2 => by have := e.2; omega, fun i e => Or.inl e.1, fun i e => e⟩, Turns.of_below hb0⟩
  have HSt := Hid.mk' hStart
  have HB := Hid.mk' hB; have HG := Hid.mk' hG; have HBo := Hid.mk' hbo
  have HMe := Hid.mk' h.me
  have HLt := Hid.mk' hlt
  clear hB h hG hbo hb0 hStart
  go_enter Tryz.func21, Tryz.ntmps21
  go_wp2
  go_loopw [11] (fun vi wr => ∃ k : Nat, k ≤ l.length ∧ vi = .int .i64 k ∧ FfRel w S g m s l k wr) (fun vi _ => l.length - (intOf vi).toNat)
  case atStart => exact ⟨0, Nat.zero_le _, rfl, HSt.out⟩
  case round =>
    clear HSt
    obtain ⟨k, hk, rfl, hF⟩ := hrel
    obtain ⟨S', So', hR', hO', hd', hS', hSo'⟩ := hF.two
    have hT' := hF.turns
    have htk : (l.take k).length ≤ 20000 := by rw [List.length_take]; omega
    have hfew := Fm.tells_few (by have := HG.out.long; omega) HG.out.good (l.take k)
    have hh := HG.out.good.held
    have hsh := HG.out.short
    have hO2 : TdAt wr (fun i => So' i ∧ i < wr.heap.size) w.heap.size (Fm.tells Fm.td0 (Fm.outs m s (l.take k))) := hO'.mono (fun i hi e => ⟨e, hi⟩)
    have HAll := Hid.mk' (tdAll_any wr _ w.heap.size _ hO2 (by omega))
    have HDone : Hid (∀ (w' : World) (ao bo : Option Addr) (cap bc : Nat), Fm.outs m s l = Fm.outs m s (l.take k) → Fm.fold m s l = Fm.fold m s (l.take k) → TdRow w' (orNew (fun i => So' i ∧ i < wr.heap.size) wr) w.heap.size ao cap bo bc ⟨Fm.flush (Fm.tells Fm.td0 (Fm.outs m s (l.take k))), []⟩ → Turns (fun i => So' i ∧ i < wr.heap.size) wr w' → FedForm w S g m s l (.returned (.slice ao (Fm.flush (Fm.tells Fm.td0 (Fm.outs m s (l.take k)))).length cap)) w') := fun w' ao bo cap bc ho hf hR hT2 => FfRel.done hR' hd' hS' hSo' hT' ho hf hR hT2
    by_cases hlt2 : k < l.length
    · obtain ⟨bb, oo, rfl, _⟩ := HB.out.lit (by omega)
      have hne : l ≠ [] := by intro e; subst e; simp at hlt2
      obtain ⟨b2, o2, he2, hc2⟩ := (HB.out.turns hT' (fun a e => HBo.out hne a e)).lit (by omega)
      injection he2 with he2
      injection he2 with hb2 ho2
      subst hb2; subst ho2
      have ck := hc2 k hlt2
      have hlt' : (k : Int) < l.length := by omega
      have hcap := HB.out.1
      obtain ⟨c4, c5, c6, fz⟩ := hR'.cells
      by_cases hlv : Fm.live (Fm.fold m s (l.take k))
      · have hG' := HG.out.fold (l.take k)
        have HTk := Hid.mk' (take_any wr S' So' g w.heap.size m _ l[k] _ hR' hlv hG' hO' hd' (by omega) (by omega))
        have HStep : Hid (∀ w', Went wr S' So' g w.heap.size m (Fm.next m (Fm.fold m s (l.take k)) l[k]).1 (Fm.tells (Fm.tells Fm.td0 (Fm.outs m s (l.take k))) (Fm.next m (Fm.fold m s (l.take k)) l[k]).2) w' → FfRel w S g m s l (k + 1) w') := fun w' hw => FfRel.step hlt2 hS' hSo' hT' hw
        have t0 : (((Fm.fold m s (l.take k)).code : Int) != 0) = false := by rw [hlv.1]; rfl
        have t6 : (((Fm.fold m s (l.take k)).place : Int) == 6) = false := by rw [beq_eq_false_iff_ne]; have := hlv.2; omega
        have HMe' := Hid.mk' hR'.me; have HLt' := Hid.mk' hR'.lt
        have hes : (Fm.tells Fm.td0 (Fm.outs m s (l.take k))).es.length ≤ 80000 := by omega
        have HEs := Hid.mk' hes
        generalize Fm.tells Fm.td0 (Fm.outs m s (l.take k)) = td at *
        generalize Fm.fold m s (l.take k) = st at *
        generalize l[k] = cb at *
        clear hR' hO' hd' hS' hSo' hfew hO2 hc2 hlv hF HAll HDone hG' hes
        go_wp2_with fail
        refine HTk.out.mono ?_
        intro e w1 hTk
        cases hTk with
        | ok he hW =>
          subst he
          have HW := Hid.mk' (HStep.out w1 hW)
          clear hW
          go_wp2
          go_roundw
          case rel => exact ⟨k + 1, by omega, by go_num, HW.out⟩
          case measure => simp [intOf]; omega
        | fail kk hkk hN he hF =>
          subst he
          have tk : ((kk : Int) != 0) = true := by rw [bne_iff_ne]; omega
          obtain ⟨So1, sk, ln, ah, pl, pt, cd, fo, nf, fcap, hR1, hO1, hd1, hSo1, hT1⟩ := hF
          have q0 := hR1.c0; have q1 := hR1.c1; have q2 := hR1.c2; have q3 := hR1.c3; have q4 := hR1.c4; have q5 := hR1.c5; have q6 := hR1.c6
          have f0 := hR1.fz 0; have f1 := hR1.fz 1; have f2 := hR1.fz 2; have f3 := hR1.fz 3; have f4 := hR1.fz 4; have f5 := hR1.fz 5; have f6 := hR1.fz 6
          obtain ⟨hR7, hT7⟩ := hR1.anew 0 (kk : Int)
          have hO7 := (hO1.mono (S' := fun i => So1 i ∧ i < w1.heap.size) (fun i hi e => ⟨e, hi⟩)).turns hT7 (fun i e e2 => by subst e2; exact hd1 e.1)
          have HAd := Hid.mk' (tdAdd_any _ _ w.heap.size td 4 ⟨#[]⟩ ⟨#[]⟩ ⟨#[]⟩ (kk : Int) hO7 (by decide) (by have := HEs.out; omega))
          have HR7 := Hid.mk' hR7; have HT7 := Hid.mk' hT7; have HK : Hid (kk ≠ 0 ∧ ¬ So1 g ∧ (∀ i, So1 i → So' i ∨ wr.heap.size ≤ i)) := ⟨hkk, hd1, hSo1⟩; have HT1 := Hid.mk' hT1; have HN := Hid.mk' hN
          clear hR1 hR7 hT7 hO7 hkk hd1 hSo1 hT1 hO1 hN
          go_wp2_with fail
          refine HAd.out.mono ?_
          rintro e w2 ⟨rfl, hO2, hT2⟩
          have hW := fell_done (m := m) HK.out.1 HMe'.out HK.out.2.1 HK.out.2.2 HT1.out HR7.out HT7.out HLt'.out hO2 hT2
          have HW := Hid.mk' (HStep.out w2 (by rw [HN.out]; exact hW))
          clear hO2 hT2 hW
          go_wp2
          go_roundw
          case rel => exact ⟨k + 1, by omega, by go_num, HW.out⟩
          case measure => simp [intOf]; omega
      · have hdr := Fm.dead_run (m := m) (l.drop k) hlv
        have HDn : Hid (Fm.outs m s l = Fm.outs m s (l.take k) ∧ Fm.fold m s l = Fm.fold m s (l.take k)) := by
          constructor
          · conv => lhs; rw [← List.take_append_drop k l, Fm.outs_append, hdr.1, List.append_nil]
          · conv => lhs; rw [← List.take_append_drop k l, Fm.fold_append, hdr.2]
        have HLv := Hid.mk' hlv
        generalize Fm.flush (Fm.tells Fm.td0 (Fm.outs m s (l.take k))) = fl at *
        generalize hfo : Fm.fold m s (l.take k) = st at *
        generalize l[k] = cb at *
        clear hR' hO' hd' hS' hSo' hfew hO2 hc2 hlv hdr hF
        by_cases hc0 : st.code = 0
        · have t0 : ((st.code : Int) != 0) = false := by rw [hc0]; rfl
          have h6 : st.place = 6 := by
            rcases Nat.decEq st.place 6 with e | e
            · exact absurd ⟨hc0, e⟩ HLv.out
            · exact e
          have t6 : ((st.place : Int) == 6) = true := by rw [h6]; rfl
          clear hc0 h6
          go_wp2_with fail
          refine HAll.out.mono ?_
          rintro e w2 ⟨ao2, cap2, bo2, bc2, rfl, hR2, hT2⟩
          have HR2 := Hid.mk' (HDone.out w2 ao2 bo2 cap2 bc2 HDn.out.1 HDn.out.2 hR2 hT2)
          clear hR2 hT2
          go_wp2
          go_ret
          exact HR2.out
        · have t0 : ((st.code : Int) != 0) = true := by rw [bne_iff_ne]; omega
          clear hc0
          go_wp2_with fail
          refine HAll.out.mono ?_
          rintro e w2 ⟨ao2, cap2, bo2, bc2, rfl, hR2, hT2⟩
          have HR2 := Hid.mk' (HDone.out w2 ao2 bo2 cap2 bc2 HDn.out.1 HDn.out.2 hR2 hT2)
          clear hR2 hT2
          go_wp2
          go_ret
          exact HR2.out
    · obtain rfl : k = l.length := by omega
      have HDn : Hid (Fm.outs m s l = Fm.outs m s (l.take l.length) ∧ Fm.fold m s l = Fm.fold m s (l.take l.length)) := by
        unfold Hid; rw [List.take_length]; exact ⟨rfl, rfl⟩
      generalize Fm.flush (Fm.tells Fm.td0 (Fm.outs m s (l.take l.length))) = fl at *
      clear hR' hO' hd' hS' hSo' hfew hO2 hF
      go_wp2_with fail
      refine HAll.out.mono ?_
      rintro e w2 ⟨ao2, cap2, bo2, bc2, rfl, hR2, hT2⟩
      have HR2 := Hid.mk' (HDone.out w2 ao2 bo2 cap2 bc2 HDn.out.1 HDn.out.2 hR2 hT2)
      clear hR2 hT2
      go_wp2
      go_ret
      exact HR2.out
end Go.Proofs.YtjpenioloeplgadGreatDoor

/- Parts that a law gathers in a row of its own: one more behind them, bytes more of the last one. -/
namespace Go.Proofs.YtjpenioloeplgadGreatDoor
open Go.RowKit

/-- parts that are gathered: a row of the call's own; the last one's bytes grow, and lie apart from all else -/
inductive GtAt (w : World) (S : Nat → Prop) : Option Addr → Nat → List Fm.Pt → Prop
  | bare : GtAt w S none 0 []
  | laid (q : List (Fm.Pt × PtS)) (p : Fm.Pt) (s : PtS) (g cap : Nat) (own : OwnV w 0 27 4 (some ⟨g, 0, none⟩) cap (q.length + 1) (ptsV (q ++ [(p, s)]))) (mem : S g)
      (ahead : ∀ x ∈ q, IsBS w (fun k => (S k ∧ k ≠ g) ∧ blkB p.bytes s.bo ≠ some k) x.2.bo x.2.bcap x.1.bytes)
      (bytes : GrowB w (fun k => S k ∧ k ≠ g) 5 s.bo s.bcap p.bytes) : GtAt w S (some ⟨g, 0, none⟩) cap (q.map (·.1) ++ [p])
section
variable {w w' : World} {S S' : Nat → Prop} {ao : Option Addr} {cap : Nat} {ps : List Fm.Pt}
theorem GtAt.turns (h : GtAt w S ao cap ps) (ht : Turns S' w w') (hs : ∀ k, S k → ¬ S' k) : GtAt w' S ao cap ps := by
  cases h with
  | bare => exact .bare
  | laid q p s g cap own mem ahead bytes =>
    exact .laid q p s g cap (own.turns ht (fun a e => by injection e with e; subst e; exact hs _ mem)) mem (fun x hx => (ahead x hx).turns ht (fun k e => hs k e.1.1)) (bytes.turns ht (fun k e => hs k e.1))
theorem GtAt.mono (h : GtAt w S ao cap ps) (hs : ∀ k, k < w.heap.size → S k → S' k) : GtAt w S' ao cap ps := by
  cases h with
  | bare => exact .bare
  | laid q p s g cap own mem ahead bytes =>
    exact .laid q p s g cap own (hs g (own.block _ rfl).2 mem) (fun x hx => (ahead x hx).mono (fun k hk e => ⟨⟨hs k hk e.1.1, e.1.2⟩, e.2⟩)) (bytes.mono (fun k hk e => ⟨hs k hk e.1, e.2⟩))
theorem GtAt.stay (h : GtAt w S ao cap ps) (hb : Below w.heap.size w w') : GtAt w' S ao cap ps := h.turns (Turns.of_below (S := fun _ => False) hb) (fun _ _ e => e)
theorem GtAt.own (h : GtAt w S ao cap ps) : ∃ qs : List (Fm.Pt × PtS), qs.map (·.1) = ps ∧ OwnV w 0 27 4 ao cap ps.length (ptsV qs) ∧ (∀ a, ao = some a → S a.block) ∧ ∀ x ∈ qs, IsBS w (fun k => S k ∧ blockOf ao ≠ some k) x.2.bo x.2.bcap x.1.bytes := by
  cases h with
  | bare => exact ⟨[], rfl, OwnV.nil _ _ _ _, fun a e => (by cases e), fun p hp => (by cases hp)⟩
  | laid q p s g cap own mem ahead bytes =>
    refine ⟨q ++ [(p, s)], by simp, by simpa using own, fun a e => (by injection e with e; subst e; exact mem), fun x hx => ?_⟩
    rcases List.mem_append.1 hx with hx | hx
    · exact (ahead x hx).mono (fun k _ e => ⟨e.1.1, fun e2 => by injection e2 with e2; exact e.1.2 e2.symm⟩)
    · rw [List.mem_singleton.1 hx]
      exact bytes.isBS.mono (fun k _ e => ⟨e.1, fun e2 => by injection e2 with e2; exact e.2 e2.symm⟩)
theorem GtAt.isPts (h : GtAt w S ao cap ps) : IsPts w ao cap ps := by
  obtain ⟨qs, h1, h2, _, h4⟩ := h.own
  exact ⟨qs, h1, h2.isV, fun q hq => (h4 q hq).is⟩
/-- its last part -/
theorem GtAt.last {q : List Fm.Pt} {p : Fm.Pt} (h : GtAt w S ao cap ps) (he : ps = q ++ [p]) : ∃ (qs : List (Fm.Pt × PtS)) (s : PtS) (g : Nat), qs.map (·.1) = q ∧ ao = some ⟨g, 0, none⟩ ∧
    OwnV w 0 27 4 (some ⟨g, 0, none⟩) cap (qs.length + 1) (ptsV (qs ++ [(p, s)])) ∧ S g ∧ (∀ x ∈ qs, IsBS w (fun k => (S k ∧ k ≠ g) ∧ blkB p.bytes s.bo ≠ some k) x.2.bo x.2.bcap x.1.bytes) ∧ GrowB w (fun k => S k ∧ k ≠ g) 5 s.bo s.bcap p.bytes := by
  cases h with
  | bare => simp at he
  | laid qs e s g cap own mem ahead bytes =>
    obtain ⟨h1, h2⟩ := List.append_inj' he rfl
    injection h2 with h2 _
    subst h2
    exact ⟨qs, s, g, h1, rfl, own, mem, ahead, bytes⟩
/-- one part more, without bytes, its cells in a block just made -/
theorem GtAt.push {W : World} (h : GtAt W S ao cap ps) (ob : Obj) : ∃ xs, OwnV (W.alloc ob) 0 27 4 ao cap ps.length xs ∧
    ∀ ao' cap' w' (p : Fm.Pt), p.bytes = [] → OwnV w' 0 27 4 ao' cap' (ps.length + 1) (xs ++ ptC p ⟨none, 0⟩) → (W.alloc ob).grownBy w' (blockOf ao) → (blockOf ao' = blockOf ao ∨ blockOf ao' = some (W.alloc ob).heap.size) → GtAt w' (orNew S W) ao' cap' (ps ++ [p]) ∧ Turns S W w' := by
  obtain ⟨qs, hq, hO, hm, hI⟩ := h.own
  have hb : Below W.heap.size W (W.alloc ob) := (Below.refl _ _).alloc (Nat.le_refl _) _
  have hBS : ∀ k, blockOf ao = some k → S k := fun k e => by
    cases ao with
    | none => cases e
    | some a => injection e with e; subst e; exact hm a rfl
  refine ⟨ptsV qs, hO.stay hb, fun ao' cap' w' p hp hO' hG hat => ?_⟩
  have hT : Turns (fun k => blockOf ao = some k) W w' := (Turns.of_below hb).trans (Turns.of_grown hG (fun k e => e)) (fun _ e _ => e)
  refine ⟨?_, hT.mono (fun k e => hBS k e)⟩
  obtain ⟨g, rfl⟩ : ∃ g, ao' = some ⟨g, 0, none⟩ := by
    rcases hO'.2 with ⟨_, h⟩ | ⟨g, cap, cur, h, _⟩
    · omega
    · injection h with h _ _; exact ⟨g, h⟩
  have hg : blockOf ao = some g ∨ W.heap.size ≤ g := by
    rcases hat with h | h
    · exact Or.inl h.symm
    · injection h with h; rw [World.size_alloc] at h; exact Or.inr (by have h' : g = W.heap.size + 1 := h; omega)
  have hl : qs.length = ps.length := by have := congrArg List.length hq; simpa using this
  have hnb : ∀ k, blkB p.bytes (none : Option Addr) ≠ some k := fun k => by rw [hp]; unfold blkB; rw [if_pos rfl]; exact fun e => by cases e
  have := GtAt.laid (w := w') (S := orNew S W) qs p ⟨none, 0⟩ g cap' (by rw [hl, ptsV_append, ptsV_one]; exact hO') (by
    rcases hg with h | h
    · exact Or.inl (hBS g h)
    · exact Or.inr h) (fun x hx => ?_) (by rw [hp]; exact GrowB.nil _ _ _)
  · rw [hq] at this; exact this
  · refine (((hI x hx).mono (S' := fun k => (S k ∧ blockOf ao ≠ some k) ∧ k < W.heap.size) (fun k hk e => ⟨e, hk⟩)).turns hT (fun k e => e.1.2)).mono (fun k _ e => ⟨⟨Or.inl e.1.1, fun e2 => ?_⟩, hnb k⟩)
    subst e2
    rcases hg with h | h
    · exact e.1.2 h
    · have := e.2; omega
/-- bytes more of the last part: they grew, and are laid into it -/
theorem GtAt.merge {w1 : World} {q : List (Fm.Pt × PtS)} {p : Fm.Pt} {s : PtS} {g n m : Nat} {l : List UInt8} {bo : Option Addr} {bcap : Nat}
    (own : OwnV w 0 27 4 (some ⟨g, 0, none⟩) cap (q.length + 1) (ptsV (q ++ [(p, s)]))) (mem : S g)
    (ahead : ∀ x ∈ q, IsBS w (fun k => (S k ∧ k ≠ g) ∧ blkB p.bytes s.bo ≠ some k) x.2.bo x.2.bcap x.1.bytes)
    (bytes : GrowB w (fun k => S k ∧ k ≠ g) 5 s.bo s.bcap p.bytes)
    (hO : GrowB w1 (fun k => blkB p.bytes s.bo = some k ∨ w.heap.size ≤ k) 5 bo bcap l) (hn : n = l.length) (hm : q.length = m) (hT : Turns (fun k => blkB p.bytes s.bo = some k) w w1) :
    GtAt (w1.setCell ⟨g, m * 4 + 3, none⟩ (.slice bo n bcap)) (orNew S w) (some ⟨g, 0, none⟩) cap (q.map (·.1) ++ [{ p with bytes := l }]) ∧ Turns S w (w1.setCell ⟨g, m * 4 + 3, none⟩ (.slice bo n bcap)) := by
  subst hm; subst hn
  have hlast : ∀ k, blkB p.bytes s.bo = some k → S k ∧ k ≠ g := fun k h => by
    unfold blkB at h
    split at h
    · cases h
    · rcases bytes with ⟨_, _, h3⟩ | ⟨h1, _⟩
      · cases hbo : s.bo with
        | none => rw [hbo] at h; cases h
        | some a => rw [hbo] at h; injection h with h; subst h; exact h3 a hbo
      · contradiction
  have hgl : g < w.heap.size := (own.block _ rfl).2
  have hT2 : Turns S w (w1.setCell ⟨g, q.length * 4 + 3, none⟩ (.slice bo l.length bcap)) := (hT.mono (fun k e => (hlast k e).1)).trans (Turns.setCell S w1 _ _ mem) (fun _ e _ => e)
  have hS : Turns (fun k => k = g) w1 (w1.setCell ⟨g, q.length * 4 + 3, none⟩ (.slice bo l.length bcap)) := Turns.setCell (fun k => k = g) w1 _ _ rfl
  have own1 : OwnV w1 0 27 4 (some ⟨g, 0, none⟩) cap (q.length + 1) (ptsV (q ++ [(p, s)])) := own.turns hT (fun a e h => by injection e with e; subst e; exact (hlast _ h).2 rfl)
  have own2 := (World.ownsRow.stored own1 (q.length * 4 + 3) (.slice bo l.length bcap)).1
  have e1 : (ptsV (q ++ [(p, s)])).set (q.length * 4 + 3) (.slice bo l.length bcap) = ptsV (q ++ [({ p with bytes := l }, ⟨bo, bcap⟩)]) := by
    rw [ptsV_append, ptsV_append, ptsV_one, ptsV_one, List.set_append_right _ _ (by rw [ptsV_length]; omega), ptsV_length, show q.length * 4 + 3 - q.length * 4 = 3 by omega]
    rfl
  rw [e1] at own2
  refine ⟨?_, hT2⟩
  have hlb : ∀ k, blkB l bo = some k → blkB p.bytes s.bo = some k ∨ w.heap.size ≤ k := fun k h => by
    unfold blkB at h
    split at h
    · cases h
    · rcases hO with ⟨_, _, h3⟩ | ⟨h1, _⟩
      · cases hbo : bo with
        | none => rw [hbo] at h; cases h
        | some a => rw [hbo] at h; injection h with h; subst h; exact h3 a hbo
      · contradiction
  have hmove : ∀ k, k < w.heap.size → ((S k ∧ k ≠ g) ∧ blkB p.bytes s.bo ≠ some k) → ((orNew S w k ∧ k ≠ g) ∧ blkB l bo ≠ some k) ∧ blkB p.bytes s.bo ≠ some k := fun k hk h => ⟨⟨⟨Or.inl h.1.1, h.1.2⟩, fun e2 => by
    rcases hlb k e2 with e3 | e3
    · exact h.2 e3
    · omega⟩, h.2⟩
  refine .laid q { p with bytes := l } ⟨bo, bcap⟩ g cap own2 (Or.inl mem) (fun x hx => ?_) ?_
  · exact (((ahead x hx).mono hmove).turns hT (fun k h => h.2)).turns hS (fun k h => h.1.1.2) |>.mono (fun k _ h => h.1)
  · refine (hO.mono (S' := fun k => orNew S w k ∧ k ≠ g) (fun k _ h => ?_)).turns hS (fun k h => h.2)
    rcases h with h | h
    · exact ⟨Or.inl (hlast k h).1, (hlast k h).2⟩
    · exact ⟨Or.inr h, by omega⟩
/-- the row's cell, and that it may be written -/
theorem part_cell {g m : Nat} {xs : List Value} (h : OwnV w 0 27 4 (some ⟨g, 0, none⟩) cap (m + 1) xs) (j : Nat) (hj : j < 4) {u : Value} (hu : xs[m * 4 + j]? = some u) : w.cell? ⟨g, m * 4 + j, none⟩ = some u ∧ w.frozen? ⟨g, m * 4 + j, none⟩ = false :=
  ⟨(World.ownsRow.cellAt h (m * 4 + j) (by omega)).trans hu, World.ownsRow.frozenAt h _⟩
end

/-- a reader, the parts that are gathered, and what the reader told last; each apart from the others -/
structure GfAt (wc : World) (P : Nat → Prop) (g : Nat) (m : List UInt8) (s : Fm.St) (fs : List EvD) (fo : Option Addr) (fc : Nat) (ps : List Fm.Pt) (ao : Option Addr) (cap : Nat) (wr : World) : Prop where
  all : ∃ S So N, FmAt wr S g m s ∧ GtAt wr So ao cap ps ∧ AllN wr N 54 fo fc fs ∧ (∀ i, S i → ¬ So i) ∧ (∀ i, So i → ¬ N i) ∧ (∀ i, S i → P i ∨ wc.heap.size ≤ i) ∧ (∀ i, So i → wc.heap.size ≤ i)
  turns : Turns P wc wr
end Go.Proofs.YtjpenioloeplgadGreatDoor

/- Package forms: a reader that a law feeds, and the parts that the law gathers of what it tells. -/
namespace Go.Proofs.YtjpenioloeplgadGreatDoor
open Go.RowKit
section
variable {wc : World} {P : Nat → Prop} {g : Nat} {m : List UInt8} {s : Fm.St} {fs : List EvD} {fo : Option Addr} {fc : Nat} {ps : List Fm.Pt} {ao : Option Addr} {cap : Nat} {wr : World}
theorem GfAt.start (h : FmAt wc P g m s) : GfAt wc P g m s [] none 0 [] none 0 wc :=
  ⟨⟨P, fun _ => False, fun _ => False, h, .bare, AllN.nil _ _ _, fun _ _ e => e, fun _ e _ => e, fun _ e => Or.inl e, fun _ e => e.elim⟩, Turns.refl _ _⟩
theorem GfAt.forget (h : GfAt wc P g m s fs fo fc ps ao cap wr) : GfAt wc P g m s [] none 0 ps ao cap wr := by
  obtain ⟨S, So, N, hR, hG, _, d1, _, b1, b2⟩ := h.all
  exact ⟨⟨S, So, fun _ => False, hR, hG, AllN.nil _ _ _, d1, fun _ _ e => e, b1, b2⟩, h.turns⟩
theorem GfAt.isEs (h : GfAt wc P g m s fs fo fc ps ao cap wr) : IsEs wr fo fc fs := by
  obtain ⟨S, So, N, _, _, hA, _⟩ := h.all
  exact hA.isEs
theorem GfAt.isPts (h : GfAt wc P g m s fs fo fc ps ao cap wr) : IsPts wr ao cap ps := by
  obtain ⟨S, So, N, _, hG, _⟩ := h.all
  exact hG.isPts
/-- an event's part has no bytes, and the slice is nil -/
theorem GfAt.ev (h : GfAt wc P g m s fs fo fc ps ao cap wr) (k : Nat) (hk : k < fs.length) : ∃ (b o : Nat) (t : EvS), fo = some ⟨b, o, none⟩ ∧ IsEv wr b (o + k * 12) fs[k] t ∧ t.po = none ∧ t.pcap = 0 := by
  obtain ⟨S, So, N, _, _, hA, _⟩ := h.all
  obtain ⟨qs, rfl, hO, _, hI, hX⟩ := hA
  have hv := hO.isV
  have hk' : k < qs.length := by simpa using hk
  obtain ⟨b, o, rfl, hc⟩ := hv.lit (by rw [rowsV_length]; omega)
  refine ⟨b, o, qs[k].2, rfl, ?_, hX _ (List.getElem_mem hk')⟩
  rw [List.getElem_map]
  have hin := hI _ (List.getElem_mem hk')
  refine ⟨fun i u hi => ?_, hin.fields.is, hin.bytes.is, hin.pbytes.is⟩
  have hl : i < 12 := (List.getElem?_eq_some_iff.1 hi).1
  rw [← rowsV_at _ k hk' i hl] at hi
  have := hc _ _ hi
  rw [Nat.add_assoc]; exact this
theorem GfAt.stay {w' : World} (h : GfAt wc P g m s fs fo fc ps ao cap wr) (hb : Below wr.heap.size wr w') : GfAt wc P g m s fs fo fc ps ao cap w' := by
  obtain ⟨S, So, N, hR, hG, hA, d1, d2, b1, b2⟩ := h.all
  exact ⟨⟨S, So, N, hR.stay hb, hG.stay hb, hA.stay hb, d1, d2, b1, b2⟩, h.turns.trans (Turns.of_below (S := fun _ => False) hb) (fun _ e _ => e.elim)⟩
/-- what turns only the parts that are gathered -/
theorem GfAt.put {So N S S' : Nat → Prop} {ps' : List Fm.Pt} {ao' : Option Addr} {cap' : Nat} {w' : World} (hT0 : Turns P wc wr) (hR : FmAt wr S g m s) (hA : AllN wr N 54 fo fc fs) (d1 : ∀ i, S i → ¬ So i) (d2 : ∀ i, So i → ¬ N i) (b1 : ∀ i, S i → P i ∨ wc.heap.size ≤ i) (b2 : ∀ i, So i → wc.heap.size ≤ i)
    (hG : GtAt w' S' ao' cap' ps') (hS' : ∀ i, S' i → So i ∨ wr.heap.size ≤ i) (hT : Turns So wr w') : GfAt wc P g m s fs fo fc ps' ao' cap' w' := by
  have hz := hT0.size
  refine ⟨⟨fun k => S k ∧ k < wr.heap.size, S', fun k => N k ∧ k < wr.heap.size, (hR.mono (fun k hk e => ⟨e, hk⟩)).turns hT (fun k e => d1 k e.1), hG, (hA.mono (fun k hk e => ⟨e, hk⟩)).turns hT (fun k e e2 => d2 k e2 e.1), fun i e e2 => ?_, fun i e e2 => ?_, fun i e => b1 i e.1, fun i e => ?_⟩, hT0.trans hT (fun i e hi => ?_)⟩
  · rcases hS' i e2 with k | k
    · exact d1 i e.1 k
    · have := e.2; omega
  · rcases hS' i e with k | k
    · exact d2 i k e2.1
    · have := e2.2; omega
  · rcases hS' i e with k | k
    · exact b2 i k
    · omega
  · have := b2 i e; omega
/-- one part more -/
theorem GfAt.push (h : GfAt wc P g m s fs fo fc ps ao cap wr) (ob : Obj) : ∃ xs, OwnV (wr.alloc ob) 0 27 4 ao cap ps.length xs ∧
    ∀ ao' cap' w' (p : Fm.Pt), p.bytes = [] → OwnV w' 0 27 4 ao' cap' (ps.length + 1) (xs ++ ptC p ⟨none, 0⟩) → (wr.alloc ob).grownBy w' (blockOf ao) → (blockOf ao' = blockOf ao ∨ blockOf ao' = some (wr.alloc ob).heap.size) → GfAt wc P g m s fs fo fc (ps ++ [p]) ao' cap' w' := by
  obtain ⟨S, So, N, hR, hG, hA, d1, d2, b1, b2⟩ := h.all
  obtain ⟨xs, hO, hp⟩ := hG.push ob
  refine ⟨xs, hO, fun ao' cap' w' p hb hO' hg hat => ?_⟩
  obtain ⟨r1, r2⟩ := hp ao' cap' w' p hb hO' hg hat
  exact GfAt.put h.turns hR hA d1 d2 b1 b2 r1 (fun i e => e) r2
/-- bytes more of the last part -/
theorem GfAt.more {q : List Fm.Pt} {p : Fm.Pt} {n : Nat} (h : GfAt wc P g m s fs fo fc (q ++ [p]) ao cap wr) (hn : q.length = n) : ∃ (gp : Nat) (t : PtS), ao = some ⟨gp, 0, none⟩ ∧ n + 1 ≤ cap ∧ wr.cell? ⟨gp, n * 4 + 3, none⟩ = some (.slice t.bo p.bytes.length t.bcap) ∧ (∃ X, GrowB wr X 5 t.bo t.bcap p.bytes) ∧
    ∀ W3 : World, Turns (fun k => blkB p.bytes t.bo = some k) wr W3 → (∃ u, W3.cell? ⟨gp, n * 4 + 3, none⟩ = some u) ∧ W3.frozen? ⟨gp, n * 4 + 3, none⟩ = false ∧
      ∀ (l : List UInt8) (bo : Option Addr) (bcap k : Nat), GrowB W3 (fun k => blkB p.bytes t.bo = some k ∨ wr.heap.size ≤ k) 5 bo bcap l → k = l.length → GfAt wc P g m s fs fo fc (q ++ [{ p with bytes := l }]) (some ⟨gp, 0, none⟩) cap (W3.setCell ⟨gp, n * 4 + 3, none⟩ (.slice bo k bcap)) := by
  obtain ⟨S, So, N, hR, hG, hA, d1, d2, b1, b2⟩ := h.all
  obtain ⟨qs, t, gp, hq, rfl, own, mem, ahead, bytes⟩ := hG.last rfl
  have hl : qs.length = n := by have := congrArg List.length hq; rw [List.length_map] at this; omega
  have hat : (ptsV (qs ++ [(p, t)]))[n * 4 + 3]? = some (.slice t.bo p.bytes.length t.bcap) := by
    rw [ptsV_at _ n (by rw [List.length_append, hl]; simp) 3 (by omega)]
    simp [← hl, ptC]
  have own' := own
  rw [hl] at own'
  refine ⟨gp, t, rfl, own'.isV.1, (part_cell own' 3 (by omega) hat).1, ⟨_, bytes⟩, fun W3 hT => ?_⟩
  have hlast : ∀ k, blkB p.bytes t.bo = some k → So k ∧ k ≠ gp := fun k h => by
    unfold blkB at h
    split at h
    · cases h
    · rcases bytes with ⟨_, _, h3⟩ | ⟨h1, _⟩
      · cases hbo : t.bo with
        | none => rw [hbo] at h; cases h
        | some a => rw [hbo] at h; injection h with h; subst h; exact h3 a hbo
      · contradiction
  have own3 := own'.turns hT (fun a e h => by injection e with e; subst e; exact (hlast _ h).2 rfl)
  refine ⟨⟨_, (part_cell own3 3 (by omega) hat).1⟩, (part_cell own3 3 (by omega) hat).2, fun l bo bcap k hO hk => ?_⟩
  obtain ⟨r1, r2⟩ := GtAt.merge own mem ahead bytes hO hk hl hT
  rw [hq] at r1
  exact GfAt.put h.turns hR hA d1 d2 b1 b2 r1 (fun i e => e) r2
/-- Feed of a piece more -/
theorem GfAt.feed (h : GfAt wc P g m s [] none 0 ps ao cap wr) (hG : FmOk m s) (l : List UInt8) (bo : Option Addr) (bc n : Nat) (hB : IsB wc bo bc l) (hbo : l ≠ [] → ∀ a, bo = some a → ¬ P a.block) (hn : l.length = n) (hl : n ≤ 20000) :
    Calls Tryz.prog 21 #[.pointer (some ⟨g, 0, none⟩), .slice bo n bc] wr fun e w' => ∃ fo fc, e = .returned (.slice fo (joinD (Fm.outs m s l)).length fc) ∧ GfAt wc P g m (Fm.fold m s l) (joinD (Fm.outs m s l)) fo fc ps ao cap w' := by
  obtain ⟨S, So, N, hR, hA, _, hd, _, hS, hSo⟩ := h.all
  have hsz := h.turns.size
  have hlt : l ≠ [] → ∀ a, bo = some a → a.block < wc.heap.size := fun hne a e => by
    subst e
    have hp : 0 < l.length := by cases l with | nil => exact absurd rfl hne | cons _ _ => simp
    have := World.block_lt_of_cell? wc _ (hB.cell 0 hp)
    rwa [add_block] at this
  have hBr : IsB wr bo bc l := by
    by_cases hne : l = []
    · subst hne; exact IsB.empty wr hB
    · exact hB.turns h.turns (hbo hne)
  refine (feedForm_any wr S g m s l bo bc n hR hG hBr (fun hne a e k => ?_) hn hl).mono ?_
  · rcases hS _ k with k | k
    · exact hbo hne a e k
    · have := hlt hne a e; omega
  · rintro e w' ⟨fo, fc, k, S', N', he, hm, hR', hO, hd', hS', hN', hT⟩
    subst hm
    have hsz2 := hT.size
    have hA2 := (hA.mono (S' := fun k => So k ∧ k < wr.heap.size) (fun k hk e => ⟨e, hk⟩)).turns hT (fun k e k2 => hd k k2 e.1)
    refine ⟨fo, fc, he, ⟨⟨S', fun k => So k ∧ k < wr.heap.size, N', hR', hA2, hO, fun i a b => ?_, fun i a b => ?_, fun i a => ?_, fun i a => hSo i a.1⟩, ?_⟩⟩
    · rcases hS' i a with k | k
      · exact hd i k b.1
      · have := b.2; omega
    · have := hN' i b
      have := a.2; omega
    · rcases hS' i a with k | k
      · exact hS i k
      · exact Or.inr (by omega)
    · refine h.turns.trans hT (fun i k hi => ?_)
      rcases hS i k with k | k
      · exact k
      · omega
end
end Go.Proofs.YtjpenioloeplgadGreatDoor

/- Package forms, walked: Mark, New. -/
namespace Go.Proofs.YtjpenioloeplgadGreatDoor
open Go.RowKit

/-- what New answers -/
inductive NewForm (w : World) (l : List UInt8) (e : Ending) (w' : World) : Prop
  | no (h : Fm.isMark l = false) (he : e = .returned (.tuple #[.pointer none, .int .i64 5])) (hb : Below w.heap.size w w')
  | yes (h : Fm.isMark l = true) (g : Nat) (he : e = .returned (.tuple #[.pointer (some ⟨g, 0, none⟩), .int .i64 0])) (hF : FmAt w' (fun k => w.heap.size ≤ k) g (Fm.mark l) Fm.start) (hb : Below w.heap.size w w')

set_option maxRecDepth 100000 in
set_option maxHeartbeats 2000000 in
theorem newForm_any (s : ByteArray) (w : World) :
    Calls Tryz.prog 19 #[.string s] w fun e w' => NewForm w s.data.toList e w' := by
  have HM := Hid.mk' (mark_any s w)
  have hl := Ch.len_list s
  cases hm : Fm.isMark s.data.toList with
  | false =>
    rw [hm] at HM
    have HR := Hid.mk' hm
    clear hm
    go_enter Tryz.func19, Tryz.ntmps19
    go_wp2_with fail
    refine HM.out.mono ?_
    rintro e w1 ⟨rfl, hb1⟩
    have HB1 := Hid.mk' hb1
    clear hb1
    go_wp2
    go_ret2
    exact .no HR.out rfl HB1.out
  | true =>
    rw [hm] at HM
    have HR := Hid.mk' hm
    obtain ⟨hne, h70⟩ := isMark_facts hm
    rw [hl] at h70
    obtain ⟨hm2, hm5, hm74⟩ := Fm.mark_facts s.data.toList hne (by rw [hl]; exact h70)
    have hx : ((⟨#[13, 10, 45, 45]⟩ : ByteArray) ++ s).data.toList = Fm.mark s.data.toList := by rw [Ch.data_append]; rfl
    have hxs : ((⟨#[13, 10, 45, 45]⟩ : ByteArray) ++ s).size = (Fm.mark s.data.toList).length := Ch.size_of_list hx
    clear hm hne
    go_enter Tryz.func19, Tryz.ntmps19
    go_wp2_with fail
    refine HM.out.mono ?_
    rintro e w1 ⟨rfl, hb1⟩
    obtain ⟨cap, w2, hconv, hB2, hBf⟩ := buf_of (P := Tryz.prog) w1 ((⟨#[13, 10, 45, 45]⟩ : ByteArray) ++ s) 9 25 5 (by rw [hxs]; unfold maxLen; omega) Tryz.underlying9 Tryz.underlying25 Tryz.underlying5
    rw [hx] at hBf
    rw [hxs] at hconv
    have HNw := Hid.mk' (newR_any (Fm.mark s.data.toList) _ cap w2 hBf.isB (by omega))
    have HB2 := Hid.mk' (then_ hb1 hB2)
    have HMk : Hid ((Fm.mark s.data.toList).take 2 = [13, 10] ∧ 5 ≤ (Fm.mark s.data.toList).length ∧ (Fm.mark s.data.toList).length ≤ 74) := ⟨hm2, hm5, hm74⟩
    clear hx hxs hBf hB2 hb1 hm2 hm5 hm74 HM
    have hst : (s.size : Int) ≤ 70 := by omega
    generalize hmk : Fm.mark s.data.toList = mk at *
    go_wp2_with fail
    refine HNw.out.mono ?_
    rintro e w3 ⟨gs, p, rfl, hSk, hg1, hg2, hg3, hb3⟩
    have HSk := Hid.mk' hSk; have HG : Hid (w2.heap.size ≤ gs ∧ w2.heap.size ≤ p.gb ∧ ∀ a, p.mo = some a → w2.heap.size ≤ a.block) := ⟨hg1, hg2, hg3⟩; have HB3 := Hid.mk' (then_ HB2.out hb3)
    have HS3 := Hid.mk' hb3.size
    clear hSk hg1 hg2 hg3 hb3 HNw hconv
    go_wp2_with fail
    refine (newLines_any w3).mono ?_
    rintro e w4 ⟨rfl, hL, hb4⟩
    have hbA : Below w4.heap.size w4 (w4.alloc (.cells #[.pointer (some ⟨gs, 0, none⟩), .int .i64 0, .pointer (some ⟨w3.heap.size, 0, none⟩), .slice none 0 0, .int .i64 0, .int .i64 0, .int .i64 0] 88)) := (Below.refl _ _).alloc (Nat.le_refl _) _
    have hrow : FrAt (w4.alloc (.cells #[.pointer (some ⟨gs, 0, none⟩), .int .i64 0, .pointer (some ⟨w3.heap.size, 0, none⟩), .slice none 0 0, .int .i64 0, .int .i64 0, .int .i64 0] 88)) w4.heap.size (.pointer (some ⟨gs, 0, none⟩)) 0 (.pointer (some ⟨w3.heap.size, 0, none⟩)) none 0 0 0 0 0 := ⟨heap_alloc_new w4 _⟩
    have hz2 := HB2.out.size
    have hz3 := HS3.out
    have hz4 := hb4.size
    have hgsz : gs < w3.heap.size := HSk.out.lt
    have hgbz : p.gb < w3.heap.size := HSk.out.2.2.lt
    have hinn : FmIn (w4.alloc (.cells #[.pointer (some ⟨gs, 0, none⟩), .int .i64 0, .pointer (some ⟨w3.heap.size, 0, none⟩), .slice none 0 0, .int .i64 0, .int .i64 0, .int .i64 0] 88)) (fun k => w.heap.size ≤ k ∧ k ≠ w4.heap.size) mk ⟨0, 0, 0, Ln.start, [], 0, 0⟩ gs w3.heap.size p none 0 (fun k => w3.heap.size ≤ k) := by
      refine ⟨(HSk.out.stay hb4).stay hbA, ⟨⟨by have := HG.out.1; omega, by omega⟩, ⟨by have := HG.out.2.1; omega, by omega⟩, fun a e => ⟨by have := HG.out.2.2 a e; omega, by have := (HSk.out.2.1.block a e).2; omega⟩⟩, ⟨by omega, by omega, fun a e => by have := (HSk.out.2.1.block a e).2; omega⟩, ?_, OwnV.nil _ _ _ _, fun a e => (by cases e)⟩
      have := hL.mono (S' := fun k => (w.heap.size ≤ k ∧ k ≠ w4.heap.size) ∧ w3.heap.size ≤ k) (fun k hk e => ⟨⟨by omega, by omega⟩, e⟩)
      exact this.turns (Turns.of_below (S := fun _ => False) hbA) (fun _ _ e => e)
    have hsk0 : SkAt (w4.alloc (.cells #[.pointer (some ⟨gs, 0, none⟩), .int .i64 0, .pointer (some ⟨w3.heap.size, 0, none⟩), .slice none 0 0, .int .i64 0, .int .i64 0, .int .i64 0] 88)) gs mk 0 p := hinn.sk
    have HSb := Hid.mk' (seekBytes_any _ w4.heap.size gs mk p _ hrow.c0 hrow.c1 (hrow.fz 1) (by omega) hsk0 HMk.out.1 (by have := HMk.out.2.1; omega) (by have := HMk.out.2.2; omega))
    have HRow := Hid.mk' hrow; have HInn := Hid.mk' hinn
    have HBA := Hid.mk' (then_ (then_ HB3.out hb4) hbA)
    have Hz : Hid (w.heap.size ≤ w4.heap.size) := by show _ ≤ _; omega
    clear hrow hinn hsk0 hbA hL hb4 hz2 hz3 hz4 hgsz hgbz HSk HG
    go_wp2_with fail
    refine HSb.out.mono ?_
    rintro e w6 ⟨w5, rfl, hw6, hS6, hG6⟩
    obtain ⟨r6, t6⟩ := FmAt.sought (s := ⟨0, 0, 0, Ln.start, [], 0, 0⟩) (a2 := 2) (S := fun k => w.heap.size ≤ k) ⟨rfl, by decide⟩ Hz.out HRow.out HInn.out hS6 hG6
    have e6 : w5.setCell ⟨w4.heap.size, 1, none⟩ (.int .i64 ((2 : Nat) : Int)) = w6 := hw6.symm
    rw [e6] at r6 t6
    have HF6 := Hid.mk' r6
    have HB6 := Hid.mk' (HBA.out.trans (t6.below (fun k e => e) HBA.out.size))
    have HMk2 := Hid.mk' hmk
    clear r6 t6 e6 hw6 hS6 hG6 hmk
    go_wp2
    go_ret2
    refine .yes HR.out w4.heap.size rfl ?_ HB6.out
    rw [HMk2.out]
    exact HF6.out
end Go.Proofs.YtjpenioloeplgadGreatDoor

/- Package forms, walked: gather, Read. -/
namespace Go.Proofs.YtjpenioloeplgadGreatDoor
open Go.RowKit

theorem IsV.madeAt (W : World) (cs : Array Value) (n t : Nat) (fr : Nat × Nat) {k : Nat} (hk : W.heap.size = k) : IsV (W.alloc (.cells cs t fr)) (some ⟨k, 0, none⟩) n n cs.toList := by
  subst hk; exact IsV.made W cs n t fr

set_option maxRecDepth 100000 in
set_option maxHeartbeats 4000000 in
theorem gather_any (w : World) (ao : Option Addr) (cap n : Nat) (es : List EvD) (hE : IsEs w ao cap es) (hn : es.length = n) (hl : n ≤ 100000) (hL : Fm.Led es) :
    Calls Tryz.prog 41 #[.slice ao n cap] w fun e w' => ∃ ao' cap' m, e = .returned (.slice ao' m cap') ∧ PtRel w (Fm.gath es) ao' cap' m w' := by
  subst hn
  have HE := Hid.mk' hE; have HL := Hid.mk' hL
  obtain ⟨i0, hi0, hz0, hz1, hz2⟩ := info_parts info_part
  have Hi := Hid.mk' hi0; have Hz0 := Hid.mk' hz0; have Hz1 := Hid.mk' hz1; have Hz2 := Hid.mk' hz2
  clear hE hL hi0 hz0 hz1 hz2
  go_enter Tryz.func41, Tryz.ntmps41
  go_wp2
  go_loopw [3, 8] (fun vo vi wr => ∃ (i m : Nat) (ao' : Option Addr) (cap' : Nat), i ≤ es.length ∧ vi = .int .i64 i ∧ vo = .slice ao' m cap' ∧ PtRel w (Fm.gath (es.take i)) ao' cap' m wr) (fun _ vi _ => es.length - (intOf vi).toNat)
  case atStart => exact ⟨0, 0, none, 0, Nat.zero_le _, rfl, rfl, PtRel.start w⟩
  case round =>
    obtain ⟨i, m, ao', cap', hi, rfl, rfl, hP⟩ := hrel
    have HP := Hid.mk' hP
    have hml : m ≤ 100000 := by have h1 := hP.len; have h2 := Fm.gath_length (es.take i); rw [List.length_take] at h2; omega
    clear hP
    by_cases hlt : i < es.length
    · have hlt' : (i : Int) < es.length := by omega
      obtain ⟨b, o, rfl, hEs⟩ := HE.out.lit (by omega)
      obtain ⟨s, hE⟩ := hEs i hlt
      have hcap := HE.out.1
      have hlead := fun h2 => Fm.gath_some _ _ rfl (HL.out.at_ hlt h2)
      have HTk : Hid (Fm.gath (es.take (i + 1)) = Fm.laid (Fm.gath (es.take i)) es[i]) := by
        unfold Hid
        rw [List.take_succ_eq_append_getElem hlt, Fm.gath_snoc]
      clear hEs
      generalize es[i] = e at *
      have hcl : ∀ j u, (e.cells s)[j]? = some u → wr.cell? ⟨b, o + i * 12 + j, none⟩ = some u := fun j u hu => (HP.out.below.cell (World.block_lt_of_cell? w _ (hE.at_ j u hu))).trans (hE.at_ j u hu)
      have c0 : wr.cell? ⟨b, o + i * 12, none⟩ = some (.int .i64 e.kind) := hcl 0 _ rfl
      have c1 : wr.cell? ⟨b, o + i * 12 + 1, none⟩ = some (.string e.method) := hcl 1 _ rfl
      have c2 : wr.cell? ⟨b, o + i * 12 + 2, none⟩ = some (.string e.target) := hcl 2 _ rfl
      have c3 : wr.cell? ⟨b, o + i * 12 + 3, none⟩ = some (.int .i64 e.minor) := hcl 3 _ rfl
      have c4 : wr.cell? ⟨b, o + i * 12 + 4, none⟩ = some (.slice s.fo e.fields.length s.fcap) := hcl 4 _ rfl
      have c5 : wr.cell? ⟨b, o + i * 12 + 5, none⟩ = some (.int .i64 e.length) := hcl 5 _ rfl
      have c6 : wr.cell? ⟨b, o + i * 12 + 6, none⟩ = some (.slice s.bo e.bytes.length s.bcap) := hcl 6 _ rfl
      have c7 : wr.cell? ⟨b, o + i * 12 + 7, none⟩ = some (.string e.pname) := hcl 7 _ rfl
      have c8 : wr.cell? ⟨b, o + i * 12 + 8, none⟩ = some (.string e.pfile) := hcl 8 _ rfl
      have c9 : wr.cell? ⟨b, o + i * 12 + 9, none⟩ = some (.string e.ptype) := hcl 9 _ rfl
      have c10 : wr.cell? ⟨b, o + i * 12 + 10, none⟩ = some (.slice s.po e.pbytes.length s.pcap) := hcl 10 _ rfl
      have c11 : wr.cell? ⟨b, o + i * 12 + 11, none⟩ = some (.int .i64 e.code) := hcl 11 _ rfl
      have HBy : Hid (IsB w s.bo s.bcap e.bytes ∧ IsB w s.po s.pcap e.pbytes) := ⟨hE.bytes, hE.pbytes⟩
      have hbA : Below wr.heap.size wr (wr.alloc (.cells #[.int .i64 e.kind, .string e.method, .string e.target, .int .i64 e.minor, .slice s.fo e.fields.length s.fcap, .int .i64 e.length, .slice s.bo e.bytes.length s.bcap, .string e.pname, .string e.pfile, .string e.ptype, .slice s.po e.pbytes.length s.pcap, .int .i64 e.code] 54)) := (Below.refl _ _).alloc (Nat.le_refl _) _
      have HPA := Hid.mk' (HP.out.stay hbA)
      clear hcl hE hbA
      generalize e.fields.length = nfl at *
      obtain ⟨nb, hnb⟩ : ∃ nb, e.bytes.length = nb := ⟨_, rfl⟩
      obtain ⟨npb, hnpb⟩ : ∃ npb, e.pbytes.length = npb := ⟨_, rfl⟩
      rw [hnb] at c6 HPA
      rw [hnpb] at c10 HPA
      have HNb := Hid.mk' hnb; have HNpb := Hid.mk' hnpb
      clear hnb hnpb
      by_cases h5 : e.kind = 5
      · have t5 : (e.kind == 5) = true := beq_iff_eq.2 h5
        have hld : Fm.laid (Fm.gath (es.take i)) e = Fm.gath (es.take i) ++ [⟨e.pname, e.pfile, e.ptype, e.pbytes⟩] := by unfold Fm.laid; rw [if_pos h5]
        obtain ⟨xs, hO, hpu⟩ := (HPA.out.stay ((Below.refl _ _).alloc (Nat.le_refl _) (.cells #[.string e.pname, .string e.pfile, .string e.ptype, .slice s.po npb s.pcap] 27))).push
        have HO := Hid.mk' hO; have HPu := Hid.mk' hpu; have HLd := Hid.mk' (HTk.out.trans hld)
        have HCl : Hid (ptC ⟨e.pname, e.pfile, e.ptype, e.pbytes⟩ ⟨s.po, s.pcap⟩ = [.string e.pname, .string e.pfile, .string e.ptype, .slice s.po npb s.pcap]) := by unfold Hid ptC; rw [HNpb.out]
        have HSz : Hid (w.heap.size ≤ wr.heap.size) := HP.out.below.size
        clear h5 hld hO hpu hlead HTk
        generalize e.kind = ek at *
        go_wp2_with (at_builtin; refine wpList_append_v rfl (.tmp 16) (.tmp 19) 36 rfl w.heap.size 27 i0 (.agg #[.string ⟨#[]⟩, .string ⟨#[]⟩, .string ⟨#[]⟩, .slice none 0 0]) 4 72 Tryz.underlying36 Hi.out Hz0.out Hz1.out Hz2.out rfl (by decide) rfl HO.out rfl (IsV.madeAt _ _ 1 _ _ (by simp)) rfl (fun u hu => by simp at hu; rcases hu with rfl | rfl | rfl | rfl <;> rfl) (by omega) (by omega) (by rw [World.size_alloc, World.size_alloc]; have := HSz.out; omega) ?_; intro a3 c3 w3 hO3 hG3 hat3; have HPp := Hid.mk' (HPu.out a3 c3 w3 ⟨e.pname, e.pfile, e.ptype, e.pbytes⟩ ⟨s.po, s.pcap⟩ HBy.out.2 (by rw [HCl.out]; exact hO3) hG3); clear hO3 hG3 hat3)
        go_roundw
        case rel => exact ⟨i + 1, m + 1, a3, c3, by omega, by go_num, rfl, by rw [HLd.out]; exact HPp.out⟩
        case measure => simp [intOf]; omega
      · have t5 : (e.kind == 5) = false := beq_eq_false_iff_ne.2 h5
        by_cases h2 : e.kind = 2
        · have t2 : (e.kind == 2) = true := beq_iff_eq.2 h2
          have hpos := hlead h2
          obtain ⟨qs, p, hqp⟩ : ∃ qs p, Fm.gath (es.take i) = qs ++ [p] := by
            rcases List.eq_nil_or_concat (Fm.gath (es.take i)) with e0 | ⟨q, x, e0⟩
            · rw [e0] at hpos; simp at hpos
            · exact ⟨q, x, by rw [e0, List.concat_eq_append]⟩
          have hld : Fm.laid (Fm.gath (es.take i)) e = qs ++ [{ p with bytes := e.bytes }] := by
            unfold Fm.laid; rw [if_neg h5, if_pos h2, hqp, List.dropLast_concat, List.getLast?_append]; rfl
          have HLd := Hid.mk' (HTk.out.trans hld)
          rw [hqp] at HPA
          obtain ⟨k, rfl⟩ : ∃ k, m = k + 1 := ⟨m - 1, by have h1 := HPA.out.len; rw [List.length_append] at h1; simp at h1; omega⟩
          obtain ⟨g, rfl, ⟨v, cv⟩, fv, hc1, hby⟩ := HPA.out.bytes
          have HPp := Hid.mk' (hby e.bytes s.bo s.bcap nb HBy.out.1 HNb.out.symm)
          have m0 : (0 : Int) ≤ (k : Int) := by omega
          have m1 : (k : Int) < (k : Int) + 1 := by omega
          have m2 : ((k + 1 : Nat) : Int) - 1 = (k : Int) := by omega
          clear h5 h2 hld hlead HTk hpos hqp hby
          generalize e.kind = ek at *
          go_wp2
          go_roundw
          case rel => exact ⟨i + 1, k + 1, some ⟨g, 0, none⟩, cap', by omega, by go_num, rfl, by rw [HLd.out]; exact HPp.out⟩
          case measure => simp [intOf]; omega
        · have t2 : (e.kind == 2) = false := beq_eq_false_iff_ne.2 h2
          have hld : Fm.laid (Fm.gath (es.take i)) e = Fm.gath (es.take i) := by unfold Fm.laid; rw [if_neg h5, if_neg h2]
          have HLd := Hid.mk' (HTk.out.trans hld)
          clear h5 h2 hld hlead HTk
          generalize e.kind = ek at *
          go_wp2
          go_roundw
          case rel => exact ⟨i + 1, m, ao', cap', by omega, by go_num, rfl, by rw [HLd.out]; exact HPA.out⟩
          case measure => simp [intOf]; omega
    · obtain rfl : i = es.length := by omega
      go_wp2
      go_ret
      refine ⟨ao', cap', m, rfl, ?_⟩
      have := HP.out
      rw [List.take_length] at this
      exact this
/-- what Read answers -/
inductive ReadOut (w : World) (s l : List UInt8) (e : Ending) (w' : World) : Prop
  | no (c : Nat) (hc : c ≠ 0) (h : Fm.isMark s = false ∧ c = 5 ∨ Fm.isMark s = true ∧ Fm.close (Fm.fold (Fm.mark s) Fm.start l) = c) (he : e = .returned (.tuple #[.slice none 0 0, .int .i64 (c : Int)])) (hb : Below w.heap.size w w')
  | yes (hm : Fm.isMark s = true) (h : Fm.close (Fm.fold (Fm.mark s) Fm.start l) = 0) (w1 : World) (ao : Option Addr) (cap n : Nat) (he : e = .returned (.tuple #[.slice ao n cap, .int .i64 0])) (hP : PtRel w1 (Fm.gath (joinD (Fm.outs (Fm.mark s) Fm.start l))) ao cap n w') (hb : Below w.heap.size w w')
theorem start_ok {s : List UInt8} (h : Fm.isMark s = true) : FmOk (Fm.mark s) Fm.start := by
  obtain ⟨h1, h2⟩ := isMark_facts h
  obtain ⟨a, b, c⟩ := Fm.mark_facts s h1 h2
  exact ⟨Fm.Good.start (by omega), a, b, by omega, Nat.le_refl _⟩

set_option maxHeartbeats 1000000 in
theorem read_any (s : ByteArray) (l : List UInt8) (bo : Option Addr) (bcap n : Nat) (w : World) (hB : IsB w bo bcap l) (hn : l.length = n) (hl : n ≤ 20000) :
    Calls Tryz.prog 17 #[.string s, .slice bo n bcap] w fun e w' => ReadOut w s.data.toList l e w' := by
  have HNw := Hid.mk' (newForm_any s w)
  have HB := Hid.mk' hB; have HN := Hid.mk' hn
  clear hB hn
  go_enter Tryz.func17, Tryz.ntmps17
  go_wp2_with fail
  refine HNw.out.mono ?_
  intro e w1 hF
  cases hF with
  | no hm he hb =>
    subst he
    have HM := Hid.mk' hm; have HBb := Hid.mk' hb
    clear hm hb
    go_wp2
    go_ret2
    exact .no 5 (by decide) (Or.inl ⟨HM.out, rfl⟩) rfl HBb.out
  | yes hm g he hF hb =>
    subst he
    have hz := hb.size
    have HM := Hid.mk' hm; have HBb := Hid.mk' hb
    have hbo : l ≠ [] → ∀ a, bo = some a → ¬ w.heap.size ≤ a.block := fun hne a ea => by
      subst ea
      have hp : 0 < l.length := List.length_pos_iff.2 hne
      have := World.block_lt_of_cell? w _ (HB.out.cell 0 hp)
      rw [add_block] at this
      omega
    have HFd := Hid.mk' (feedForm_any w1 _ g (Fm.mark s.data.toList) Fm.start l bo bcap n hF (start_ok hm) (HB.out.stay hb) hbo HN.out hl)
    clear hm hF hb hz hbo
    go_wp2_with fail
    refine HFd.out.mono ?_
    rintro e w2 ⟨ao, cap, k, S', So', he, hk, hR, hO, hd, hS, hSo, hT⟩
    subst he
    have HB2 := Hid.mk' (HBb.out.trans (hT.below (B := w.heap.size) (fun k e => e) HBb.out.size))
    have HCl := Hid.mk' (close_any w2 S' g _ _ hR)
    have hfew := Fm.outs_few (by have := (start_ok HM.out).long; omega) l (start_ok HM.out).good
    have hjl := joinD_length (Fm.outs (Fm.mark s.data.toList) Fm.start l)
    have hk4 : k ≤ 40000 := by have := HN.out; omega
    have HGt := Hid.mk' (gather_any w2 ao cap k _ hO.isEs hk.symm (by omega) (Fm.told_led _ _))
    clear hk hR hO hd hS hSo hT hfew hjl
    generalize hcc : Fm.close (Fm.fold (Fm.mark s.data.toList) Fm.start l) = cc at *
    have HCc := Hid.mk' hcc
    clear hcc
    go_wp2_with fail
    refine HCl.out.mono ?_
    rintro e w3 ⟨rfl, hw⟩
    subst hw
    by_cases hc : cc = 0
    · have tc : ((cc : Int) != 0) = false := by rw [hc]; rfl
      have HC := Hid.mk' hc
      clear hc
      go_wp2_with fail
      refine HGt.out.mono ?_
      rintro e w4 ⟨ao', cap', m, rfl, hP⟩
      have HP := Hid.mk' hP
      clear hP
      go_wp2
      go_ret2
      exact .yes HM.out (HCc.out.trans HC.out) w3 ao' cap' m rfl HP.out (then_ HB2.out HP.out.below)
    · have tc : ((cc : Int) != 0) = true := by rw [bne_iff_ne]; omega
      have HC := Hid.mk' hc
      clear hc
      go_wp2
      go_ret2
      exact .no cc HC.out (Or.inr ⟨HM.out, HCc.out⟩) rfl HB2.out
end Go.Proofs.YtjpenioloeplgadGreatDoor
