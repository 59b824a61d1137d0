/- Small texts, one behind the other: RqTake, RqWrA. -/
import Derived.Test.YtkafbifogdoneacGreatDoorRqFst
import Derived.Test.YtkafbifogdoneacGreatDoorRqFld
import Derived.Test.YtkafbifogdoneacGreatDoorPk21
import Derived.Test.YtkafbifogdoneacGreatDoorRqFlt
import Derived.Test.YtkafbifogdoneacGreatDoorPk9
/- Package request, walked: a line of a head is taken; a head is given. -/
namespace Go.Proofs.YtkafbifogdoneacGreatDoor
open Go.RowKit

/-- what a line comes to -/
inductive HdTake (w : World) (S : Nat → Prop) (g : Nat) (s : Rq.St) (t : List UInt8) (e : Ending) (w' : World) : Prop
  | quiet (s' : Rq.St) (he : e = .returned (.int .i64 0)) (hl : Rq.line s t = (s', [])) (hR : ReqAt w' (orNew S w) g s') (hT : Turns S w w')
  | bad (c : Nat) (hc : c ≠ 0) (he : e = .returned (.int .i64 (c : Int))) (hl : Rq.line s t = (Rq.dead s, [.fail c])) (lp hp bd : Value) (hP : PsAt w' g lp hp false bd 0) (hT : Turns S w w')
  | whole (k : Int) (gl gh : Nat) (D : Nat → Prop) (he : e = .returned (.int .i64 0)) (hk : Rq.len s.hd = .inr k) (ht : t = []) (h1 : s.ph = 1) (hP : PsAt w' g (.pointer (some ⟨gl, 0, none⟩)) (.pointer (some ⟨gh, 0, none⟩)) true .nilIface 0)
      (hL : LineAt w' (fun k => (S k ∧ k ≠ g) ∧ ¬ D k) gl s.ln) (hH : HeadAt w' (fun k => (S k ∧ k ≠ g) ∧ D k) gh { s.hd with length := k }) (hT : Turns S w w')

theorem text_empty {t : ByteArray} (h : t.data.toList = []) : t = ⟨#[]⟩ := by
  have : t.data = #[] := by
    apply Array.ext'
    simpa using h
  cases t; simp only at this; rw [this]
theorem text_some {t : ByteArray} (h : t.data.toList ≠ []) : 0 < t.size := by
  have h2 : t.data.toList.length = t.size := by rw [Array.length_toList]; rfl
  have := List.length_pos_iff.2 h
  omega
theorem ReqAt.new {w W : World} {S : Nat → Prop} {g : Nat} {s : Rq.St} (h : ReqAt w S g s) : ReqAt w (orNew S W) g s := h.mono (fun _ _ e => Or.inl e)

set_option maxHeartbeats 1000000 in
theorem take_at0 (w : World) (S : Nat → Prop) (g : Nat) (s : Rq.St) (t : ByteArray) (h : ReqAt w S g s) (hp : s.ph = 0) (ht : t.size ≤ 200) (hv : ∀ b ∈ t.data.toList, Ch.visible b.toNat = true) :
    Calls Tryz.prog 76 #[.pointer (some ⟨g, 0, none⟩), .string t] w fun e w' => HdTake w S g s t.data.toList e w' := by
  have HR := Hid.mk' h
  obtain ⟨hg, lp, hpp, bd, code, hP, hI⟩ := h
  cases hI with
  | dead c hc h4 => omega
  | at1 gl gh D h1 L H => omega
  | at2 gl gb h2 L hb B => omega
  | at3 gl gb D h3 L B => omega
  | at0 gl h0 L =>
    have c1 := hP.c1
    by_cases hn : t.data.toList = []
    · obtain rfl := text_empty hn
      have HL : Hid (Rq.line s [] = (s, [])) := by unfold Hid Rq.line; rw [if_pos hp, if_pos rfl]
      clear hP L hn
      go_enter Tryz.func76, Tryz.ntmps76
      go_wp2
      go_ret
      exact .quiet s rfl HL.out HR.out.new (Turns.refl _ _)
    · have hts := text_some hn
      have hemp : t.toList.isEmpty = false := Ch.isEmpty_false t hts
      have HF := Hid.mk' (first_any w g _ _ t hP (by omega) hv)
      have HL : Hid (Rq.line s t.data.toList = match Rq.first t.data.toList with | .inl c => (Rq.dead s, [.fail c]) | .inr h => ({ s with ph := 1, hd := h }, [])) := by
        unfold Hid Rq.line; rw [if_pos hp, if_neg hn]
        cases Rq.first t.data.toList <;> rfl
      have HPp := Hid.mk' hP; have HLn := Hid.mk' L; have HGm := Hid.mk' hg
      have HNz : Hid (∀ c, Rq.first t.data.toList = .inl c → c ≠ 0) := fun c e => by
        unfold Rq.first at e
        split at e
        · split at e
          · injection e with e; omega
          · split at e
            · injection e with e; omega
            · split at e
              · cases e
              · split at e
                · cases e
                · injection e with e; omega
        · injection e with e; omega
      clear hP L hg hn hv
      generalize t.data.toList = tl at *
      go_enter Tryz.func76, Tryz.ntmps76
      go_wp2_with fail
      refine HF.out.mono ?_
      rintro e w1 (⟨c, rfl, hf, hB⟩ | ⟨hd, gh, rfl, hf, hP1, hH1, hT1⟩)
      · have HFf := Hid.mk' hf; have HB := Hid.mk' hB
        clear hf hB
        go_wp2
        go_ret
        refine .bad c (HNz.out c HFf.out) rfl ?_ _ _ _ (HPp.out.stay HB.out) (Turns.of_below HB.out)
        rw [HL.out, HFf.out]
      · have HFf := Hid.mk' hf; have HP1 := Hid.mk' hP1; have HH1 := Hid.mk' hH1; have HT1 := Hid.mk' hT1
        clear hf hP1 hH1 hT1
        go_wp2
        go_ret
        refine .quiet { s with ph := 1, hd := hd } rfl (by rw [HL.out, HFf.out]) ⟨Or.inl HGm.out, _, _, _, _, HP1.out, ?_⟩ (HT1.out.mono (fun k e => by rw [e]; exact HGm.out))
        refine .at1 gl gh (fun k => w.heap.size ≤ k) rfl ?_ ?_
        · refine ((HLn.out.mono (S' := fun k => (orNew S w k ∧ k ≠ g) ∧ ¬ w.heap.size ≤ k) (fun k hk e => ⟨⟨Or.inl e.1, e.2⟩, by omega⟩)).turns HT1.out (fun k e => e.1.2))
        · refine HH1.out.mono (fun k hk e => ⟨⟨Or.inr e, ?_⟩, e⟩)
          have := HPp.out.lt; omega

set_option maxHeartbeats 2000000 in
theorem take_at1 (w : World) (S : Nat → Prop) (g : Nat) (s : Rq.St) (t : ByteArray) (h : ReqAt w S g s) (hp : s.ph = 1) (hG : Rq.HGood s.hd) (ht : t.size ≤ 200) :
    Calls Tryz.prog 76 #[.pointer (some ⟨g, 0, none⟩), .string t] w fun e w' => HdTake w S g s t.data.toList e w' := by
  obtain ⟨hg, lp, hpp, bd, code, hP, hI⟩ := h
  cases hI with
  | dead c hc h4 => omega
  | at0 gl h0 L => omega
  | at2 gl gb h2 L hb B => omega
  | at3 gl gb D h3 L B => omega
  | at1 gl gh D h1 L H =>
    have c1 := hP.c1
    have hng : ¬ ((fun k => (S k ∧ k ≠ g) ∧ D k) g) := fun e => e.1.2 rfl
    have HPp := Hid.mk' hP; have HLn := Hid.mk' L; have HGm := Hid.mk' hg; have HHd := Hid.mk' H
    by_cases hn : t.data.toList = []
    · obtain rfl := text_empty hn
      have HE := Hid.mk' (end_any w g gh _ _ _ s.hd hP H hng hG)
      have HL : Hid (∀ c, Rq.len s.hd = .inl c → Rq.line s [] = (Rq.dead s, [.fail c])) := fun c e => by
        unfold Rq.line; rw [if_neg (by omega), if_pos rfl, e]
      clear hP L hg hn H hng
      go_enter Tryz.func76, Tryz.ntmps76
      go_wp2_with fail
      refine HE.out.mono ?_
      rintro e w1 (⟨c, hc, rfl, hf, hP1, hT1⟩ | ⟨k, rfl, hf, hP1, hH1, hT1⟩)
      · have HFf := Hid.mk' hf; have HP1 := Hid.mk' hP1; have HT1 := Hid.mk' hT1; have HCn := Hid.mk' hc
        clear hf hP1 hT1 hc
        go_wp2
        go_ret
        exact .bad c HCn.out rfl (HL.out c HFf.out) _ _ _ HP1.out (HT1.out.mono (fun k e => by
          rcases e with e | e
          · exact e.1.1
          · rw [e]; exact HGm.out))
      · have HFf := Hid.mk' hf; have HP1 := Hid.mk' hP1; have HT1 := Hid.mk' hT1; have HH1 := Hid.mk' hH1
        clear hf hP1 hT1 hH1
        go_wp2
        go_ret
        refine .whole k gl gh D rfl HFf.out rfl hp HP1.out ?_ HH1.out (HT1.out.mono (fun k e => by
          rcases e with e | e
          · exact e.1.1
          · rw [e]; exact HGm.out))
        exact HLn.out.turns HT1.out (fun k e e2 => by
          rcases e2 with e2 | e2
          · exact e.2 e2.2
          · exact e.1.2 e2)
    · have hts := text_some hn
      have hemp : t.toList.isEmpty = false := Ch.isEmpty_false t hts
      have hline : Rq.line s t.data.toList = if s.hd.fields.length = 16 then (Rq.dead s, [.fail 8]) else if (Fd.of t.data.toList).code ≠ 0 then (Rq.dead s, [.fail (Fd.of t.data.toList).code]) else ({ s with hd := { s.hd with fields := s.hd.fields ++ [((Fd.of t.data.toList).name, (Fd.of t.data.toList).value)] } }, []) := by
        unfold Rq.line; rw [if_neg (by omega), if_neg hn]
      by_cases h16 : s.hd.fields.length = 16
      · have HF := Hid.mk' (field_many w g gh _ _ _ s.hd t hP H h16)
        rw [if_pos h16] at hline
        have HL := Hid.mk' hline
        generalize t.data.toList = tl at *
        clear hP L hg hn H hng hline h16
        go_enter Tryz.func76, Tryz.ntmps76
        go_wp2_with fail
        refine HF.out.mono ?_
        rintro e w1 ⟨rfl, hw⟩
        subst hw
        go_wp2
        go_ret
        exact .bad 8 (by omega) rfl HL.out _ _ _ HPp.out (Turns.refl _ _)
      · rw [if_neg h16] at hline
        by_cases hc : (Fd.of t.data.toList).code = 0
        · have HF := Hid.mk' (field_ok w g gh _ _ _ s.hd t hP H hng (by have := hG.many; omega) (by omega) hc)
          rw [if_neg (fun e => e hc)] at hline
          have HL := Hid.mk' hline
          generalize Fd.of t.data.toList = fd at *
          generalize t.data.toList = tl at *
          clear hP L hg hn H hng hline h16 hc
          go_enter Tryz.func76, Tryz.ntmps76
          go_wp2_with fail
          refine HF.out.mono ?_
          rintro e w1 ⟨rfl, hP1, hH1, hT1⟩
          have HP1 := Hid.mk' hP1; have HH1 := Hid.mk' hH1; have HT1 := Hid.mk' hT1
          clear hP1 hH1 hT1
          go_wp2
          go_ret
          refine .quiet _ rfl HL.out ⟨Or.inl HGm.out, _, _, _, _, HP1.out, ?_⟩ (HT1.out.mono (fun k e => e.1.1))
          refine .at1 gl gh (fun k => D k ∨ w.heap.size ≤ k) hp ?_ ?_
          · refine ((HLn.out.mono (S' := fun k => ((orNew S w k ∧ k ≠ g) ∧ ¬ (D k ∨ w.heap.size ≤ k))) (fun k hk e => ⟨⟨Or.inl e.1.1, e.1.2⟩, fun e2 => by
              rcases e2 with e2 | e2
              · exact e.2 e2
              · omega⟩)).turns HT1.out (fun k e e2 => e.2 (Or.inl e2.2)))
          · refine HH1.out.mono (fun k hk e => ?_)
            rcases e with e | e
            · exact ⟨⟨Or.inl e.1.1, e.1.2⟩, Or.inl e.2⟩
            · exact ⟨⟨Or.inr e, by have := HPp.out.lt; omega⟩, Or.inr e⟩
        · have HF := Hid.mk' (field_bad w g gh _ _ _ s.hd t hP H h16 (by omega) hc)
          rw [if_pos hc] at hline
          have HL := Hid.mk' hline; have HCn := Hid.mk' hc
          generalize (Fd.of t.data.toList).code = cc at *
          generalize t.data.toList = tl at *
          clear hP L hg hn H hng hline h16 hc
          go_enter Tryz.func76, Tryz.ntmps76
          go_wp2_with fail
          refine HF.out.mono ?_
          rintro e w1 ⟨rfl, hB⟩
          have HB := Hid.mk' hB
          clear hB
          go_wp2
          go_ret
          exact .bad cc HCn.out rfl HL.out _ _ _ (HPp.out.stay HB.out) (Turns.of_below HB.out)
end Go.Proofs.YtkafbifogdoneacGreatDoor

/- What request.Write calls of the library, walked: strings.Join of three texts at a blank. -/
namespace Go.Proofs.YtkafbifogdoneacGreatDoor
open Go.RowKit

theorem builderExtra : Builder.Extra Tryz.prog Tryz.lays156_ren where
  sizeBuilder := by kernel_rfl
  liesBuilder := by kernel_rfl
  t5 := Tryz.underlying5
  a5 := Tryz.isAgg5
  z5 := Tryz.sizeOf5
  v5 := Tryz.zeroValue5
  infoByte := by kernel_rfl
  cellsByte := by kernel_rfl
  sizeByte := by kernel_rfl
  neB5 := by decide
/-- three texts, a blank between them -/
theorem join_three (x y z : ByteArray) (bk : Nat) (w : World) (c0 : w.cell? ⟨bk, 0, none⟩ = some (.string x)) (c1 : w.cell? ⟨bk, 1, none⟩ = some (.string y)) (c2 : w.cell? ⟨bk, 2, none⟩ = some (.string z)) (hz : x.size + y.size + z.size ≤ 1000000) :
    Calls Tryz.prog 48 #[.slice (some ⟨bk, 0, none⟩) 3 3, .string ⟨#[32]⟩] w fun e w' => e = .returned (.string ⟨(x.data.toList ++ 32 :: (y.data.toList ++ 32 :: z.data.toList)).toArray⟩) ∧ Below w.heap.size w w' := by
  have ej : Lib.join (([x, y, z] : List ByteArray).map (·.data.toList)) [32] = x.data.toList ++ 32 :: (y.data.toList ++ 32 :: z.data.toList) := by
    simp [Lib.join, List.intercalate, List.intersperse]
  have hl : ∀ s : ByteArray, s.data.toList.length = s.size := fun s => by rw [Array.length_toList]; rfl
  have h := Any.strings_Join Tryz.lays156 builderExtra bk 0 3 [x, y, z] ⟨#[32]⟩ w (fun j u hj => by
    match j, hj with
    | 0, hj => injection hj with hj; subst hj; simpa using c0
    | 1, hj => injection hj with hj; subst hj; simpa using c1
    | 2, hj => injection hj with hj; subst hj; simpa using c2
    | j + 3, hj => simp at hj) (World.block_lt_of_cell? w _ c0) (by simp) (by simp) (by
      show (Lib.join (([x, y, z] : List ByteArray).map (·.data.toList)) [32]).length ≤ _
      rw [ej]
      have := hl x; have := hl y; have := hl z
      simp only [List.length_append, List.length_cons]; omega)
  have e2 : Lib.join (([x, y, z] : List ByteArray).map (·.data.toList)) (⟨#[32]⟩ : ByteArray).data.toList = x.data.toList ++ 32 :: (y.data.toList ++ 32 :: z.data.toList) := ej
  rw [e2] at h
  exact h

end Go.Proofs.YtkafbifogdoneacGreatDoor
