/- Small texts, one behind the other: RqEnd, RqBusy. -/
import Derived.Test.YtkafbifogdoneacGreatDoorRqA
import Derived.Test.YtkafbifogdoneacGreatDoorPk19
import Derived.Test.YtkafbifogdoneacGreatDoorPk14
/- Package request, walked: the end of a head. -/
namespace Go.Proofs.YtkafbifogdoneacGreatDoor
open Go.RowKit

theorem Rq.sizes_code (f : List UInt8) : ∀ (l : List (List UInt8)) (n : Int) (c : Nat), Rq.sizes f n l = .inl c → c ≠ 0
  | [], n, c, e => by cases e
  | v :: t, n, c, e => by
    rw [Rq.sizes] at e
    split at e
    · injection e with e; omega
    · split at e
      · injection e with e; omega
      · exact Rq.sizes_code f t _ c e
theorem Rq.lenBy_code {mi : Nat} {V C : List (List UInt8)} {c : Nat} (e : Rq.lenBy mi V C = .inl c) : c ≠ 0 := by
  unfold Rq.lenBy Rq.sameNum at e
  split at e
  · split at e
    · injection e with e; omega
    · split at e
      · injection e with e; omega
      · cases e
  · split at e
    · rename_i hs
      injection e with e; subst e
      exact Rq.sizes_code _ _ _ _ hs
    · split at e
      · injection e with e; omega
      · cases e
/-- a head's length, by the texts of its fields -/
theorem Rq.len_texts (h : Rq.Hd) : Rq.len h = if 1 < (Fd.vals bHost (Rq.flT h.fields)).length ∨ (Fd.vals bHost (Rq.flT h.fields)).length = 0 ∧ h.minor = 1 then .inl 13 else Rq.lenBy h.minor (Rq.lists (Fd.vals bSize (Rq.flT h.fields))) (Rq.lists (Fd.vals bCode (Rq.flT h.fields))) := by
  rw [Rq.len_eq, Rq.lenOf_eq]
  have e : ∀ (b : ByteArray), Ch.lower b.data.toList = b.data.toList → Rq.vals h.fields b.data.toList = Rq.lists (Fd.vals b (Rq.flT h.fields)) := fun b hb => by
    have := Rq.vals_flB (Rq.flT h.fields) b hb
    rw [Rq.flB_flT] at this
    exact this
  have e1 := e bHost (by decide)
  have e2 := e bSize (by decide)
  have e3 := e bCode (by decide)
  have e1' : Rq.vals h.fields Rq.nHost = Rq.lists (Fd.vals bHost (Rq.flT h.fields)) := e1
  have e2' : Rq.vals h.fields Rq.nSize = Rq.lists (Fd.vals bSize (Rq.flT h.fields)) := e2
  have e3' : Rq.vals h.fields Rq.nCode = Rq.lists (Fd.vals bCode (Rq.flT h.fields)) := e3
  rw [e1', e2', e3']
  have el : (Rq.lists (Fd.vals bHost (Rq.flT h.fields))).length = (Fd.vals bHost (Rq.flT h.fields)).length := by simp [Rq.lists]
  rw [el]
/-- what a head's end comes to -/
inductive HdEnd (w : World) (S : Nat → Prop) (g gh : Nat) (lp bd : Value) (h : Rq.Hd) (e : Ending) (w' : World) : Prop
  | bad (c : Nat) (hc : c ≠ 0) (he : e = .returned (.int .i64 (c : Int))) (hf : Rq.len h = .inl c) (hP : PsAt w' g lp (.pointer (some ⟨gh, 0, none⟩)) false bd 0) (hT : Turns (fun k => S k ∨ k = g) w w')
  | ok (k : Int) (he : e = .returned (.int .i64 0)) (hf : Rq.len h = .inr k) (hP : PsAt w' g lp (.pointer (some ⟨gh, 0, none⟩)) true bd 0) (hH : HeadAt w' S gh { h with length := k }) (hT : Turns (fun k => S k ∨ k = g) w w')
theorem head_cells {w : World} {S : Nat → Prop} {gh : Nat} {h : Rq.Hd} (k : HeadAt w S gh h) : w.cell? ⟨gh, 4, none⟩ = some (.int .i64 h.length) ∧ w.frozen? ⟨gh, 4, none⟩ = false := by
  obtain ⟨fo, fcap, hg, _⟩ := k
  exact ⟨cell_of_row w gh 4 _ _ _ hg, frozen_of_row w gh 4 _ _ hg⟩
/-- both stores of an end -/
theorem end_out {w w2 : World} {S : Nat → Prop} {g gh : Nat} {lp bd : Value} {h : Rq.Hd} (n : Int) (b : Bool) (hB : Below w.heap.size w w2) (hP : PsAt w2 g lp (.pointer (some ⟨gh, 0, none⟩)) false bd 0) (hH : HeadAt w2 S gh h) (hg : ¬ S g) :
    PsAt ((w2.setCell ⟨gh, 4, none⟩ (.int .i64 n)).setCell ⟨g, 2, none⟩ (.bool b)) g lp (.pointer (some ⟨gh, 0, none⟩)) b bd 0 ∧ HeadAt ((w2.setCell ⟨gh, 4, none⟩ (.int .i64 n)).setCell ⟨g, 2, none⟩ (.bool b)) S gh { h with length := n } ∧ Turns (fun k => S k ∨ k = g) w ((w2.setCell ⟨gh, 4, none⟩ (.int .i64 n)).setCell ⟨g, 2, none⟩ (.bool b)) := by
  obtain ⟨h1, h2⟩ := hH.len n
  have hP1 := hP.turns h2 hg
  refine ⟨hP1.s2 b, h1.turns (Turns.setCell (fun k => k = g) _ _ _ rfl) (fun k hk e => hg (e ▸ hk)), ?_⟩
  exact (Turns.of_below (S := fun k => S k ∨ k = g) hB).trans ((h2.mono (fun k e => Or.inl e)).trans (Turns.setCell (fun k => S k ∨ k = g) _ _ _ (Or.inr rfl)) (fun _ e _ => e)) (fun _ e _ => e)

set_option maxRecDepth 100000 in
set_option maxHeartbeats 2000000 in
theorem end_any (w : World) (g gh : Nat) (lp bd : Value) (S : Nat → Prop) (h : Rq.Hd) (hP : PsAt w g lp (.pointer (some ⟨gh, 0, none⟩)) false bd 0) (hH : HeadAt w S gh h) (hg : ¬ S g) (hG : Rq.HGood h) :
    Calls Tryz.prog 112 #[.pointer (some ⟨g, 0, none⟩)] w fun e w' => HdEnd w S g gh lp bd h e w' := by
  have HHd := Hid.mk' hH
  have HP := Hid.mk' hP
  have HGn := Hid.mk' hg
  obtain ⟨fo, fcap, hr, ho, h1, h2⟩ := hH
  have c1 := hP.c1
  have c3 : w.cell? ⟨gh, 3, none⟩ = some (.slice fo h.fields.length fcap) := cell_of_row w gh 3 _ _ _ hr
  have c2 : w.cell? ⟨gh, 2, none⟩ = some (.int .i64 (h.minor : Int)) := cell_of_row w gh 2 _ _ _ hr
  have hs : ∀ p ∈ Rq.flT h.fields, p.1.size ≤ 2000 ∧ p.2.size ≤ 2000 := fun p hp => by
    obtain ⟨f, hf, rfl⟩ := List.mem_map.1 hp
    have := hG.fields f hf
    exact ⟨by show f.1.toArray.size ≤ 2000; rw [List.size_toArray]; omega, by show f.2.toArray.size ≤ 2000; rw [List.size_toArray]; omega⟩
  have hfl : (Rq.flT h.fields).length = h.fields.length := Rq.flT_length _
  have hmany := hG.many
  have HC := Hid.mk' (fun W (hW : Below w.heap.size w W) => And.intro ((hW.cell (World.block_lt_of_cell? w _ c1)).trans c1) (And.intro ((hW.cell (World.block_lt_of_cell? w _ c2)).trans c2) ((hW.cell (World.block_lt_of_cell? w _ c3)).trans c3)))
  have HH := Hid.mk' (count_any (Rq.flT h.fields) cHost fo fcap h.fields.length w ho.isV hfl (by omega) hs (by decide))
  rw [vals_host] at HH
  have HL := Hid.mk' (fun W (hW : Below w.heap.size w W) => length_any gh h.minor (Rq.flT h.fields) fo fcap h.fields.length W (HC.out W hW).2.1 (HC.out W hW).2.2 (ho.isV.stay hW) hfl (by omega) hs)
  have hlen := Rq.len_texts h
  generalize (Fd.vals bHost (Rq.flT h.fields)).length = H at HH hlen
  have hcode : ∀ c, Rq.lenBy h.minor (Rq.lists (Fd.vals bSize (Rq.flT h.fields))) (Rq.lists (Fd.vals bCode (Rq.flT h.fields))) = .inl c → c ≠ 0 := fun c e => Rq.lenBy_code e
  generalize Rq.lenBy h.minor (Rq.lists (Fd.vals bSize (Rq.flT h.fields))) (Rq.lists (Fd.vals bCode (Rq.flT h.fields))) = R at HL hlen hcode
  unfold cHost at HH
  clear hr ho hs hfl hmany hG h1 h2 hP hg
  by_cases hb : 1 < H ∨ H = 0 ∧ h.minor = 1
  · rw [if_pos hb] at hlen
    have HF := Hid.mk' hlen
    clear hlen hcode HL
    by_cases hH1 : 1 < H
    · have t1 : decide ((H : Int) > 1) = true := decide_eq_true (by omega)
      clear hb
      go_enter Tryz.func112, Tryz.ntmps112
      go_wp2_with fail
      refine HH.out.mono ?_
      rintro e w1 ⟨rfl, hb1⟩
      have HB1 := Hid.mk' hb1
      have k1 := (HC.out w1 hb1).1
      have k2 := (HC.out w1 hb1).2.1
      clear hb1
      go_wp2
      go_ret
      exact .bad 13 (by omega) rfl HF.out (HP.out.stay HB1.out) (Turns.of_below HB1.out)
    · have t1 : decide ((H : Int) > 1) = false := decide_eq_false (by omega)
      have t0 : ((H : Int) == 0) = true := beq_iff_eq.2 (by omega)
      have tm : ((h.minor : Int) == 1) = true := beq_iff_eq.2 (by omega)
      clear hb hH1
      go_enter Tryz.func112, Tryz.ntmps112
      go_wp2_with fail
      refine HH.out.mono ?_
      rintro e w1 ⟨rfl, hb1⟩
      have HB1 := Hid.mk' hb1
      have k1 := (HC.out w1 hb1).1
      have k2 := (HC.out w1 hb1).2.1
      clear hb1
      go_wp2
      go_ret
      exact .bad 13 (by omega) rfl HF.out (HP.out.stay HB1.out) (Turns.of_below HB1.out)
  · rw [if_neg hb] at hlen
    have HF := Hid.mk' hlen
    clear hlen
    have t1 : decide ((H : Int) > 1) = false := decide_eq_false (by omega)
    have hz : ((H : Int) == 0) = false ∨ ((H : Int) == 0) = true ∧ ((h.minor : Int) == 1) = false := by
      by_cases h0 : H = 0
      · exact Or.inr ⟨beq_iff_eq.2 (by omega), beq_eq_false_iff_ne.2 (by omega)⟩
      · exact Or.inl (beq_eq_false_iff_ne.2 (by omega))
    clear hb
    cases R with
    | inl c =>
      have tc : ((c : Int) == 0) = false := beq_eq_false_iff_ne.2 (by have := hcode c rfl; omega)
      have HCo := Hid.mk' (hcode c rfl)
      unfold Rq.lenVal at HL
      clear hcode
      rcases hz with t0 | ⟨t0, tm⟩
      · go_enter Tryz.func112, Tryz.ntmps112
        go_wp2_with fail
        refine HH.out.mono ?_
        rintro e w1 ⟨rfl, hb1⟩
        have HB1 := Hid.mk' hb1
        have k1 := (HC.out w1 hb1).1
        have k2 := (HC.out w1 hb1).2.1
        clear hb1
        go_wp2_with fail
        refine (HL.out w1 HB1.out).mono ?_
        rintro e w2 ⟨rfl, hb2⟩
        have hb3 := then_ HB1.out hb2
        have HP2 := Hid.mk' (HP.out.stay hb3); have HH2 := Hid.mk' (HHd.out.stay hb3); have HB2 := Hid.mk' hb3
        have q1 := HP2.out.c1
        have q2 := HP2.out.c2
        have qf := HP2.out.fz 2
        have m4 := (head_cells HH2.out).1
        have mf := (head_cells HH2.out).2
        clear hb2 hb3 k1 k2
        go_wp2
        go_ret
        obtain ⟨o1, o2, o3⟩ := end_out 0 false HB2.out HP2.out HH2.out HGn.out
        exact .bad c HCo.out rfl HF.out o1 o3
      · go_enter Tryz.func112, Tryz.ntmps112
        go_wp2_with fail
        refine HH.out.mono ?_
        rintro e w1 ⟨rfl, hb1⟩
        have HB1 := Hid.mk' hb1
        have k1 := (HC.out w1 hb1).1
        have k2 := (HC.out w1 hb1).2.1
        clear hb1
        go_wp2_with fail
        refine (HL.out w1 HB1.out).mono ?_
        rintro e w2 ⟨rfl, hb2⟩
        have hb3 := then_ HB1.out hb2
        have HP2 := Hid.mk' (HP.out.stay hb3); have HH2 := Hid.mk' (HHd.out.stay hb3); have HB2 := Hid.mk' hb3
        have q1 := HP2.out.c1
        have q2 := HP2.out.c2
        have qf := HP2.out.fz 2
        have m4 := (head_cells HH2.out).1
        have mf := (head_cells HH2.out).2
        clear hb2 hb3 k1 k2
        go_wp2
        go_ret
        obtain ⟨o1, o2, o3⟩ := end_out 0 false HB2.out HP2.out HH2.out HGn.out
        exact .bad c HCo.out rfl HF.out o1 o3
    | inr k =>
      unfold Rq.lenVal at HL
      clear hcode
      rcases hz with t0 | ⟨t0, tm⟩
      · go_enter Tryz.func112, Tryz.ntmps112
        go_wp2_with fail
        refine HH.out.mono ?_
        rintro e w1 ⟨rfl, hb1⟩
        have HB1 := Hid.mk' hb1
        have k1 := (HC.out w1 hb1).1
        have k2 := (HC.out w1 hb1).2.1
        clear hb1
        go_wp2_with fail
        refine (HL.out w1 HB1.out).mono ?_
        rintro e w2 ⟨rfl, hb2⟩
        have hb3 := then_ HB1.out hb2
        have HP2 := Hid.mk' (HP.out.stay hb3); have HH2 := Hid.mk' (HHd.out.stay hb3); have HB2 := Hid.mk' hb3
        have q1 := HP2.out.c1
        have q2 := HP2.out.c2
        have qf := HP2.out.fz 2
        have m4 := (head_cells HH2.out).1
        have mf := (head_cells HH2.out).2
        clear hb2 hb3 k1 k2
        go_wp2
        go_ret
        obtain ⟨o1, o2, o3⟩ := end_out k true HB2.out HP2.out HH2.out HGn.out
        exact .ok k rfl HF.out o1 o2 o3
      · go_enter Tryz.func112, Tryz.ntmps112
        go_wp2_with fail
        refine HH.out.mono ?_
        rintro e w1 ⟨rfl, hb1⟩
        have HB1 := Hid.mk' hb1
        have k1 := (HC.out w1 hb1).1
        have k2 := (HC.out w1 hb1).2.1
        clear hb1
        go_wp2_with fail
        refine (HL.out w1 HB1.out).mono ?_
        rintro e w2 ⟨rfl, hb2⟩
        have hb3 := then_ HB1.out hb2
        have HP2 := Hid.mk' (HP.out.stay hb3); have HH2 := Hid.mk' (HHd.out.stay hb3); have HB2 := Hid.mk' hb3
        have q1 := HP2.out.c1
        have q2 := HP2.out.c2
        have qf := HP2.out.fz 2
        have m4 := (head_cells HH2.out).1
        have mf := (head_cells HH2.out).2
        clear hb2 hb3 k1 k2
        go_wp2
        go_ret
        obtain ⟨o1, o2, o3⟩ := end_out k true HB2.out HP2.out HH2.out HGn.out
        exact .ok k rfl HF.out o1 o2 o3
end Go.Proofs.YtkafbifogdoneacGreatDoor

/- Package request, walked: Busy. -/
namespace Go.Proofs.YtkafbifogdoneacGreatDoor
open Go.RowKit

set_option maxHeartbeats 1000000 in
theorem busy_any (w : World) (S : Nat → Prop) (g : Nat) (s : Rq.St) (h : ReqAt w S g s) :
    Calls Tryz.prog 15 #[.pointer (some ⟨g, 0, none⟩)] w fun e w' => e = .returned (.bool (Rq.busy s)) ∧ w' = w := by
  have HD := Hid.mk' (dead_any w S g s h)
  have HB : Hid (Rq.busy s = if s.ph = 4 then false else if s.ph = 0 then Ln.begun s.ln else true) := rfl
  generalize Rq.busy s = bb at HB ⊢
  obtain ⟨hg, lp, hp, bd, code, hP, hI⟩ := h
  have c0 := hP.c0; have c1 := hP.c1; have c3 := hP.c3
  have hb := HB.out
  cases hI with
  | dead c hc h4 =>
    rw [if_pos h4] at hb
    rw [decide_eq_true h4] at HD
    subst hb
    clear hP HB
    go_enter Tryz.func15, Tryz.ntmps15
    go_wp2_with (go_at_call 16; refine HD.out.mono ?_; rintro e w1 ⟨rfl, hw⟩; subst hw)
    go_ret
    exact ⟨rfl, rfl⟩
  | at0 gl h0 L =>
    rw [if_neg (by omega), if_pos h0] at hb
    rw [decide_eq_false (by omega)] at HD
    have HL := Hid.mk' (begunLines_any w _ gl s.ln L)
    subst hb
    clear hP HB L
    generalize Ln.begun s.ln = bg at *
    go_enter Tryz.func15, Tryz.ntmps15
    go_wp2_with (first
      | (go_at_call 16; refine HD.out.mono ?_; rintro e w1 ⟨rfl, hw⟩; subst hw)
      | (go_at_call 47; refine HL.out.mono ?_; rintro e w2 ⟨rfl, hw⟩; subst hw))
    go_ret
    exact ⟨rfl, rfl⟩
  | at1 gl gh D h1 L H =>
    rw [if_neg (by omega), if_neg (by omega)] at hb
    rw [decide_eq_false (by omega)] at HD
    subst hb
    clear hP HB L H
    go_enter Tryz.func15, Tryz.ntmps15
    go_wp2_with (go_at_call 16; refine HD.out.mono ?_; rintro e w1 ⟨rfl, hw⟩; subst hw)
    go_ret
    exact ⟨rfl, rfl⟩
  | at2 gl gb h2 L hbb B =>
    rw [if_neg (by omega), if_neg (by omega)] at hb
    rw [decide_eq_false (by omega)] at HD
    subst hb
    clear hP HB L B
    go_enter Tryz.func15, Tryz.ntmps15
    go_wp2_with (go_at_call 16; refine HD.out.mono ?_; rintro e w1 ⟨rfl, hw⟩; subst hw)
    go_ret
    exact ⟨rfl, rfl⟩
  | at3 gl gb D h3 L B =>
    rw [if_neg (by omega), if_neg (by omega)] at hb
    rw [decide_eq_false (by omega)] at HD
    subst hb
    clear hP HB L B
    go_enter Tryz.func15, Tryz.ntmps15
    go_wp2_with (go_at_call 16; refine HD.out.mono ?_; rintro e w1 ⟨rfl, hw⟩; subst hw)
    go_ret
    exact ⟨rfl, rfl⟩
end Go.Proofs.YtkafbifogdoneacGreatDoor
