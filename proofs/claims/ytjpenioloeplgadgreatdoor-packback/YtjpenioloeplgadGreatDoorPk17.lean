/- Small texts, one behind the other: TdB, TdC, TdD. -/
import Derived.Test.YtjpenioloeplgadGreatDoorPk15
import Derived.Deep.RegionLaw
import Derived.Deep.AppendLies
/- What a reader of forms told, walked: all. -/
namespace Go.Proofs.YtjpenioloeplgadGreatDoor
open Go.RowKit

theorem info_evF : (Tryz.prog.info? 54).map (fun i => (i.zero, i.size, i.bytes)) = some (some (.agg #[.int .i64 0, .string ⟨#[]⟩, .string ⟨#[]⟩, .int .i64 0, .slice none 0 0, .int .i64 0, .slice none 0 0, .string ⟨#[]⟩, .string ⟨#[]⟩, .string ⟨#[]⟩, .slice none 0 0, .int .i64 0]), 12, 184) := by kernel_rfl
/-- a row of told, put anew -/
theorem told_put {w3 : World} {S : Nat → Prop} {g : Nat} {x y : Value} {ao' : Option Addr} {cap' n : Nat} {es : List EvD} (hr : w3.heap[g]? = some (.cells #[x, y] 91 (0, 0))) (hS : S g) (ha : AllN w3 (fun k => S k ∧ k ≠ g) 54 ao' cap' es) (hn : n = es.length) :
    TdRow ((w3.setCell ⟨g, 0, none⟩ (.slice ao' n cap')).setCell ⟨g, 1, none⟩ (.slice none 0 0)) S g ao' cap' none 0 ⟨es, []⟩ ∧ Turns (fun k => k = g) w3 ((w3.setCell ⟨g, 0, none⟩ (.slice ao' n cap')).setCell ⟨g, 1, none⟩ (.slice none 0 0)) := by
  subst hn
  have hT : Turns (fun k => k = g) w3 ((w3.setCell ⟨g, 0, none⟩ (.slice ao' es.length cap')).setCell ⟨g, 1, none⟩ (.slice none 0 0)) := (Turns.setCell (fun k => k = g) w3 ⟨g, 0, none⟩ _ rfl).trans (Turns.setCell (fun k => k = g) _ ⟨g, 1, none⟩ _ rfl) (fun _ e _ => e)
  refine ⟨⟨?_, ?_, OwnB.nil _ _ _, fun a e => (by cases e), hS⟩, hT⟩
  · have h1 : (w3.setCell ⟨g, 0, none⟩ (.slice ao' es.length cap')).heap[g]? = some (.cells #[.slice ao' es.length cap', y] 91 (0, 0)) := by rw [heap_setCell_same w3 g 0 _ _ _ hr]; rfl
    rw [heap_setCell_same _ g 1 _ _ _ h1]; rfl
  · exact (ha.turns hT (fun k e => e.2)).mono (fun k _ e => ⟨e, by simp [blockOf]⟩)
/-- nothing waits -/
theorem tdAll_none (w : World) (S : Nat → Prop) (g : Nat) (ao : Option Addr) (cap : Nat) (bo : Option Addr) (bc : Nat) (es : List EvD) (h : TdRow w S g ao cap bo bc ⟨es, []⟩) :
    Calls Tryz.prog 47 #[.pointer (some ⟨g, 0, none⟩)] w fun e w' => e = .returned (.slice ao es.length cap) ∧ w' = w := by
  have c0 : w.cell? ⟨g, 0, none⟩ = some (.slice ao es.length cap) := h.c0
  have c1 : w.cell? ⟨g, 1, none⟩ = some (.slice bo 0 bc) := h.c1
  clear h
  generalize es.length = n at *
  go_enter Tryz.func47, Tryz.ntmps47
  go_wp2
  go_ret
  exact ⟨rfl, rfl⟩

set_option maxHeartbeats 4000000 in
set_option maxRecDepth 100000 in
/-- bytes wait -/
theorem tdAll_some (w : World) (S : Nat → Prop) (g : Nat) (ao : Option Addr) (cap : Nat) (bo : Option Addr) (bc n nb : Nat) (t : Fm.Td) (h : TdRow w S g ao cap bo bc t) (hb : t.bs ≠ []) (hn : t.es.length = n) (hl : n ≤ 100000) (hnb : t.bs.length = nb) :
    Calls Tryz.prog 47 #[.pointer (some ⟨g, 0, none⟩)] w fun e w' => ∃ ao' cap', e = .returned (.slice ao' (n + 1) cap') ∧ TdRow w' (orNew S w) g ao' cap' none 0 ⟨t.es ++ [bodyD t.bs], []⟩ ∧ Turns S w w' := by
  have c0 : w.cell? ⟨g, 0, none⟩ = some (.slice ao n cap) := hn ▸ h.c0
  have c1 : w.cell? ⟨g, 1, none⟩ = some (.slice bo nb bc) := hnb ▸ h.c1
  have hnp : 0 < nb := by rw [← hnb]; exact List.length_pos_iff.2 hb
  have t0 : decide ((nb : Int) > 0) = true := decide_eq_true (by omega)
  obtain ⟨ps, hO, hp⟩ := h.all.push (.cells #[.int .i64 2, .string ⟨#[]⟩, .string ⟨#[]⟩, .int .i64 0, .slice none 0 0, .int .i64 0, .slice bo nb bc, .string ⟨#[]⟩, .string ⟨#[]⟩, .string ⟨#[]⟩, .slice none 0 0, .int .i64 0] 54)
  rw [hn] at hO hp
  have hgA : ∀ k, blockOf ao = some k → (S k ∧ k ≠ g) ∧ blockOf bo ≠ some k := fun k e => by
    obtain ⟨_, _, _, hm, _⟩ := h.all
    cases ao with
    | none => cases e
    | some a => injection e with e; subst e; exact hm a rfl
  have HK : Hid (∀ W3, (w.alloc (.cells #[.int .i64 2, .string ⟨#[]⟩, .string ⟨#[]⟩, .int .i64 0, .slice none 0 0, .int .i64 0, .slice bo nb bc, .string ⟨#[]⟩, .string ⟨#[]⟩, .string ⟨#[]⟩, .slice none 0 0, .int .i64 0] 54)).drew.grownBy W3 (Value.slice ao n cap).ownBlock → W3.heap[g]? = some (.cells #[.slice ao n cap, .slice bo nb bc] 91 (0, 0))) := fun W3 hG => by
    rw [ownBlock_slice] at hG
    have h1 := ((Below.refl _ w).alloc (Nat.le_refl _) (.cells #[.int .i64 2, .string ⟨#[]⟩, .string ⟨#[]⟩, .int .i64 0, .slice none 0 0, .int .i64 0, .slice bo nb bc, .string ⟨#[]⟩, .string ⟨#[]⟩, .string ⟨#[]⟩, .slice none 0 0, .int .i64 0] 54)).block g h.lt
    have h2 := hG.block g (by show g < (w.alloc _).heap.size; rw [World.size_alloc]; have := h.lt; omega) (fun e => (hgA g e.symm).1.2 rfl)
    have h3 := h.row
    rw [hn, hnb] at h3
    exact h2.trans (h1.trans h3)
  have hbA := (Below.refl _ w).alloc (Nat.le_refl _) (.cells #[.int .i64 2, .string ⟨#[]⟩, .string ⟨#[]⟩, .int .i64 0, .slice none 0 0, .int .i64 0, .slice bo nb bc, .string ⟨#[]⟩, .string ⟨#[]⟩, .string ⟨#[]⟩, .slice none 0 0, .int .i64 0] 54)
  have c0a := (hbA.cell (p := ⟨g, 0, none⟩) h.lt).trans c0
  have c1a := (hbA.cell (p := ⟨g, 1, none⟩) h.lt).trans c1
  clear hbA
  have HO := Hid.mk' (OwnV.stay hO (below_drew _ _))
  have HNw : Hid (∀ j u, ((bodyD t.bs).cells ⟨none, 0, bo, bc, none, 0⟩)[j]? = some u → (w.alloc (.cells #[.int .i64 2, .string ⟨#[]⟩, .string ⟨#[]⟩, .int .i64 0, .slice none 0 0, .int .i64 0, .slice bo nb bc, .string ⟨#[]⟩, .string ⟨#[]⟩, .string ⟨#[]⟩, .slice none 0 0, .int .i64 0] 54)).drew.cell? (Addr.add ⟨w.heap.size, 0, none⟩ j) = some u) := fun j u hu => by
    rw [Addr.add_lit, Nat.zero_add]
    show (w.alloc _).cell? _ = _
    rw [World.cell?_alloc_at _ _ _ _ rfl, ← hnb, List.getElem?_toArray]
    exact hu
  have HIn : Hid (InE w (fun k => blockOf bo = some k) (bodyD t.bs) ⟨none, 0, bo, bc, none, 0⟩) := ⟨IsVS.nil _ _, ⟨h.own.isB, fun _ a e => by have e : bo = some a := e; rw [e]; rfl⟩, IsBS.nil _ _⟩
  have HP := Hid.mk' hp
  have HH := Hid.mk' h
  obtain ⟨i0, hi0, hz0, hz1, hz2⟩ := info_parts info_evF
  have Hi := Hid.mk' hi0; have Hz0 := Hid.mk' hz0; have Hz1 := Hid.mk' hz1; have Hz2 := Hid.mk' hz2
  have HN : Hid (n + 1 ≤ maxLen ∧ (n + 1) * 184 ≤ 140737488355328) := ⟨by unfold maxLen; omega, by omega⟩
  clear hi0 hz0 hz1 hz2 hO hp hgA h hb hn hnb
  go_enter Tryz.func47, Tryz.ntmps47
  go_wp2
  go_region_law
    ((refine step_append_lies _ (by rfl) _ _ _ (by rfl) 0 54 i0 (.agg #[.int .i64 0, .string ⟨#[]⟩, .string ⟨#[]⟩, .int .i64 0, .slice none 0 0, .int .i64 0, .slice none 0 0, .string ⟨#[]⟩, .string ⟨#[]⟩, .string ⟨#[]⟩, .slice none 0 0, .int .i64 0]) 12 184 Tryz.underlying49 Hi.out Hz0.out Hz1.out Hz2.out (by rfl) (by decide) (.slice ao n cap) n _ (by rfl) HO.out ⟨w.heap.size, 0, none⟩ 1 1 ((bodyD t.bs).cells ⟨none, 0, bo, bc, none, 0⟩) (by rfl) (by rfl) HNw.out (cells_one _ _) (by decide) HN.out.1 HN.out.2 (Nat.zero_le _) (w.heap.size + 1) (by simp) ?_; intro g3 cap3 w3 hown3 hgrow hat3 hlt3; have h3 := HK.out _ hgrow; have q0 : w3.cell? ⟨g, 0, none⟩ = some (.slice ao n cap) := cell_of_row w3 g 0 _ _ _ h3; have q1 : w3.cell? ⟨g, 1, none⟩ = some (.slice bo nb bc) := cell_of_row w3 g 1 _ _ _ h3; have f0 : w3.frozen? ⟨g, 0, none⟩ = false := frozen_of_row w3 g 0 _ _ h3; have f1 : w3.frozen? ⟨g, 1, none⟩ = false := frozen_of_row w3 g 1 _ _ h3; have HR3 := Hid.mk' h3; have HG3 := Hid.mk' hgrow; have HO3 := Hid.mk' hown3; have HA3 := Hid.mk' hat3; clear hgrow hown3 hat3 h3))
  all_goals
    go_wp2
    go_ret
    have hG := HG3.out
    have hat := HA3.out
    rw [ownBlock_slice] at hG hat
    obtain ⟨r1, r2⟩ := HP.out (some ⟨g3, 0, none⟩) cap3 w3 (bodyD t.bs) ⟨none, 0, bo, bc, none, 0⟩ (fun k => blockOf bo = some k) _ rfl HIn.out ⟨rfl, rfl⟩ (fun k e => e.2) HO3.out (grown_trans (grown_drew _ _) hG) (by
      rcases hat with e | e
      · exact Or.inl e.symm
      · exact Or.inr (by rw [World.size_alloc, e]; rfl))
    have hlt := HH.out.lt
    have r3 : AllN w3 (fun k => orNew S w k ∧ k ≠ g) 54 (some ⟨g3, 0, none⟩) cap3 (t.es ++ [bodyD t.bs]) := r1.mono (fun k _ e => by
      rcases e with e | e | e
      · exact ⟨Or.inl e.1.1, e.1.2⟩
      · cases bo with
        | none => cases e
        | some a => injection e with e; subst e; exact ⟨Or.inl (HH.out.mem a rfl).1, (HH.out.mem a rfl).2⟩
      · exact ⟨Or.inr e, by omega⟩)
    have r4 := told_put HR3.out (S := orNew S w) (Or.inl HH.out.me) r3 (n := n + 1) (by rw [List.length_append]; exact congrArg (· + 1) (by obtain ⟨qs, hq, hw, _⟩ := HH.out.all; have h1 := HH.out.row; have h2 := HR3.out; have := HH.out.c0; have h4 := q0; exact (by
      have hT := r2.row HH.out.row (fun e => e.1.2 rfl)
      rw [HR3.out] at hT
      injection hT with hT
      injection hT with hT
      have := congrArg (fun a : Array Value => a[0]?) hT
      simpa using this)))
    exact ⟨_, _, rfl, r4.1, (r2.mono (fun k e => e.1.1)).trans (r4.2.mono (S' := S) (fun k e => by subst e; exact HH.out.me)) (fun _ e _ => e)⟩
end Go.Proofs.YtjpenioloeplgadGreatDoor

/- What a reader of forms told, walked: addBytes. -/
namespace Go.Proofs.YtjpenioloeplgadGreatDoor
open Go.RowKit

theorem told_more {w w3 : World} {S : Nat → Prop} {g : Nat} {ao bo bo' : Option Addr} {cap bc bc' n : Nat} {t : Fm.Td} {l : List UInt8} (h : TdRow w S g ao cap bo bc t) (hO : OwnB w3 0 5 bo' bc' (t.bs ++ l)) (hG : w.grownBy w3 (blockOf bo)) (hat : blockOf bo' = blockOf bo ∨ blockOf bo' = some w.heap.size) (hn : n = (t.bs ++ l).length) :
    TdRow (w3.setCell ⟨g, 1, none⟩ (.slice bo' n bc')) (orNew S w) g ao cap bo' bc' ⟨t.es, t.bs ++ l⟩ ∧ Turns S w (w3.setCell ⟨g, 1, none⟩ (.slice bo' n bc')) := by
  subst hn
  have hlt := h.lt
  have hT1 : Turns (fun k => blockOf bo = some k) w w3 := Turns.of_grown hG (fun k e => e)
  have hbS : ∀ k, blockOf bo = some k → S k ∧ k ≠ g := fun k e => by
    cases bo with
    | none => cases e
    | some a => injection e with e; subst e; exact h.mem a rfl
  have hr := hT1.row h.row (fun e => (hbS g e).2 rfl)
  have hT2 : Turns (fun k => k = g) w3 (w3.setCell ⟨g, 1, none⟩ (.slice bo' (t.bs ++ l).length bc')) := Turns.setCell (fun k => k = g) w3 ⟨g, 1, none⟩ _ rfl
  have hbk : ∀ a, bo' = some a → orNew S w a.block ∧ a.block ≠ g := fun a e => by
    rw [e] at hat
    rcases hat with e2 | e2
    · have := hbS a.block e2.symm; exact ⟨Or.inl this.1, this.2⟩
    · injection e2 with e2; exact ⟨Or.inr (by omega), by omega⟩
  refine ⟨⟨?_, ?_, hO.turns hT2 (fun a e => (hbk a e).2), hbk, Or.inl h.me⟩, (hT1.mono (fun k e => (hbS k e).1)).trans (hT2.mono (S' := S) (fun k e => by subst e; exact h.me)) (fun _ e _ => e)⟩
  · rw [heap_setCell_same w3 g 1 _ _ _ hr]; rfl
  · have h1 := (h.all.mono (S' := fun k => ((S k ∧ k ≠ g) ∧ blockOf bo ≠ some k) ∧ k < w.heap.size) (fun k hk e => ⟨e, hk⟩)).turns hT1 (fun k e => e.1.2)
    refine (h1.turns hT2 (fun k e => e.1.1.2)).mono (fun k _ e => ⟨⟨Or.inl e.1.1.1, e.1.1.2⟩, fun e2 => ?_⟩)
    rcases hat with e3 | e3
    · exact e.1.2 (e3.symm.trans e2)
    · rw [e2] at e3; injection e3 with e3; have := e.2; omega

set_option maxHeartbeats 1000000 in
theorem addBytes_any (w : World) (S : Nat → Prop) (g : Nat) (t : Fm.Td) (so : Option Addr) (sc m : Nat) (l : List UInt8) (h : TdAt w S g t) (hs : IsB w so sc l) (hm : l.length = m) (hl : t.bs.length + m ≤ 1000000) :
    Calls Tryz.prog 94 #[.pointer (some ⟨g, 0, none⟩), .slice so m sc] w fun e w' => e = .returned (.tuple #[]) ∧ TdAt w' (orNew S w) g ⟨t.es, t.bs ++ l⟩ ∧ Turns S w w' := by
  obtain ⟨ao, cap, bo, bc, h⟩ := h
  obtain ⟨nb, hnb⟩ : ∃ nb, t.bs.length = nb := ⟨_, rfl⟩
  have c1 : w.cell? ⟨g, 1, none⟩ = some (.slice bo nb bc) := hnb ▸ h.c1
  have HH := Hid.mk' h; have HS := Hid.mk' hs; have HM := Hid.mk' hm; have HNb := Hid.mk' hnb
  have hne : blockOf bo ≠ some g := fun e => by
    cases bo with
    | none => cases e
    | some a => injection e with e; exact (h.mem a rfl).2 e
  have HK : Hid (∀ W3, w.grownBy W3 (blockOf bo) → W3.cell? ⟨g, 1, none⟩ = some (.slice bo nb bc) ∧ W3.frozen? ⟨g, 1, none⟩ = false) := fun W3 hG => by
    have h1 := hG.block g h.lt (fun e => hne e.symm)
    have h2 := h1.trans h.row
    exact ⟨(hG.cell c1 (fun e => hne e.symm)), frozen_of_row W3 g 1 _ _ h2⟩
  rw [hnb] at hl
  obtain ⟨i0, hi0, hz0, hz1, hz2⟩ := info_parts info_u8
  have Hi := Hid.mk' hi0; have Hz0 := Hid.mk' hz0; have Hz1 := Hid.mk' hz1; have Hz2 := Hid.mk' hz2
  clear hi0 hz0 hz1 hz2 h hs hm hnb hne
  go_enter Tryz.func94, Tryz.ntmps94
  go_wp2_with (at_builtin; refine wpList_append_at rfl (.tmp 8) (.tmp 9) 25 rfl 0 5 i0 Tryz.underlying25 Hi.out Hz0.out Hz1.out Hz2.out (l := t.bs) (l2 := l) rfl HNb.out HH.out.own rfl HM.out HS.out (by omega) (Nat.zero_le _) ?_; intro ao3 cap3 w3 hO3 hG3 hat3; have q1 := (HK.out w3 hG3).1; have qf := (HK.out w3 hG3).2; have HO3 := Hid.mk' hO3; have HG3 := Hid.mk' hG3; have HA3 := Hid.mk' hat3; clear hO3 hG3 hat3)
  have hr := told_more HH.out HO3.out HG3.out HA3.out (n := nb + m) (by rw [List.length_append, HNb.out, HM.out])
  go_end0
  exact ⟨rfl, ⟨_, _, _, _, hr.1⟩, hr.2⟩
end Go.Proofs.YtjpenioloeplgadGreatDoor

/- What a reader of forms told, walked: add. -/
namespace Go.Proofs.YtjpenioloeplgadGreatDoor
open Go.RowKit

/-- an event without memory -/
def bareD (k : Int) (pn pf pt : ByteArray) (c : Int) : EvD := ⟨k, ⟨#[]⟩, ⟨#[]⟩, 0, [], 0, [], pn, pf, pt, [], c⟩
/-- all, whatever waits -/
theorem tdAll_any (w : World) (S : Nat → Prop) (g : Nat) (t : Fm.Td) (h : TdAt w S g t) (hl : t.es.length ≤ 100000) :
    Calls Tryz.prog 47 #[.pointer (some ⟨g, 0, none⟩)] w fun e w' => ∃ ao cap bo bc, e = .returned (.slice ao (Fm.flush t).length cap) ∧ TdRow w' (orNew S w) g ao cap bo bc ⟨Fm.flush t, []⟩ ∧ Turns S w w' := by
  obtain ⟨ao, cap, bo, bc, h⟩ := h
  obtain ⟨es, bs⟩ := t
  by_cases hb : bs = []
  · subst hb
    have e1 : Fm.flush ⟨es, []⟩ = es := by unfold Fm.flush Fm.someD; simp
    rw [e1]
    refine (tdAll_none w S g ao cap bo bc es h).mono ?_
    rintro e w' ⟨he, hw⟩
    subst hw
    exact ⟨ao, cap, bo, bc, he, h.mono (fun k _ e => Or.inl e), Turns.refl _ _⟩
  · have e1 : Fm.flush ⟨es, bs⟩ = es ++ [bodyD bs] := by unfold Fm.flush Fm.someD; simp [hb]
    rw [e1]
    refine (tdAll_some w S g ao cap bo bc es.length bs.length ⟨es, bs⟩ h hb rfl hl rfl).mono ?_
    rintro e w' ⟨ao', cap', he, hR, hT⟩
    exact ⟨ao', cap', none, 0, by rw [he]; simp, hR, hT⟩
/-- events that grow in their row -/
theorem AllN.grow {W : World} {S : Nat → Prop} {tE : Nat} {ao : Option Addr} {cap : Nat} {es : List EvD} (h : AllN W S tE ao cap es) : ∃ ps : List (EvD × EvS), OwnV W 0 tE 12 ao cap es.length (rowsV ps) ∧
    ∀ ao' cap' w' (e : EvD) s (N : Nat → Prop) ys, e.cells s = ys → InE W N e s → s.po = none ∧ s.pcap = 0 → (∀ k, S k → ¬ N k) → OwnV w' 0 tE 12 ao' cap' (es.length + 1) (rowsV ps ++ ys) → W.grownBy w' (blockOf ao) → (blockOf ao' = blockOf ao ∨ blockOf ao' = some W.heap.size) → AllN w' (fun k => S k ∨ N k ∨ W.heap.size ≤ k) tE ao' cap' (es ++ [e]) ∧ Turns S W w' := by
  obtain ⟨ps, hes, hO, hm, hI, hX⟩ := h
  refine ⟨ps, hO, fun ao' cap' w' e s N ys hy hE hpn hN hO' hG hat => ?_⟩
  subst hy
  have e1 : rowsV [(e, s)] = e.cells s := by simp [rowsV]
  rw [← e1] at hO'
  have := AllN.more (N := N) hm hI (ps2 := [(e, s)]) (fun p hp => by rw [List.mem_singleton.1 hp]; exact hE) hN hO' (by rw [← hes, List.length_map]; rfl) hG hat hX (fun p hp => by rw [List.mem_singleton.1 hp]; exact hpn)
  refine ⟨?_, Turns.of_grown (S := S) hG (fun k e => ?_)⟩
  · rw [hes] at this
    refine this.mono (fun k hk e => ?_)
    rcases e with e | e | e
    · exact Or.inl e
    · exact Or.inr (Or.inl e)
    · exact Or.inr (Or.inr (by omega))
  · cases ao with
    | none => cases e
    | some a => injection e with e; subst e; exact hm a rfl
/-- an event without memory, behind what was told -/
theorem TdRow.grow {W : World} {S : Nat → Prop} {g : Nat} {ao bo : Option Addr} {cap bc : Nat} {es : List EvD} (h : TdRow W S g ao cap bo bc ⟨es, []⟩) : ∃ xs, OwnV W 0 54 12 ao cap es.length xs ∧
    ∀ g3 cap3 w3 k pn pf pt c, OwnV w3 0 54 12 (some ⟨g3, 0, none⟩) cap3 (es.length + 1) (xs ++ (bareD k pn pf pt c).cells ⟨none, 0, none, 0, none, 0⟩) → W.grownBy w3 (blockOf ao) → (blockOf ao = some g3 ∨ g3 = W.heap.size) →
      w3.heap[g]? = some (.cells #[.slice ao es.length cap, .slice bo 0 bc] 91 (0, 0)) ∧ TdRow (w3.setCell ⟨g, 0, none⟩ (.slice (some ⟨g3, 0, none⟩) (es.length + 1) cap3)) (orNew S W) g (some ⟨g3, 0, none⟩) cap3 bo bc ⟨es ++ [bareD k pn pf pt c], []⟩ ∧ Turns S W (w3.setCell ⟨g, 0, none⟩ (.slice (some ⟨g3, 0, none⟩) (es.length + 1) cap3)) := by
  obtain ⟨ps, hO, hq⟩ := h.all.grow
  refine ⟨rowsV ps, hO, fun g3 cap3 w3 k pn pf pt c hO3 hG hat => ?_⟩
  obtain ⟨r1, r2⟩ := hq (some ⟨g3, 0, none⟩) cap3 w3 (bareD k pn pf pt c) ⟨none, 0, none, 0, none, 0⟩ (fun _ => False) _ rfl ⟨IsVS.nil _ _, IsBS.nil _ _, IsBS.nil _ _⟩ ⟨rfl, rfl⟩ (fun _ _ e => e) hO3 hG (by
    rcases hat with e | e
    · exact Or.inl e.symm
    · exact Or.inr (by rw [e]; rfl))
  have hlt := h.lt
  have hr := r2.row h.row (fun e => e.1.2 rfl)
  have hT : Turns (fun i => i = g) w3 (w3.setCell ⟨g, 0, none⟩ (.slice (some ⟨g3, 0, none⟩) (es.length + 1) cap3)) := Turns.setCell (fun i => i = g) w3 ⟨g, 0, none⟩ _ rfl
  refine ⟨hr, ⟨?_, ?_, ?_, fun a e => ⟨Or.inl (h.mem a e).1, (h.mem a e).2⟩, Or.inl h.me⟩, (r2.mono (fun i e => e.1.1)).trans (hT.mono (S' := S) (fun i e => by subst e; exact h.me)) (fun _ e _ => e)⟩
  · rw [heap_setCell_same w3 g 0 _ _ _ hr]
    show some (Obj.cells #[.slice (some ⟨g3, 0, none⟩) (es.length + 1) cap3, .slice bo 0 bc] _ _) = some (Obj.cells #[.slice (some ⟨g3, 0, none⟩) (es ++ [bareD k pn pf pt c]).length cap3, .slice bo 0 bc] _ _)
    rw [List.length_append]; rfl
  · have h1 : AllN w3 (fun i => (orNew S W i ∧ i ≠ g) ∧ blockOf bo ≠ some i) 54 (some ⟨g3, 0, none⟩) cap3 (es ++ [bareD k pn pf pt c]) := r1.mono (fun i _ e => by
      rcases e with e | e | e
      · exact ⟨⟨Or.inl e.1.1, e.1.2⟩, e.2⟩
      · exact e.elim
      · refine ⟨⟨Or.inr e, by omega⟩, fun e2 => ?_⟩
        cases bo with
        | none => cases e2
        | some a => injection e2 with e2; have := (h.own.block a rfl).2; omega)
    exact h1.turns hT (fun i e => e.1.2)
  · exact (h.own.turns r2 (fun a e k => k.2 (by rw [e]; rfl))).turns hT (fun a e => (h.mem a e).2)
theorem add_done {w W w2 W' wF : World} {S : Nat → Prop} {g : Nat} {t : Fm.Td} {ao bo : Option Addr} {cap bc : Nat} (hb : Below w.heap.size w W) (hT : Turns (fun i => S i ∧ i < w.heap.size) W w2) (hb2 : Below w2.heap.size w2 W') (h3 : TdRow wF (orNew (orNew (fun i => S i ∧ i < w.heap.size) W) W') g ao cap bo bc t) (hT3 : Turns (orNew (fun i => S i ∧ i < w.heap.size) W) W' wF) : TdAt wF (orNew S w) g t ∧ Turns S w wF := by
  have s1 := hb.size; have s2 := hT.size; have s3 := hb2.size
  refine ⟨⟨_, _, _, _, h3.mono (fun k _ e => ?_)⟩, ?_⟩
  · rcases e with e | e
    · rcases e with e | e
      · exact Or.inl e.1
      · exact Or.inr (by omega)
    · exact Or.inr (by omega)
  · refine (((Turns.of_below (S := S) hb).trans (hT.mono (S' := S) (fun i e => e.1)) (fun _ e _ => e)).trans (Turns.of_below (S := S) hb2) (fun _ e _ => e)).trans hT3 (fun i e hi => ?_)
    rcases e with e | e
    · exact e.1
    · omega

set_option maxHeartbeats 4000000 in
set_option maxRecDepth 100000 in
theorem tdAdd_any (w : World) (S : Nat → Prop) (g : Nat) (t : Fm.Td) (k : Int) (pn pf pt : ByteArray) (c : Int) (h : TdAt w S g t) (hk : k ≠ 2) (hl : t.es.length ≤ 90000) :
    Calls Tryz.prog 46 #[.pointer (some ⟨g, 0, none⟩), .agg #[.int .i64 k, .string ⟨#[]⟩, .string ⟨#[]⟩, .int .i64 0, .slice none 0 0, .int .i64 0, .slice none 0 0, .string pn, .string pf, .string pt, .slice none 0 0, .int .i64 c]] w fun e w' => e = .returned (.tuple #[]) ∧ TdAt w' (orNew S w) g (Fm.tell t (bareD k pn pf pt c)) ∧ Turns S w w' := by
  have HE : Hid (Fm.tell t (bareD k pn pf pt c) = ⟨Fm.flush t ++ [bareD k pn pf pt c], []⟩) := by unfold Hid Fm.tell; exact if_neg hk
  have hfl : (Fm.flush t).length ≤ 90001 := by
    unfold Fm.flush Fm.someD
    rw [List.length_append]
    split <;> simp <;> omega
  have HA : Hid (∀ W, TdAt W (fun i => S i ∧ i < w.heap.size) g t → Calls Tryz.prog 47 #[.pointer (some ⟨g, 0, none⟩)] W fun e w' => ∃ ao cap bo bc, e = .returned (.slice ao (Fm.flush t).length cap) ∧ TdRow w' (orNew (fun i => S i ∧ i < w.heap.size) W) g ao cap bo bc ⟨Fm.flush t, []⟩ ∧ Turns (fun i => S i ∧ i < w.heap.size) W w') := fun W hW => tdAll_any W _ g t hW (by omega)
  have h0 : TdAt w (fun i => S i ∧ i < w.heap.size) g t := h.mono (fun i hi e => ⟨e, hi⟩)
  have hb1 : Below w.heap.size w (w.alloc (.cells #[.int .i64 k, .string ⟨#[]⟩, .string ⟨#[]⟩, .int .i64 0, .slice none 0 0, .int .i64 0, .slice none 0 0, .string pn, .string pf, .string pt, .slice none 0 0, .int .i64 c] 54)).drew := ((Below.refl _ w).alloc (Nat.le_refl _) _).trans (below_drew _ _)
  have hb2 : Below w.heap.size w ((w.alloc (.cells #[.int .i64 k, .string ⟨#[]⟩, .string ⟨#[]⟩, .int .i64 0, .slice none 0 0, .int .i64 0, .slice none 0 0, .string pn, .string pf, .string pt, .slice none 0 0, .int .i64 c] 54)).alloc (.cells #[.int .i64 k, .string ⟨#[]⟩, .string ⟨#[]⟩, .int .i64 0, .slice none 0 0, .int .i64 0, .slice none 0 0, .string pn, .string pf, .string pt, .slice none 0 0, .int .i64 c] 54)).drew := (((Below.refl _ w).alloc (Nat.le_refl _) _).alloc (by rw [World.size_alloc]; omega) _).trans (below_drew _ _)
  have HT1 := Hid.mk' (h0.stay hb1); have HT2 := Hid.mk' (h0.stay hb2)
  have HMe : Hid (S g) := by obtain ⟨_, _, _, _, h⟩ := h; exact h.me
  have HB1 := Hid.mk' hb1; have HB2 := Hid.mk' hb2
  have HX1 : Hid (∀ w2, Turns (fun i => S i ∧ i < w.heap.size) (w.alloc (.cells #[.int .i64 k, .string ⟨#[]⟩, .string ⟨#[]⟩, .int .i64 0, .slice none 0 0, .int .i64 0, .slice none 0 0, .string pn, .string pf, .string pt, .slice none 0 0, .int .i64 c] 54)).drew w2 → w2.heap[w.heap.size]? = some (.cells #[.int .i64 k, .string ⟨#[]⟩, .string ⟨#[]⟩, .int .i64 0, .slice none 0 0, .int .i64 0, .slice none 0 0, .string pn, .string pf, .string pt, .slice none 0 0, .int .i64 c] 54 (0, 0))) := fun w2 hT => hT.row (heap_alloc_new w _) (fun e => by have := e.2; omega)
  have HX2 : Hid (∀ w2, Turns (fun i => S i ∧ i < w.heap.size) ((w.alloc (.cells #[.int .i64 k, .string ⟨#[]⟩, .string ⟨#[]⟩, .int .i64 0, .slice none 0 0, .int .i64 0, .slice none 0 0, .string pn, .string pf, .string pt, .slice none 0 0, .int .i64 c] 54)).alloc (.cells #[.int .i64 k, .string ⟨#[]⟩, .string ⟨#[]⟩, .int .i64 0, .slice none 0 0, .int .i64 0, .slice none 0 0, .string pn, .string pf, .string pt, .slice none 0 0, .int .i64 c] 54)).drew w2 → ∀ j u, ((bareD k pn pf pt c).cells ⟨none, 0, none, 0, none, 0⟩)[j]? = some u → w2.cell? (Addr.add ⟨w.heap.size + 1, 0, none⟩ j) = some u) := fun w2 hT j u hu => by
    have h1 : ((w.alloc (.cells #[.int .i64 k, .string ⟨#[]⟩, .string ⟨#[]⟩, .int .i64 0, .slice none 0 0, .int .i64 0, .slice none 0 0, .string pn, .string pf, .string pt, .slice none 0 0, .int .i64 c] 54)).alloc (.cells #[.int .i64 k, .string ⟨#[]⟩, .string ⟨#[]⟩, .int .i64 0, .slice none 0 0, .int .i64 0, .slice none 0 0, .string pn, .string pf, .string pt, .slice none 0 0, .int .i64 c] 54)).drew.heap[w.heap.size + 1]? = some (.cells #[.int .i64 k, .string ⟨#[]⟩, .string ⟨#[]⟩, .int .i64 0, .slice none 0 0, .int .i64 0, .slice none 0 0, .string pn, .string pf, .string pt, .slice none 0 0, .int .i64 c] 54 (0, 0)) := by
      have := heap_alloc_new (w.alloc (.cells #[.int .i64 k, .string ⟨#[]⟩, .string ⟨#[]⟩, .int .i64 0, .slice none 0 0, .int .i64 0, .slice none 0 0, .string pn, .string pf, .string pt, .slice none 0 0, .int .i64 c] 54)) (.cells #[.int .i64 k, .string ⟨#[]⟩, .string ⟨#[]⟩, .int .i64 0, .slice none 0 0, .int .i64 0, .slice none 0 0, .string pn, .string pf, .string pt, .slice none 0 0, .int .i64 c] 54)
      rw [World.size_alloc] at this
      exact this
    have h2 := hT.row h1 (fun e => by have := e.2; omega)
    rw [Addr.add_lit, Nat.zero_add, cell_of_row w2 (w.heap.size + 1) j _ _ _ h2, List.getElem?_toArray]
    exact hu
  have HX3 : Hid (∀ (w2 : World) j u, ((bareD k pn pf pt c).cells ⟨none, 0, none, 0, none, 0⟩)[j]? = some u → (w2.alloc (.cells #[.int .i64 k, .string ⟨#[]⟩, .string ⟨#[]⟩, .int .i64 0, .slice none 0 0, .int .i64 0, .slice none 0 0, .string pn, .string pf, .string pt, .slice none 0 0, .int .i64 c] 54)).cell? (Addr.add ⟨w2.heap.size, 0, none⟩ j) = some u) := fun w2 j u hu => by
    rw [Addr.add_lit, Nat.zero_add, World.cell?_alloc_at _ _ _ _ rfl, List.getElem?_toArray]
    exact hu
  obtain ⟨i0, hi0, hz0, hz1, hz2⟩ := info_parts info_evF
  have Hi := Hid.mk' hi0; have Hz0 := Hid.mk' hz0; have Hz1 := Hid.mk' hz1; have Hz2 := Hid.mk' hz2
  have HFl : Hid ((Fm.flush t).length + 1 ≤ maxLen ∧ ((Fm.flush t).length + 1) * 184 ≤ 140737488355328) := ⟨by unfold maxLen; omega, by omega⟩
  generalize (Fm.flush t) = fl at *
  obtain ⟨n, hn⟩ : ∃ n, fl.length = n := ⟨_, rfl⟩
  rw [hn] at HA HFl
  have HNl := Hid.mk' hn
  clear hi0 hz0 hz1 hz2 h h0 hb1 hb2 hl hfl hn hk
  go_enter Tryz.func46, Tryz.ntmps46
  go_wp2
  go_region_law (first
    | (go_simp; go_at_call 47; refine (HA.out _ HT1.out).mono ?_; rintro e w2 ⟨ao, cap, bo, bc, rfl, hR, hT⟩; have hx := HX1.out _ hT; have x0 : w2.cell? ⟨w.heap.size, 0, none⟩ = _ := cell_of_row w2 _ 0 _ _ _ hx; have x1 : w2.cell? ⟨w.heap.size, 1, none⟩ = _ := cell_of_row w2 _ 1 _ _ _ hx; have x2 : w2.cell? ⟨w.heap.size, 2, none⟩ = _ := cell_of_row w2 _ 2 _ _ _ hx; have x3 : w2.cell? ⟨w.heap.size, 3, none⟩ = _ := cell_of_row w2 _ 3 _ _ _ hx; have x4 : w2.cell? ⟨w.heap.size, 4, none⟩ = _ := cell_of_row w2 _ 4 _ _ _ hx; have x5 : w2.cell? ⟨w.heap.size, 5, none⟩ = _ := cell_of_row w2 _ 5 _ _ _ hx; have x6 : w2.cell? ⟨w.heap.size, 6, none⟩ = _ := cell_of_row w2 _ 6 _ _ _ hx; have x7 : w2.cell? ⟨w.heap.size, 7, none⟩ = _ := cell_of_row w2 _ 7 _ _ _ hx; have x8 : w2.cell? ⟨w.heap.size, 8, none⟩ = _ := cell_of_row w2 _ 8 _ _ _ hx; have x9 : w2.cell? ⟨w.heap.size, 9, none⟩ = _ := cell_of_row w2 _ 9 _ _ _ hx; have x10 : w2.cell? ⟨w.heap.size, 10, none⟩ = _ := cell_of_row w2 _ 10 _ _ _ hx; have x11 : w2.cell? ⟨w.heap.size, 11, none⟩ = _ := cell_of_row w2 _ 11 _ _ _ hx; simp only [List.getElem?_toArray, List.getElem?_cons_zero, List.getElem?_cons_succ] at x0 x1 x2 x3 x4 x5 x6 x7 x8 x9 x10 x11; have HT := Hid.mk' hT; obtain ⟨xs, hOw, hgr⟩ := (hR.stay ((Below.refl _ _).alloc (Nat.le_refl _) (.cells #[.int .i64 k, .string ⟨#[]⟩, .string ⟨#[]⟩, .int .i64 0, .slice none 0 0, .int .i64 0, .slice none 0 0, .string pn, .string pf, .string pt, .slice none 0 0, .int .i64 c] 54))).grow; have HOw := Hid.mk' hOw; have HGr := Hid.mk' hgr; clear hT hx hR hOw hgr)
    | (go_simp; go_at_call 47; refine (HA.out _ HT2.out).mono ?_; rintro e w2 ⟨ao, cap, bo, bc, rfl, hR, hT⟩; have HXc := Hid.mk' (HX2.out _ hT); have HT := Hid.mk' hT; obtain ⟨xs, hOw, hgr⟩ := hR.grow; have HOw := Hid.mk' hOw; have HGr := Hid.mk' hgr; clear hT hR hOw hgr)
    | (refine step_append_lies _ (by rfl) _ _ _ (by rfl) 0 54 i0 (.agg #[.int .i64 0, .string ⟨#[]⟩, .string ⟨#[]⟩, .int .i64 0, .slice none 0 0, .int .i64 0, .slice none 0 0, .string ⟨#[]⟩, .string ⟨#[]⟩, .string ⟨#[]⟩, .slice none 0 0, .int .i64 0]) 12 184 Tryz.underlying49 Hi.out Hz0.out Hz1.out Hz2.out (by rfl) (by decide) (.slice ao n cap) n _ (by rfl) (HNl.out ▸ HOw.out) ⟨w2.heap.size, 0, none⟩ 1 1 ((bareD k pn pf pt c).cells ⟨none, 0, none, 0, none, 0⟩) (by rfl) (by rfl) (HX3.out w2) (cells_one _ _) (by decide) HFl.out.1 HFl.out.2 (Nat.zero_le _) (w2.heap.size + 1) (by simp) ?_; intro g3 cap3 w3 hown3 hgrow hat3 hlt3; rw [ownBlock_slice] at hgrow hat3; have hq := HGr.out g3 cap3 w3 k pn pf pt c (HNl.out.symm ▸ hown3) hgrow (by simpa using hat3); have q0 : w3.cell? ⟨g, 0, none⟩ = _ := cell_of_row w3 g 0 _ _ _ hq.1; have f0 : w3.frozen? ⟨g, 0, none⟩ = false := frozen_of_row w3 g 0 _ _ hq.1; rw [HNl.out] at q0 hq; have HQ := Hid.mk' hq; clear hq hgrow hown3 hat3)
    | (refine step_append_lies _ (by rfl) _ _ _ (by rfl) 0 54 i0 (.agg #[.int .i64 0, .string ⟨#[]⟩, .string ⟨#[]⟩, .int .i64 0, .slice none 0 0, .int .i64 0, .slice none 0 0, .string ⟨#[]⟩, .string ⟨#[]⟩, .string ⟨#[]⟩, .slice none 0 0, .int .i64 0]) 12 184 Tryz.underlying49 Hi.out Hz0.out Hz1.out Hz2.out (by rfl) (by decide) (.slice ao n cap) n _ (by rfl) (HNl.out ▸ HOw.out) ⟨w.heap.size + 1, 0, none⟩ 1 1 ((bareD k pn pf pt c).cells ⟨none, 0, none, 0, none, 0⟩) (by rfl) (by rfl) HXc.out (cells_one _ _) (by decide) HFl.out.1 HFl.out.2 (Nat.zero_le _) w2.heap.size (by rfl) ?_; intro g3 cap3 w3 hown3 hgrow hat3 hlt3; rw [ownBlock_slice] at hgrow hat3; have hq := HGr.out g3 cap3 w3 k pn pf pt c (HNl.out.symm ▸ hown3) hgrow (by simpa using hat3); have q0 : w3.cell? ⟨g, 0, none⟩ = _ := cell_of_row w3 g 0 _ _ _ hq.1; have f0 : w3.frozen? ⟨g, 0, none⟩ = false := frozen_of_row w3 g 0 _ _ hq.1; rw [HNl.out] at q0 hq; have HQ := Hid.mk' hq; clear hq hgrow hown3 hat3))
  all_goals
    go_wp2
    go_end0
    rw [HE.out]
    first
      | exact ⟨rfl, add_done HB1.out HT.out ((Below.refl _ _).alloc (Nat.le_refl _) _) HQ.out.2.1 HQ.out.2.2⟩
      | exact ⟨rfl, add_done HB2.out HT.out (Below.refl _ _) HQ.out.2.1 HQ.out.2.2⟩
end Go.Proofs.YtjpenioloeplgadGreatDoor
