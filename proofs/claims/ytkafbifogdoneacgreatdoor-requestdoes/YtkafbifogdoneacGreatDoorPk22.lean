/- Small texts, one behind the other: RqBody, RqBodyB, RqStep, RqStepC, RqStepD. -/
import Derived.Test.YtkafbifogdoneacGreatDoorRqA
import Derived.Test.YtkafbifogdoneacGreatDoorPk16
/- Package request, walked: a head is given; what reads a body; one byte more of a body; a code. -/
namespace Go.Proofs.YtkafbifogdoneacGreatDoor
open Go.RowKit

set_option maxHeartbeats 800000 in
/-- a byte of a chunk -/
theorem feedCk_own (w : World) (S : Nat → Prop) (g : Nat) (s : Ck.St) (c : UInt8) (h : CkAt w S g s) (hg : Ck.Good s) (h0 : s.code = 0) (h1 : s.ph = 1) :
    Calls Tryz.prog 239 #[.pointer (some ⟨g, 0, none⟩), .int .u8 c.toNat] w fun e w' => e = .returned (.tuple #[.slice (some ⟨w.heap.size, 0, none⟩) 1 1, .bool false, .int .i64 0]) ∧ CkAt w' S g (Ck.next s c) ∧ OwnB w' 0 5 (some ⟨w.heap.size, 0, none⟩) 1 [c] ∧ Turns S w w' := by
  have hp : Ck.pc s = 0 := Ck.pc_zero.2 ⟨h0, by omega⟩
  obtain ⟨gl, nx, lf, rm, fd, ln, r, hk⟩ := h
  obtain ⟨rfl, rfl, rfl, rfl, rfl⟩ := hk hp
  rw [hp] at r
  have hl := hg.left h1
  have hl2 := hg.left_le
  have elf : Ck.lf s = s.left := by unfold Ck.lf; rw [if_pos h1]
  rw [elf] at r
  have enx : Ck.nx s = 1 := by unfold Ck.nx; rw [if_neg (by omega), if_neg (by omega)]
  rw [enx] at r
  have c5 : w.cell? ⟨g, 5, none⟩ = some (.int .i64 0) := r.cell 5 (by decide)
  have c2 : w.cell? ⟨g, 2, none⟩ = some (.int .i64 (s.left : Int)) := r.cell 2 (by decide)
  have f2 : w.frozen? ⟨g, 2, none⟩ = false := r.frozen 2
  have t2 : decide ((s.left : Int) > 0) = true := decide_eq_true (by omega)
  have HR := Hid.mk' (r.left ((s.left : Int) - 1))
  have HT := Hid.mk' (r.turn 2 (.int .i64 ((s.left : Int) - 1)))
  have hn : Ck.next s c = { s with left := s.left - 1, ph := if s.left ≤ 1 then 2 else 1 } := by unfold Ck.next; rw [if_neg (fun e => e h0), if_neg (by omega), if_pos h1]
  have HN := Hid.mk' hn
  have HO : Hid (Ck.out s c = [c]) := by unfold Hid Ck.out; rw [if_pos ⟨h0, h1⟩]
  have HV : Hid (Ck.over s c = false) := by
    unfold Hid Ck.over
    rw [decide_eq_false_iff_not, hn]
    intro e
    have : (if s.left ≤ 1 then 2 else 1) = 4 := e.2.2.2
    split at this <;> omega
  have H0 := Hid.mk' h0; have HL := Hid.mk' hl
  clear r hk hn hg hp elf enx h0 h1 hl
  go_enter Tryz.func239, Tryz.ntmps239
  go_wp2
  go_ret3
  have hb : Below (w.setCell ⟨g, 2, none⟩ (.int .i64 ((s.left : Int) - 1))).heap.size (w.setCell ⟨g, 2, none⟩ (.int .i64 ((s.left : Int) - 1))) ((w.setCell ⟨g, 2, none⟩ (.int .i64 ((s.left : Int) - 1))).alloc (.cells #[.int .u8 (c.toNat : Int)] 5)) := (Below.refl _ _).alloc (Nat.le_refl _) _
  have h0 := H0.out
  have hl := HL.out
  have hz : (w.setCell ⟨g, 2, none⟩ (.int .i64 ((s.left : Int) - 1))).heap.size = w.heap.size := by simp
  refine ⟨by rw [← hz]; rfl, CkAt.of HN.out (HR.out.stay hb) ?_ (fun _ => ⟨rfl, ?_, ?_, rfl, rfl⟩), ?_, HT.out.trans (Turns.of_below hb) (fun _ e _ => e)⟩
  · rw [Ck.pc_zero (s := { s with left := s.left - 1, ph := if s.left ≤ 1 then 2 else 1 }) |>.2 ⟨h0, by show (if s.left ≤ 1 then 2 else 1) ≠ 4; split <;> omega⟩]
  · unfold Ck.nx
    simp only
    split <;> rfl
  · unfold Ck.lf
    simp only
    split
    · rw [if_neg (by omega)]; omega
    · rw [if_pos rfl]; omega
  · rw [← hz]
    exact World.ownsRow_lit _ _ 1 (Nat.zero_le _) (by decide) rfl

theorem give_out (w : World) (g : Nat) (lp hp bd : Value) (wh : Bool) (v0 v1 v2 v3 v4 : Value) (hP : PsAt w g lp hp wh bd 0) :
    (((((((((w.alloc (.cells #[.string ⟨#[]⟩, .string ⟨#[]⟩, .int .i64 0, .slice none 0 0, .int .i64 0] 25)).alloc (.cells #[v0, v1, v2, v3, v4] 25)).setCell ⟨g, 1, none⟩ (.pointer none)).setCell ⟨g, 2, none⟩ (.bool false)).setCell ⟨w.heap.size, 0, none⟩ v0).setCell ⟨w.heap.size, 1, none⟩ v1).setCell ⟨w.heap.size, 2, none⟩ v2).setCell ⟨w.heap.size, 3, none⟩ v3).setCell ⟨w.heap.size, 4, none⟩ v4).heap[w.heap.size]? = some (.cells #[v0, v1, v2, v3, v4] 25 (0, 0)) ∧ PsAt (((((((((w.alloc (.cells #[.string ⟨#[]⟩, .string ⟨#[]⟩, .int .i64 0, .slice none 0 0, .int .i64 0] 25)).alloc (.cells #[v0, v1, v2, v3, v4] 25)).setCell ⟨g, 1, none⟩ (.pointer none)).setCell ⟨g, 2, none⟩ (.bool false)).setCell ⟨w.heap.size, 0, none⟩ v0).setCell ⟨w.heap.size, 1, none⟩ v1).setCell ⟨w.heap.size, 2, none⟩ v2).setCell ⟨w.heap.size, 3, none⟩ v3).setCell ⟨w.heap.size, 4, none⟩ v4) g lp (.pointer none) false bd 0 ∧ Turns (fun k => k = g) w (((((((((w.alloc (.cells #[.string ⟨#[]⟩, .string ⟨#[]⟩, .int .i64 0, .slice none 0 0, .int .i64 0] 25)).alloc (.cells #[v0, v1, v2, v3, v4] 25)).setCell ⟨g, 1, none⟩ (.pointer none)).setCell ⟨g, 2, none⟩ (.bool false)).setCell ⟨w.heap.size, 0, none⟩ v0).setCell ⟨w.heap.size, 1, none⟩ v1).setCell ⟨w.heap.size, 2, none⟩ v2).setCell ⟨w.heap.size, 3, none⟩ v3).setCell ⟨w.heap.size, 4, none⟩ v4) := by
  have hlt := hP.lt
  have hb : Below w.heap.size w ((w.alloc (.cells #[.string ⟨#[]⟩, .string ⟨#[]⟩, .int .i64 0, .slice none 0 0, .int .i64 0] 25)).alloc (.cells #[v0, v1, v2, v3, v4] 25)) := ((Below.refl _ _).alloc (Nat.le_refl _) _).alloc (by simp) _
  have hr0 : ((w.alloc (.cells #[.string ⟨#[]⟩, .string ⟨#[]⟩, .int .i64 0, .slice none 0 0, .int .i64 0] 25)).alloc (.cells #[v0, v1, v2, v3, v4] 25)).heap[w.heap.size]? = some (.cells #[.string ⟨#[]⟩, .string ⟨#[]⟩, .int .i64 0, .slice none 0 0, .int .i64 0] 25 (0, 0)) := by
    rw [(World.grownBy_alloc _ _ none).block _ (by simp) (by simp), heap_alloc_new]
  have hP2 := ((hP.stay hb).s1 (.pointer none)).s2 false
  have hr1 := (heap_setCell_other (((w.alloc (.cells #[.string ⟨#[]⟩, .string ⟨#[]⟩, .int .i64 0, .slice none 0 0, .int .i64 0] 25)).alloc (.cells #[v0, v1, v2, v3, v4] 25)).setCell ⟨g, 1, none⟩ (.pointer none)) ⟨g, 2, none⟩ w.heap.size (.bool false) (by show w.heap.size ≠ g; omega)).trans ((heap_setCell_other ((w.alloc (.cells #[.string ⟨#[]⟩, .string ⟨#[]⟩, .int .i64 0, .slice none 0 0, .int .i64 0] 25)).alloc (.cells #[v0, v1, v2, v3, v4] 25)) ⟨g, 1, none⟩ w.heap.size (.pointer none) (by show w.heap.size ≠ g; omega)).trans hr0)
  have q0 := heap_setCell_same _ _ 0 _ _ v0 hr1
  have q1 := heap_setCell_same _ _ 1 _ _ v1 q0
  have q2 := heap_setCell_same _ _ 2 _ _ v2 q1
  have q3 := heap_setCell_same _ _ 3 _ _ v3 q2
  have q4 := heap_setCell_same _ _ 4 _ _ v4 q3
  have T0 : ∀ (W : World) (j : Nat) (v : Value), Turns (fun k => k = w.heap.size) W (W.setCell ⟨w.heap.size, j, none⟩ v) := fun W j v => Turns.setCell _ W _ _ rfl
  have TT := (T0 ((((w.alloc (.cells #[.string ⟨#[]⟩, .string ⟨#[]⟩, .int .i64 0, .slice none 0 0, .int .i64 0] 25)).alloc (.cells #[v0, v1, v2, v3, v4] 25)).setCell ⟨g, 1, none⟩ (.pointer none)).setCell ⟨g, 2, none⟩ (.bool false)) 0 v0).trans ((T0 _ 1 v1).trans ((T0 _ 2 v2).trans ((T0 _ 3 v3).trans (T0 _ 4 v4) (fun _ e _ => e)) (fun _ e _ => e)) (fun _ e _ => e)) (fun _ e _ => e)
  refine ⟨q4, hP2.turns TT (by omega), ?_⟩
  have TG : ∀ (W : World) (j : Nat) (v : Value), Turns (fun k => k = g) W (W.setCell ⟨g, j, none⟩ v) := fun W j v => Turns.setCell _ W _ _ rfl
  refine (Turns.of_below (S := fun k => k = g) hb).trans (((TG _ 1 _).trans (TG _ 2 _) (fun _ e _ => e)).mono (S' := fun k => k = g ∨ k = w.heap.size) (fun k e => Or.inl e) |>.trans (TT.mono (fun k e => Or.inr e)) (fun _ e _ => e)) (fun k e hk => ?_)
  rcases e with e | e
  · exact e
  · omega

set_option maxHeartbeats 1000000 in
theorem give_any (w : World) (g gh : Nat) (lp bd : Value) (S : Nat → Prop) (h : Rq.Hd) (hP : PsAt w g lp (.pointer (some ⟨gh, 0, none⟩)) true bd 0) (hH : HeadAt w S gh h) (hg : ¬ S g) :
    Calls Tryz.prog 78 #[.pointer (some ⟨g, 0, none⟩)] w fun e w' => ∃ fo fcap, e = .returned (.agg #[.string ⟨h.method.toArray⟩, .string ⟨h.target.toArray⟩, .int .i64 (h.minor : Int), .slice fo h.fields.length fcap, .int .i64 h.length]) ∧ PsAt w' g lp (.pointer none) false bd 0 ∧ IsVS w' S fo fcap h.fields.length (pairV (Rq.flT h.fields)) ∧ Turns (fun k => k = g) w w' := by
  have HPp := Hid.mk' hP
  obtain ⟨fo, fcap, hr, ho, h1, h2⟩ := hH
  have hV : IsVS w S fo fcap h.fields.length (pairV (Rq.flT h.fields)) := ⟨ho.isV, fun _ a e => h2 a e⟩
  have HV := Hid.mk' hV; have HGn := Hid.mk' hg
  have hb1 : Below w.heap.size w (w.alloc (.cells #[.string ⟨#[]⟩, .string ⟨#[]⟩, .int .i64 0, .slice none 0 0, .int .i64 0] 25)) := (Below.refl _ _).alloc (Nat.le_refl _) _
  have hrow := (hb1.block gh (Array.getElem?_eq_some_iff.1 hr).1).trans hr
  have c1 := (hP.stay hb1).c1
  have r0 := cell_of_row _ gh 0 _ _ _ hrow
  have r1 := cell_of_row _ gh 1 _ _ _ hrow
  have r2 := cell_of_row _ gh 2 _ _ _ hrow
  have r3 := cell_of_row _ gh 3 _ _ _ hrow
  have r4 := cell_of_row _ gh 4 _ _ _ hrow
  have hlt := hP.lt
  have n1 : g ≠ w.heap.size := by omega
  have n2 : g ≠ w.heap.size + 1 := by omega
  clear hrow hr ho h1 h2 hV hg hlt
  generalize (⟨h.method.toArray⟩ : ByteArray) = mm at *
  generalize (⟨h.target.toArray⟩ : ByteArray) = tt at *
  generalize h.fields.length = nn at *
  generalize h.length = ll at *
  have hb2 : Below w.heap.size w ((w.alloc (.cells #[.string ⟨#[]⟩, .string ⟨#[]⟩, .int .i64 0, .slice none 0 0, .int .i64 0] 25)).alloc (.cells #[.string mm, .string tt, .int .i64 (h.minor : Int), .slice fo nn fcap, .int .i64 ll] 25)) := hb1.trans ((Below.refl _ _).alloc hb1.size _)
  have p1 := (hP.stay hb2).c1
  have p2 := (hP.stay hb2).c2
  have pf1 := (hP.stay hb2).fz 1
  have pf2 := (hP.stay hb2).fz 2
  have HB2 := Hid.mk' hb2
  clear hP hb1 hb2
  go_enter Tryz.func78, Tryz.ntmps78
  go_wp2
  obtain ⟨o1, o2, o3⟩ := give_out w g lp _ bd _ (.string mm) (.string tt) (.int .i64 (h.minor : Int)) (.slice fo nn fcap) (.int .i64 ll) HPp.out
  revert o1 o2 o3
  generalize (((((((((w.alloc (.cells #[.string ⟨#[]⟩, .string ⟨#[]⟩, .int .i64 0, .slice none 0 0, .int .i64 0] 25)).alloc (.cells #[.string mm, .string tt, .int .i64 (h.minor : Int), .slice fo nn fcap, .int .i64 ll] 25)).setCell ⟨g, 1, none⟩ (.pointer none)).setCell ⟨g, 2, none⟩ (.bool false)).setCell ⟨w.heap.size, 0, none⟩ (.string mm)).setCell ⟨w.heap.size, 1, none⟩ (.string tt)).setCell ⟨w.heap.size, 2, none⟩ (.int .i64 (h.minor : Int))).setCell ⟨w.heap.size, 3, none⟩ (.slice fo nn fcap)).setCell ⟨w.heap.size, 4, none⟩ (.int .i64 ll)) = wf
  intro o1 o2 o3
  have z0 := cell_of_row wf w.heap.size 0 _ _ _ o1
  have z1 := cell_of_row wf w.heap.size 1 _ _ _ o1
  have z2 := cell_of_row wf w.heap.size 2 _ _ _ o1
  have z3 := cell_of_row wf w.heap.size 3 _ _ _ o1
  have z4 := cell_of_row wf w.heap.size 4 _ _ _ o1
  refine bodyPost_ret (v := .agg #[.string mm, .string tt, .int .i64 (h.minor : Int), .slice fo nn fcap, .int .i64 ll]) (by simp [results, Tryz.results78, go_sem, z0, z1, z2, z3, z4]) rfl ⟨fo, fcap, rfl, o2, ?_, o3⟩
  exact HV.out.turns o3 (fun k hk e => HGn.out (e ▸ hk))
end Go.Proofs.YtkafbifogdoneacGreatDoor

/- Package request, walked: what reads a body; one byte more of a body of a known length; a code. -/
namespace Go.Proofs.YtkafbifogdoneacGreatDoor
open Go.RowKit

/-- a parser that failed -/
theorem PsAt.failed {w : World} {g : Nat} {lp hp bd : Value} {wh : Bool} {code : Int} (h : PsAt w g lp hp wh bd code) (c : Int) :
    PsAt (((((w.setCell ⟨g, 0, none⟩ (.pointer none)).setCell ⟨g, 1, none⟩ (.pointer none)).setCell ⟨g, 2, none⟩ (.bool false)).setCell ⟨g, 3, none⟩ .nilIface).setCell ⟨g, 4, none⟩ (.int .i64 c)) g (.pointer none) (.pointer none) false .nilIface c ∧
    Turns (fun k => k = g) w (((((w.setCell ⟨g, 0, none⟩ (.pointer none)).setCell ⟨g, 1, none⟩ (.pointer none)).setCell ⟨g, 2, none⟩ (.bool false)).setCell ⟨g, 3, none⟩ .nilIface).setCell ⟨g, 4, none⟩ (.int .i64 c)) := by
  have TG : ∀ (W : World) (j : Nat) (v : Value), Turns (fun k => k = g) W (W.setCell ⟨g, j, none⟩ v) := fun W j v => Turns.setCell _ W _ _ rfl
  exact ⟨((((h.s0 _).s1 _).s2 _).s3 _).s4 _, (TG _ 0 _).trans ((TG _ 1 _).trans ((TG _ 2 _).trans ((TG _ 3 _).trans (TG _ 4 _) (fun _ e _ => e)) (fun _ e _ => e)) (fun _ e _ => e)) (fun _ e _ => e)⟩

/-- what a code comes to -/
inductive FailOut (w : World) (g : Nat) (So : Nat → Prop) (es : List Rq.Ev) (c : Nat) (e : Ending) (w' : World) : Prop
  | mk (ao : Option Addr) (cap n : Nat) (he : e = .returned (.slice ao n cap)) (hn : n = (Rq.join (es ++ [.fail c])).length) (hO : EvsAt w' (orNew So w) ao cap (Rq.join (es ++ [.fail c]))) (hP : PsAt w' g (.pointer none) (.pointer none) false .nilIface (c : Int)) (hT : Turns (fun k => So k ∨ k = g) w w')

set_option maxHeartbeats 1000000 in
theorem fail_any (w : World) (g : Nat) (lp hp bd : Value) (wh : Bool) (code : Int) (So : Nat → Prop) (ao : Option Addr) (cap n c : Nat) (es : List Rq.Ev) (hP : PsAt w g lp hp wh bd code) (h : EvsAt w So ao cap es) (hg : ¬ So g) (hn : es.length = n) (hl : n ≤ 100000) (hj : Rq.Joined es) (hf : Rq.Full es) (hz : Rq.bsum es ≤ 100000) :
    Calls Tryz.prog 77 #[.pointer (some ⟨g, 0, none⟩), .slice ao n cap, .int .i64 (c : Int)] w fun e w' => FailOut w g So es c e w' := by
  obtain ⟨hP5, hT5⟩ := hP.failed (c : Int)
  have HP5 := Hid.mk' hP5; have HT5 := Hid.mk' hT5
  have HA := Hid.mk' (add_fail _ So ao cap n c es (h.turns hT5 (fun k hk e => hg (e ▸ hk))) hn hl hj hf hz)
  have HGn := Hid.mk' hg
  have c0 := hP.c0; have c1 := hP.c1; have c2 := hP.c2; have c3 := hP.c3; have c4 := hP.c4
  have f0 := hP.fz 0; have f1 := hP.fz 1; have f2 := hP.fz 2; have f3 := hP.fz 3; have f4 := hP.fz 4
  clear hP h hg hn hj hf hz hP5 hT5
  go_enter Tryz.func77, Tryz.ntmps77
  go_wp2_with fail
  refine HA.out.mono ?_
  rintro e w1 ⟨ao1, cap1, n1, rfl, hn1, hO1, hT1⟩
  have HN1 := Hid.mk' hn1; have HO1 := Hid.mk' hO1; have HT1 := Hid.mk' hT1
  clear hn1 hO1 hT1
  go_wp2
  go_ret
  refine .mk ao1 cap1 n1 rfl HN1.out (HO1.out.mono (fun k _ e => ?_)) (HP5.out.turns HT1.out HGn.out) ?_
  · rcases e with e | e | e
    · exact Or.inl e
    · exact e.elim
    · exact Or.inr (by simpa using e)
  · exact (HT5.out.mono (fun k e => Or.inr e)).trans (HT1.out.mono (fun k e => Or.inl e)) (fun _ e _ => e)

theorem counted_out {w : World} {gb left : Nat} {v : Value} {c : UInt8} (hlt : gb < w.heap.size) (hr : (w.setCell ⟨gb, 0, none⟩ v).heap[gb]? = some (.cells #[.int .i64 (left : Int)] 173 (0, 0))) :
    ((w.setCell ⟨gb, 0, none⟩ v).alloc (.cells #[.int .u8 (c.toNat : Int)] 5)).drew.heap[gb]? = some (.cells #[.int .i64 (left : Int)] 173 (0, 0)) ∧ OwnB ((w.setCell ⟨gb, 0, none⟩ v).alloc (.cells #[.int .u8 (c.toNat : Int)] 5)).drew 0 5 (some ⟨w.heap.size, 0, none⟩) 1 [c] ∧ Turns (fun k => k = gb) w ((w.setCell ⟨gb, 0, none⟩ v).alloc (.cells #[.int .u8 (c.toNat : Int)] 5)).drew := by
  have hz : (w.setCell ⟨gb, 0, none⟩ v).heap.size = w.heap.size := by simp
  have hA : Below (w.setCell ⟨gb, 0, none⟩ v).heap.size (w.setCell ⟨gb, 0, none⟩ v) ((w.setCell ⟨gb, 0, none⟩ v).alloc (.cells #[.int .u8 (c.toNat : Int)] 5)).drew := ((Below.refl _ _).alloc (Nat.le_refl _) _).trans ⟨rfl, rfl, rfl, Nat.le_refl _, fun _ _ => rfl⟩
  refine ⟨(hA.block gb (by omega)).trans hr, ?_, (Turns.setCell (fun k => k = gb) w _ _ rfl).trans (Turns.of_below hA) (fun _ e _ => e)⟩
  have h1 : OwnB ((w.setCell ⟨gb, 0, none⟩ v).alloc (.cells #[.int .u8 (c.toNat : Int)] 5)) 0 5 (some ⟨w.heap.size, 0, none⟩) 1 [c] := by
    rw [← hz]; exact World.ownsRow_lit _ _ 1 (Nat.zero_le _) (by decide) rfl
  exact h1.stay (below_drew _ _)

set_option maxHeartbeats 1000000 in
/-- one byte more of a body of a known length -/
theorem counted_any (w : World) (gb left : Nat) (c : UInt8) (hr : w.heap[gb]? = some (.cells #[.int .i64 (left : Int)] 173 (0, 0))) (h0 : 0 < left) (h1 : left ≤ 4000) :
    Calls Tryz.prog 244 #[.pointer (some ⟨gb, 0, none⟩), .int .u8 c.toNat] w fun e w' => e = .returned (.tuple #[.slice (some ⟨w.heap.size, 0, none⟩) 1 1, .bool (decide (left ≤ 1)), .int .i64 0]) ∧ w'.heap[gb]? = some (.cells #[.int .i64 ((left - 1 : Nat) : Int)] 173 (0, 0)) ∧ OwnB w' 0 5 (some ⟨w.heap.size, 0, none⟩) 1 [c] ∧ Turns (fun k => k = gb) w w' := by
  have HR := Hid.mk' hr
  have hlt : gb < w.heap.size := (Array.getElem?_eq_some_iff.1 hr).1
  have c0 : w.cell? ⟨gb, 0, none⟩ = some (.int .i64 (left : Int)) := cell_of_row w gb 0 _ _ _ hr
  have f0 : w.frozen? ⟨gb, 0, none⟩ = false := frozen_of_row w gb 0 _ _ hr
  have tz : ((left : Int) - 1 == 0) = decide (left ≤ 1) := by rw [Bool.eq_iff_iff, beq_iff_eq, decide_eq_true_eq]; omega
  have hr1 := heap_setCell_same w gb 0 _ _ (.int .i64 ((left : Int) - 1)) hr
  have hr1' : (w.setCell ⟨gb, 0, none⟩ (.int .i64 ((left : Int) - 1))).heap[gb]? = some (.cells #[.int .i64 ((left - 1 : Nat) : Int)] 173 (0, 0)) := by
    rw [hr1]
    have : ((left - 1 : Nat) : Int) = (left : Int) - 1 := by omega
    rw [this]; rfl
  have HR1 := Hid.mk' hr1'
  have c1 : (w.setCell ⟨gb, 0, none⟩ (.int .i64 ((left : Int) - 1))).cell? ⟨gb, 0, none⟩ = some (.int .i64 ((left : Int) - 1)) := cell_of_row _ gb 0 _ _ _ hr1
  have c2 : ((w.setCell ⟨gb, 0, none⟩ (.int .i64 ((left : Int) - 1))).alloc (.cells #[.int .u8 (c.toNat : Int)] 5)).cell? ⟨gb, 0, none⟩ = some (.int .i64 ((left : Int) - 1)) := by
    rw [((Below.refl _ _).alloc (Nat.le_refl _) _).cell (p := ⟨gb, 0, none⟩) (by simpa using hlt)]; exact c1
  clear hr hr1 hr1'
  generalize decide (left ≤ 1) = dd at *
  go_enter Tryz.func244, Tryz.ntmps244
  go_wp2
  go_region
  all_goals (go_wp2; go_ret3; exact ⟨rfl, counted_out hlt HR1.out⟩)

/-- what reads a body -/
theorem bodyOf_count (w : World) (k : Nat) (hk : 0 < k) :
    Calls Tryz.prog 79 #[.int .i64 (k : Int)] w fun e w' => e = .returned (.iface 171 (.pointer (some ⟨w.heap.size, 0, none⟩))) ∧ w'.heap[w.heap.size]? = some (.cells #[.int .i64 (k : Int)] 173 (0, 0)) ∧ Below w.heap.size w w' := by
  have t1 : ((k : Int) == -1) = false := beq_eq_false_iff_ne.2 (by omega)
  go_enter Tryz.func79, Tryz.ntmps79
  go_wp2
  go_ret
  exact ⟨rfl, heap_alloc_new w _, (Below.refl _ _).alloc (Nat.le_refl _) _⟩
theorem bodyOf_chunks (w : World) :
    Calls Tryz.prog 79 #[.int .i64 (-1)] w fun e w' => ∃ g, e = .returned (.iface 169 (.pointer (some ⟨g, 0, none⟩))) ∧ CkAt w' (fun k => w.heap.size ≤ k) g Ck.start ∧ Below w.heap.size w w' := by
  go_enter Tryz.func79, Tryz.ntmps79
  go_wp2_with fail
  refine (newChunks_any w).mono ?_
  rintro e w1 ⟨g, rfl, hC, hB⟩
  have HC := Hid.mk' hC; have HB := Hid.mk' hB
  clear hC hB
  go_wp2
  go_ret
  exact ⟨g, rfl, HC.out, HB.out⟩
end Go.Proofs.YtkafbifogdoneacGreatDoor

/- Package request, walked: one byte more of a body. -/
namespace Go.Proofs.YtkafbifogdoneacGreatDoor
open Go.RowKit

/-- what a byte comes to -/
inductive FeedStep (w : World) (S So : Nat → Prop) (g : Nat) (s : Rq.St) (c : UInt8) (es : List Rq.Ev) (e : Ending) (w' : World) : Prop
  | mk (ao : Option Addr) (cap n : Nat) (S' So' : Nat → Prop) (he : e = .returned (.slice ao n cap)) (hn : n = (Rq.join (es ++ (Rq.next s c).2)).length) (hR : ReqAt w' S' g (Rq.next s c).1) (hO : EvsAt w' So' ao cap (Rq.join (es ++ (Rq.next s c).2)))
      (hd : ∀ k, S' k → ¬ So' k) (hS : ∀ k, S' k → S k ∨ w.heap.size ≤ k) (hSo : ∀ k, So' k → S k ∨ So k ∨ w.heap.size ≤ k) (hT : Turns (fun k => S k ∨ So k) w w')

theorem added {es : List Rq.Ev} {e : Rq.Ev} {n m : Nat} (hn : es.length = n) (hm : m = (Rq.join (es ++ [e])).length) (hb : ∀ a, e = .body a → a ≠ [] ∧ a.length ≤ 1) (hf : Rq.Full es) :
    m ≤ n + 1 ∧ Rq.bsum (Rq.join (es ++ [e])) ≤ Rq.bsum es + 1 ∧ Rq.Full (Rq.join (es ++ [e])) ∧ Rq.Joined (Rq.join (es ++ [e])) := by
  have h1 := Rq.join_length (es ++ [e])
  rw [List.length_append] at h1
  refine ⟨by simp at h1; omega, ?_, Rq.join_full _ (Rq.full_append hf (fun a ha => ?_)), Rq.joined_join _⟩
  · rw [Rq.join_bsum, Rq.bsum_append]
    cases e with
    | body a => have := (hb a rfl).2; simp only [Rq.bsum]; omega
    | head _ => simp [Rq.bsum]
    | fin => simp [Rq.bsum]
    | fail _ => simp [Rq.bsum]
  · simp at ha; exact (hb a ha.symm).1
/-- the parser's line stays through it all -/
theorem line_stays {w w1 w2 : World} {A B C : Nat → Prop} {gl : Nat} {l : Ln.St} (h : LineAt w C gl l) (h1 : Turns A w w1) (h2 : Turns B w1 w2) (hA : ∀ k, C k → ¬ A k) (hB : ∀ k, C k → ¬ B k) : LineAt w2 C gl l := (h.turns h1 hA).turns h2 hB

set_option maxRecDepth 100000 in
set_option maxHeartbeats 2000000 in
theorem feedBody_count (w : World) (S So : Nat → Prop) (g : Nat) (s : Rq.St) (c : UInt8) (ao : Option Addr) (cap n : Nat) (es : List Rq.Ev) (h : ReqAt w S g s) (hG : Rq.Good s) (hp : s.ph = 2) (hO : EvsAt w So ao cap es) (hd : ∀ k, S k → ¬ So k) (hn : es.length = n) (hl : n ≤ 90000) (hj : Rq.Joined es) (hf : Rq.Full es) (hz : Rq.bsum es ≤ 90000) :
    Calls Tryz.prog 38 #[.pointer (some ⟨g, 0, none⟩), .slice ao n cap, .int .u8 c.toNat] w fun e w' => FeedStep w S So g s c es e w' := by
  obtain ⟨hg, lp, hpp, bd, code, hP, hI⟩ := h
  cases hI with
  | dead c hc h4 => omega
  | at0 gl h0 L => omega
  | at1 gl gh D h1 L H => omega
  | at3 gl gb D h3 L B => omega
  | at2 gl gb h2 L hb B =>
    obtain ⟨l0, l1⟩ := hG.left hp
    have c3 := hP.c3
    have hgb : gb < w.heap.size := (Array.getElem?_eq_some_iff.1 B).1
    have hglt := hP.lt
    have HC := Hid.mk' (counted_any w gb s.left c B l0 l1)
    have hm : ∀ w, (method 370 171 (.pointer (some ⟨gb, 0, none⟩)) "Feed").run Tryz.prog w = .ok (244, .pointer (some ⟨gb, 0, none⟩)) w := fun _ => by kernel_rfl
    have HX : Hid (ReqAt w S g s ∧ PsAt w g (.pointer (some ⟨gl, 0, none⟩)) (.pointer none) false (.iface 171 (.pointer (some ⟨gb, 0, none⟩))) 0 ∧ LineAt w (fun k => ((S k ∧ k ≠ g) ∧ k ≠ gb) ∧ k < w.heap.size) gl s.ln ∧ (S gb ∧ gb ≠ g) ∧ (∀ k, S k → ¬ So k) ∧ S g) :=
      ⟨⟨hg, _, _, _, _, hP, .at2 gl gb h2 L hb B⟩, hP, L.mono (fun k hk e => ⟨e, hk⟩), hb, hd, hg⟩
    have HOs := Hid.mk' (hO.mono (S' := fun k => So k ∧ k < w.heap.size) (fun k hk e => ⟨e, hk⟩))
    have HE := Hid.mk' (And.intro hn (And.intro hl (And.intro hj (And.intro hf hz))))
    have HLl := Hid.mk' (And.intro l0 l1)
    have hdead : s.ph ≠ 4 := by omega
    have HN : Hid (Rq.next s c = if s.left ≤ 1 then ({ s with ph := 0, left := 0 }, [.body [c], .fin]) else ({ s with left := s.left - 1 }, [.body [c]])) := by
      unfold Hid Rq.next; rw [if_neg hdead, if_pos hp]
    clear hG hj hf hz hO hd L hb B hP hg hn l0 l1 hdead h2
    by_cases hov : s.left ≤ 1
    · rw [decide_eq_true hov] at HC
      have HV := Hid.mk' hov
      clear hov
      go_enter Tryz.func38, Tryz.ntmps38
      go_wp2_with (go_at_call 244; refine HC.out.mono ?_; rintro e w1 ⟨rfl, hB1, hO1, hT1⟩; have HB1 := Hid.mk' hB1; have HO1 := Hid.mk' hO1; have HT1 := Hid.mk' hT1; clear hB1 hO1 hT1)
      obtain ⟨hn, hl, hj, hf, hz⟩ := HE.out
      obtain ⟨_, hP, hL, hb, hd, hg⟩ := HX.out
      have hgrow : GrowB w1 (fun k => k = w.heap.size) 5 (some ⟨w.heap.size, 0, none⟩) 1 [c] := Or.inl ⟨by simp, HO1.out, fun a e => by injection e with e; subst e; rfl⟩
      have hE1 := HOs.out.turns HT1.out (fun k e e2 => hd gb hb.1 (e2 ▸ e.1))
      refine (add_body w1 (fun k => So k ∧ k < w.heap.size) (fun k => k = w.heap.size) ao _ cap n 1 1 [c] es hE1 hgrow (by simp) rfl (by omega) (fun k e e2 => by omega) hn (by omega) hj hf (by omega)).mono ?_
      rintro e w2 ⟨ao2, cap2, n2, rfl, hn2, hO2, hT2⟩
      have hadd := added hn hn2 (fun a e => by injection e with e; subst e; exact ⟨by simp, by simp⟩) hf
      have hP2 : PsAt w2 g _ _ _ _ _ := (hP.turns HT1.out (fun e => hb.2 e.symm)).turns hT2 (fun e => hd g hg e.1)
      have p3 := hP2.c3
      have pf3 := hP2.fz 3
      have HP2 := Hid.mk' hP2; have HO2 := Hid.mk' hO2; have HT2 := Hid.mk' hT2; have HAd := Hid.mk' hadd; have HN2 := Hid.mk' hn2
      clear hn hl hj hf hz hP hL hb hd hg hgrow hE1 hn2 hO2 hT2 hadd hP2 c3
      go_wp2_with fail
      obtain ⟨hn, hl, hj, hf, hz⟩ := HE.out
      obtain ⟨_, hP, hL, hb, hd, hg⟩ := HX.out
      obtain ⟨a1, a2, a3, a4⟩ := HAd.out
      have hs1 := HT1.out.size
      have hs2 := HT2.out.size
      have hTg := Turns.setCell (fun k => k = g) w2 ⟨g, 3, none⟩ .nilIface rfl
      have hE3 := HO2.out.turns hTg (fun k e e2 => by
        subst e2
        rcases e with e | e | e
        · exact hd k hg e.1
        · omega
        · omega)
      refine (add_fin _ _ ao2 cap2 n2 _ hE3 HN2.out.symm (by omega) a4 a3 (by omega)).mono ?_
      rintro e w4 ⟨ao4, cap4, n4, rfl, hn4, hO4, hT4⟩
      have HN4 := Hid.mk' hn4; have HO4 := Hid.mk' hO4; have HT4 := Hid.mk' hT4
      clear hn hl hj hf hz hP hL hb hd hg hTg hE3 hn4 hO4 hT4 a1 a2 a3 a4 hs1 hs2
      go_wp2
      go_ret
      obtain ⟨hn, hl, hj, hf, hz⟩ := HE.out
      obtain ⟨_, hP, hL, hb, hd, hg⟩ := HX.out
      have hs1 := HT1.out.size
      have hs2 := HT2.out.size
      have hz3 : (w2.setCell ⟨g, 3, none⟩ .nilIface).heap.size = w2.heap.size := by simp
      have hN := HN.out
      rw [if_pos HV.out] at hN
      have hj2 : Rq.join (Rq.join (es ++ [.body [c]]) ++ [.fin]) = Rq.join (es ++ (Rq.next s c).2) := by rw [hN]; exact Rq.join_two es [.body [c]] [.fin]
      have hTg := Turns.setCell (fun k => k = g) w2 ⟨g, 3, none⟩ .nilIface rfl
      have hP4 := (HP2.out.s3 .nilIface).turns HT4.out (fun e => by
        rcases e with e | e | e
        · exact hd g hg e.1
        · omega
        · omega)
      have hL4 := ((line_stays hL HT1.out HT2.out (fun k e => e.1.2) (fun k e e2 => hd k e.1.1.1 e2.1)).turns hTg (fun k e => e.1.1.2)).turns HT4.out (fun k e e2 => by
        rcases e2 with e2 | e2 | e2
        · exact hd k e.1.1.1 e2.1
        · have := e.2; omega
        · have := e.2; omega)
      refine .mk ao4 cap4 n4 (fun k => S k ∧ k < w.heap.size) _ rfl (by rw [← hj2]; exact HN4.out) ?_ (by rw [← hj2]; exact HO4.out) ?_ (fun k e => Or.inl e.1) ?_ ?_
      · rw [hN]
        exact ⟨⟨hg, hglt⟩, _, _, _, _, hP4, .at0 gl rfl (hL4.mono (fun k _ e => ⟨⟨e.1.1.1, e.2⟩, e.1.1.2⟩))⟩
      · intro k e e2
        rcases e2 with (e2 | e2 | e2) | e2 | e2
        · exact hd k e.1 e2.1
        · omega
        · omega
        · exact e2
        · omega
      · intro k e
        rcases e with (e | e | e) | e | e
        · exact Or.inr (Or.inl e.1)
        · exact Or.inr (Or.inr (by omega))
        · exact Or.inr (Or.inr (by omega))
        · exact e.elim
        · exact Or.inr (Or.inr (by omega))
      · refine (HT1.out.mono (fun k e => by rw [e]; exact Or.inl hb.1)).trans ((HT2.out.mono (S' := fun k => (S k ∨ So k) ∨ w.heap.size ≤ k) (fun k e => Or.inl (Or.inr e.1))).trans ((hTg.mono (fun k e => by rw [e]; exact Or.inl (Or.inl hg))).trans (HT4.out.mono (fun k e => ?_)) (fun _ e _ => e)) (fun _ e _ => e)) (fun k e hk => ?_)
        · rcases e with e | e | e
          · exact Or.inl (Or.inr e.1)
          · exact Or.inr (by omega)
          · exact Or.inr (by omega)
        · rcases e with e | e
          · exact e
          · omega
    · rw [decide_eq_false hov] at HC
      have HV := Hid.mk' hov
      clear hov
      go_enter Tryz.func38, Tryz.ntmps38
      go_wp2_with (go_at_call 244; refine HC.out.mono ?_; rintro e w1 ⟨rfl, hB1, hO1, hT1⟩; have HB1 := Hid.mk' hB1; have HO1 := Hid.mk' hO1; have HT1 := Hid.mk' hT1; clear hB1 hO1 hT1)
      obtain ⟨hn, hl, hj, hf, hz⟩ := HE.out
      obtain ⟨_, hP, hL, hb, hd, hg⟩ := HX.out
      have hgrow : GrowB w1 (fun k => k = w.heap.size) 5 (some ⟨w.heap.size, 0, none⟩) 1 [c] := Or.inl ⟨by simp, HO1.out, fun a e => by injection e with e; subst e; rfl⟩
      have hE1 := HOs.out.turns HT1.out (fun k e e2 => hd gb hb.1 (e2 ▸ e.1))
      refine (add_body w1 (fun k => So k ∧ k < w.heap.size) (fun k => k = w.heap.size) ao _ cap n 1 1 [c] es hE1 hgrow (by simp) rfl (by omega) (fun k e e2 => by omega) hn (by omega) hj hf (by omega)).mono ?_
      rintro e w2 ⟨ao2, cap2, n2, rfl, hn2, hO2, hT2⟩
      have HO2 := Hid.mk' hO2; have HT2 := Hid.mk' hT2; have HN2 := Hid.mk' hn2
      clear hn hl hj hf hz hP hL hb hd hg hgrow hE1 hn2 hO2 hT2 c3
      go_wp2
      go_ret
      obtain ⟨hn, hl, hj, hf, hz⟩ := HE.out
      obtain ⟨_, hP, hL, hb, hd, hg⟩ := HX.out
      have hs1 := HT1.out.size
      have hN := HN.out
      rw [if_neg HV.out] at hN
      have hP2 := (hP.turns HT1.out (fun e => hb.2 e.symm)).turns HT2.out (fun e => hd g hg e.1)
      have hB2 := HT2.out.row HB1.out (fun e => hd gb hb.1 e.1)
      have hL2 := line_stays hL HT1.out HT2.out (fun k e => e.1.2) (fun k e e2 => hd k e.1.1.1 e2.1)
      refine .mk ao2 cap2 n2 (fun k => S k ∧ k < w.heap.size) _ rfl (by rw [hN]; exact HN2.out) ?_ (by rw [hN]; exact HO2.out) ?_ (fun k e => Or.inl e.1) ?_ ?_
      · rw [hN]
        exact ⟨⟨hg, hglt⟩, _, _, _, _, hP2, .at2 gl gb hp (hL2.mono (fun k _ e => ⟨⟨⟨e.1.1.1, e.2⟩, e.1.1.2⟩, e.1.2⟩)) ⟨⟨hb.1, hgb⟩, hb.2⟩ hB2⟩
      · intro k e e2
        rcases e2 with e2 | e2 | e2
        · exact hd k e.1 e2.1
        · omega
        · omega
      · intro k e
        rcases e with e | e | e
        · exact Or.inr (Or.inl e.1)
        · exact Or.inr (Or.inr (by omega))
        · exact Or.inr (Or.inr (by omega))
      · exact (HT1.out.mono (fun k e => by rw [e]; exact Or.inl hb.1)).trans (HT2.out.mono (fun k e => Or.inr e.1)) (fun _ e _ => e)
end Go.Proofs.YtkafbifogdoneacGreatDoor

/- Package request, walked: one byte more of a body in chunks. -/
namespace Go.Proofs.YtkafbifogdoneacGreatDoor
open Go.RowKit

set_option maxRecDepth 100000 in
set_option maxHeartbeats 2000000 in
/-- a byte of a chunk -/
theorem feedBody_byte (w : World) (S So : Nat → Prop) (g : Nat) (s : Rq.St) (c : UInt8) (ao : Option Addr) (cap n : Nat) (es : List Rq.Ev) (h : ReqAt w S g s) (hG : Rq.Good s) (hp : s.ph = 3) (hk1 : s.ck.ph = 1) (hO : EvsAt w So ao cap es) (hd : ∀ k, S k → ¬ So k) (hn : es.length = n) (hl : n ≤ 90000) (hj : Rq.Joined es) (hf : Rq.Full es) (hz : Rq.bsum es ≤ 90000) :
    Calls Tryz.prog 38 #[.pointer (some ⟨g, 0, none⟩), .slice ao n cap, .int .u8 c.toNat] w fun e w' => FeedStep w S So g s c es e w' := by
  obtain ⟨hg, lp, hpp, bd, code, hP, hI⟩ := h
  cases hI with
  | dead c hc h4 => omega
  | at0 gl h0 L => omega
  | at1 gl gh D h1 L H => omega
  | at2 gl gb h2 L hb B => omega
  | at3 gl gb D h3 L B =>
    obtain ⟨kg, k0, k4⟩ := hG.ck hp
    have c3 := hP.c3
    have hglt := hP.lt
    have HC := Hid.mk' (feedCk_own w (fun k => ((S k ∧ k ≠ g) ∧ D k) ∧ k < w.heap.size) gb s.ck c (B.mono (fun k hk e => ⟨e, hk⟩)) kg k0 hk1)
    have hm : ∀ w, (method 370 169 (.pointer (some ⟨gb, 0, none⟩)) "Feed").run Tryz.prog w = .ok (239, .pointer (some ⟨gb, 0, none⟩)) w := fun _ => by kernel_rfl
    have hnx : Ck.next s.ck c = { s.ck with left := s.ck.left - 1, ph := if s.ck.left ≤ 1 then 2 else 1 } := by unfold Ck.next; rw [if_neg (fun e => e k0), if_neg (by omega), if_pos hk1]
    have HN : Hid (Rq.next s c = ({ s with ck := Ck.next s.ck c }, [.body [c]])) := by
      unfold Hid Rq.next
      rw [if_neg (by omega), if_neg (by omega), if_pos hp, if_neg (by rw [hnx]; exact fun e => e k0), if_neg (by rw [hnx]; show ¬ (if s.ck.left ≤ 1 then 2 else 1) = 4; split <;> omega)]
      have ho : Ck.out s.ck c = [c] := by unfold Ck.out; rw [if_pos ⟨k0, hk1⟩]
      rw [ho]
      unfold Rq.some_
      rw [if_neg (by simp)]
    have HX : Hid (PsAt w g (.pointer (some ⟨gl, 0, none⟩)) (.pointer none) false (.iface 169 (.pointer (some ⟨gb, 0, none⟩))) 0 ∧ LineAt w (fun k => ((S k ∧ k ≠ g) ∧ ¬ D k) ∧ k < w.heap.size) gl s.ln ∧ (∀ k, S k → ¬ So k) ∧ S g) :=
      ⟨hP, L.mono (fun k hk e => ⟨e, hk⟩), hd, hg⟩
    have HOs := Hid.mk' (hO.mono (S' := fun k => So k ∧ k < w.heap.size) (fun k hk e => ⟨e, hk⟩))
    have HE := Hid.mk' (And.intro hn (And.intro hl (And.intro hj (And.intro hf hz))))
    clear hG hj hf hz hO hd L B hP hg hn kg k0 k4 hnx h3
    go_enter Tryz.func38, Tryz.ntmps38
    go_wp2_with (go_at_call 239; refine HC.out.mono ?_; rintro e w1 ⟨rfl, hB1, hO1, hT1⟩; have HB1 := Hid.mk' hB1; have HO1 := Hid.mk' hO1; have HT1 := Hid.mk' hT1; clear hB1 hO1 hT1)
    obtain ⟨hn, hl, hj, hf, hz⟩ := HE.out
    obtain ⟨hP, hL, hd, hg⟩ := HX.out
    have hgrow : GrowB w1 (fun k => k = w.heap.size) 5 (some ⟨w.heap.size, 0, none⟩) 1 [c] := Or.inl ⟨by simp, HO1.out, fun a e => by injection e with e; subst e; rfl⟩
    have hE1 := HOs.out.turns HT1.out (fun k e e2 => hd k e2.1.1.1 e.1)
    refine (add_body w1 (fun k => So k ∧ k < w.heap.size) (fun k => k = w.heap.size) ao _ cap n 1 1 [c] es hE1 hgrow (by simp) rfl (by omega) (fun k e e2 => by omega) hn (by omega) hj hf (by omega)).mono ?_
    rintro e w2 ⟨ao2, cap2, n2, rfl, hn2, hO2, hT2⟩
    have HO2 := Hid.mk' hO2; have HT2 := Hid.mk' hT2; have HN2 := Hid.mk' hn2
    clear hn hl hj hf hz hP hL hd hg hgrow hE1 hn2 hO2 hT2 c3
    go_wp2
    go_ret
    obtain ⟨hn, hl, hj, hf, hz⟩ := HE.out
    obtain ⟨hP, hL, hd, hg⟩ := HX.out
    have hs1 := HT1.out.size
    have hN := HN.out
    have hP2 := (hP.turns HT1.out (fun e => e.1.1.2 rfl)).turns HT2.out (fun e => hd g hg e.1)
    have hL2 := line_stays hL HT1.out HT2.out (fun k e e2 => e.1.2 e2.1.2) (fun k e e2 => hd k e.1.1.1 e2.1)
    have hB2 := (HB1.out.turns HT2.out (fun k e e2 => hd k e.1.1.1 e2.1))
    refine .mk ao2 cap2 n2 (fun k => S k ∧ k < w.heap.size) _ rfl (by rw [hN]; exact HN2.out) ?_ (by rw [hN]; exact HO2.out) ?_ (fun k e => Or.inl e.1) ?_ ?_
    · rw [hN]
      exact ⟨⟨hg, hglt⟩, _, _, _, _, hP2, .at3 gl gb D hp (hL2.mono (fun k _ e => ⟨⟨⟨e.1.1.1, e.2⟩, e.1.1.2⟩, e.1.2⟩)) (hB2.mono (fun k _ e => ⟨⟨⟨e.1.1.1, e.2⟩, e.1.1.2⟩, e.1.2⟩))⟩
    · intro k e e2
      rcases e2 with e2 | e2 | e2
      · exact hd k e.1 e2.1
      · omega
      · omega
    · intro k e
      rcases e with e | e | e
      · exact Or.inr (Or.inl e.1)
      · exact Or.inr (Or.inr (by omega))
      · exact Or.inr (Or.inr (by omega))
    · exact (HT1.out.mono (fun k e => Or.inl e.1.1.1)).trans (HT2.out.mono (fun k e => Or.inr e.1)) (fun _ e _ => e)
end Go.Proofs.YtkafbifogdoneacGreatDoor

/- Package request, walked: one byte more of a body in chunks that brings no byte of it. -/
namespace Go.Proofs.YtkafbifogdoneacGreatDoor
open Go.RowKit

set_option maxRecDepth 100000 in
set_option maxHeartbeats 2000000 in
theorem feedBody_line (w : World) (S So : Nat → Prop) (g : Nat) (s : Rq.St) (c : UInt8) (ao : Option Addr) (cap n : Nat) (es : List Rq.Ev) (h : ReqAt w S g s) (hG : Rq.Good s) (hp : s.ph = 3) (hk1 : s.ck.ph ≠ 1) (hO : EvsAt w So ao cap es) (hd : ∀ k, S k → ¬ So k) (hn : es.length = n) (hl : n ≤ 90000) (hj : Rq.Joined es) (hf : Rq.Full es) (hz : Rq.bsum es ≤ 90000) :
    Calls Tryz.prog 38 #[.pointer (some ⟨g, 0, none⟩), .slice ao n cap, .int .u8 c.toNat] w fun e w' => FeedStep w S So g s c es e w' := by
  obtain ⟨hg, lp, hpp, bd, code, hP, hI⟩ := h
  cases hI with
  | dead c hc h4 => omega
  | at0 gl h0 L => omega
  | at1 gl gh D h1 L H => omega
  | at2 gl gb h2 L hb B => omega
  | at3 gl gb D h3 L B =>
    obtain ⟨kg, k0, k4⟩ := hG.ck hp
    have c3 := hP.c3
    have hglt := hP.lt
    have hC := feedChunks_any w (fun k => ((S k ∧ k ≠ g) ∧ D k) ∧ k < w.heap.size) gb s.ck c (B.mono (fun k hk e => ⟨e, hk⟩)) kg
    have ho : Ck.out s.ck c = [] := by unfold Ck.out; rw [if_neg (fun e => hk1 e.2)]
    have hov : Ck.over s.ck c = decide ((Ck.next s.ck c).code = 0 ∧ (Ck.next s.ck c).ph = 4) := by unfold Ck.over; rw [decide_eq_decide]; exact ⟨fun e => ⟨e.2.2.1, e.2.2.2⟩, fun e => ⟨k0, k4, e.1, e.2⟩⟩
    have hC2 : Calls Tryz.prog 239 #[.pointer (some ⟨gb, 0, none⟩), .int .u8 c.toNat] w fun e w' => ∃ bo bc, e = .returned (.tuple #[.slice bo 0 bc, .bool (decide ((Ck.next s.ck c).code = 0 ∧ (Ck.next s.ck c).ph = 4)), .int .i64 ((Ck.next s.ck c).code : Int)]) ∧ CkAt w' (orNew (fun k => ((S k ∧ k ≠ g) ∧ D k) ∧ k < w.heap.size) w) gb (Ck.next s.ck c) ∧ Turns (fun k => ((S k ∧ k ≠ g) ∧ D k) ∧ k < w.heap.size) w w' := by
      refine hC.mono ?_
      rintro e w' ⟨bo, bc, he, _, hC', hT'⟩
      refine ⟨bo, bc, ?_, hC', hT'⟩
      rw [he, ho, hov]; rfl
    have hm : ∀ w, (method 370 169 (.pointer (some ⟨gb, 0, none⟩)) "Feed").run Tryz.prog w = .ok (239, .pointer (some ⟨gb, 0, none⟩)) w := fun _ => by kernel_rfl
    have hN : Rq.next s c = if (Ck.next s.ck c).code ≠ 0 then (Rq.dead s, [.fail (Ck.next s.ck c).code]) else if (Ck.next s.ck c).ph = 4 then ({ s with ph := 0 }, [.fin]) else ({ s with ck := Ck.next s.ck c }, []) := by
      unfold Rq.next
      rw [if_neg (by omega), if_neg (by omega), if_pos hp, ho]
      rfl
    have HX : Hid (PsAt w g (.pointer (some ⟨gl, 0, none⟩)) (.pointer none) false (.iface 169 (.pointer (some ⟨gb, 0, none⟩))) 0 ∧ LineAt w (fun k => ((S k ∧ k ≠ g) ∧ ¬ D k) ∧ k < w.heap.size) gl s.ln ∧ (∀ k, S k → ¬ So k) ∧ S g) :=
      ⟨hP, L.mono (fun k hk e => ⟨e, hk⟩), hd, hg⟩
    have HOs := Hid.mk' (hO.mono (S' := fun k => So k ∧ k < w.heap.size) (fun k hk e => ⟨e, hk⟩))
    have HE := Hid.mk' (And.intro hn (And.intro hl (And.intro hj (And.intro hf hz))))
    have HC := Hid.mk' hC2
    clear hG hj hf hz hO hd L B hP hg hn kg k0 k4 h3 hC hC2 ho hov hk1
    generalize Ck.next s.ck c = ck' at *
    by_cases hc0 : ck'.code = 0
    · rw [if_neg (fun e => e hc0)] at hN
      by_cases h4 : ck'.ph = 4
      · rw [if_pos h4] at hN
        rw [decide_eq_true ⟨hc0, h4⟩, hc0] at HC
        have HN := Hid.mk' hN
        clear hN hc0 h4
        go_enter Tryz.func38, Tryz.ntmps38
        go_wp2_with (go_at_call 239; refine HC.out.mono ?_; rintro e w1 ⟨bo, bc, rfl, hB1, hT1⟩; have hP1 := HX.out.1.turns hT1 (fun e => e.1.1.2 rfl); have p3 := hP1.c3; have pf3 := hP1.fz 3; have HP1 := Hid.mk' hP1; have HT1 := Hid.mk' hT1; clear hB1 hT1 hP1)
        obtain ⟨hn, hl, hj, hf, hz⟩ := HE.out
        obtain ⟨hP, hL, hd, hg⟩ := HX.out
        have hTg := Turns.setCell (fun k => k = g) w1 ⟨g, 3, none⟩ .nilIface rfl
        have hE1 := (HOs.out.turns HT1.out (fun k e e2 => hd k e2.1.1.1 e.1)).turns hTg (fun k e e2 => hd g hg (e2 ▸ e.1))
        refine (add_fin _ _ ao cap n _ hE1 hn (by omega) hj hf (by omega)).mono ?_
        rintro e w4 ⟨ao4, cap4, n4, rfl, hn4, hO4, hT4⟩
        have HN4 := Hid.mk' hn4; have HO4 := Hid.mk' hO4; have HT4 := Hid.mk' hT4
        clear hn hl hj hf hz hP hL hd hg hTg hE1 hn4 hO4 hT4
        go_wp2
        go_ret
        obtain ⟨hP, hL, hd, hg⟩ := HX.out
        have hs1 := HT1.out.size
        have hz3 : (w1.setCell ⟨g, 3, none⟩ .nilIface).heap.size = w1.heap.size := by simp
        have hTg := Turns.setCell (fun k => k = g) w1 ⟨g, 3, none⟩ .nilIface rfl
        have hP4 := (HP1.out.s3 .nilIface).turns HT4.out (fun e => hd g hg e.1)
        have hL4 := ((hL.turns HT1.out (fun k e e2 => e.1.2 e2.1.2)).turns hTg (fun k e => e.1.1.2)).turns HT4.out (fun k e e2 => hd k e.1.1.1 e2.1)
        refine .mk ao4 cap4 n4 (fun k => S k ∧ k < w.heap.size) _ rfl (by rw [HN.out]; exact HN4.out) ?_ (by rw [HN.out]; exact HO4.out) ?_ (fun k e => Or.inl e.1) ?_ ?_
        · rw [HN.out]
          exact ⟨⟨hg, hglt⟩, _, _, _, _, hP4, .at0 gl rfl (hL4.mono (fun k _ e => ⟨⟨e.1.1.1, e.2⟩, e.1.1.2⟩))⟩
        · intro k e e2
          rcases e2 with e2 | e2 | e2
          · exact hd k e.1 e2.1
          · exact e2
          · omega
        · intro k e
          rcases e with e | e | e
          · exact Or.inr (Or.inl e.1)
          · exact e.elim
          · exact Or.inr (Or.inr (by omega))
        · exact (HT1.out.mono (fun k e => Or.inl e.1.1.1)).trans ((hTg.mono (fun k e => by rw [e]; exact Or.inl hg)).trans (HT4.out.mono (fun k e => Or.inr e.1)) (fun _ e _ => e)) (fun _ e _ => e)
      · rw [if_neg h4] at hN
        rw [decide_eq_false (fun e => h4 e.2), hc0] at HC
        have HN := Hid.mk' hN
        clear hN hc0 h4
        go_enter Tryz.func38, Tryz.ntmps38
        go_wp2_with (go_at_call 239; refine HC.out.mono ?_; rintro e w1 ⟨bo, bc, rfl, hB1, hT1⟩; have HB1 := Hid.mk' hB1; have HT1 := Hid.mk' hT1; clear hB1 hT1)
        go_ret
        obtain ⟨hn, hl, hj, hf, hz⟩ := HE.out
        obtain ⟨hP, hL, hd, hg⟩ := HX.out
        have hs1 := HT1.out.size
        have hej : Rq.join (es ++ (Rq.next s c).2) = es := by rw [HN.out, List.append_nil]; exact Rq.join_of_joined es hj
        refine .mk ao cap n (fun k => (S k ∧ k < w.heap.size) ∨ w.heap.size ≤ k) (fun k => So k ∧ k < w.heap.size) rfl (by rw [hej]; exact hn.symm) ?_ (by rw [hej]; exact HOs.out.turns HT1.out (fun k e e2 => hd k e2.1.1.1 e.1)) ?_ ?_ (fun k e => Or.inr (Or.inl e.1)) (HT1.out.mono (fun k e => Or.inl e.1.1.1))
        · rw [HN.out]
          refine ⟨Or.inl ⟨hg, hglt⟩, _, _, _, _, hP.turns HT1.out (fun e => e.1.1.2 rfl), .at3 gl gb (fun k => D k ∨ w.heap.size ≤ k) hp ((hL.turns HT1.out (fun k e e2 => e.1.2 e2.1.2)).mono (fun k _ e => ⟨⟨Or.inl ⟨e.1.1.1, e.2⟩, e.1.1.2⟩, fun e2 => ?_⟩)) (HB1.out.mono (fun k _ e => ?_))⟩
          · rcases e2 with e2 | e2
            · exact e.1.2 e2
            · have := e.2; omega
          · rcases e with e | e
            · exact ⟨⟨Or.inl ⟨e.1.1.1, e.2⟩, e.1.1.2⟩, Or.inl e.1.2⟩
            · exact ⟨⟨Or.inr e, by omega⟩, Or.inr e⟩
        · intro k e e2
          rcases e with e | e
          · exact hd k e.1 e2.1
          · omega
        · intro k e
          rcases e with e | e
          · exact Or.inl e.1
          · exact Or.inr e
    · rw [if_pos hc0] at hN
      rw [decide_eq_false (fun e => hc0 e.1)] at HC
      have HN := Hid.mk' hN
      have tc : ((ck'.code : Int) != 0) = true := by rw [bne_iff_ne]; omega
      have HCn := Hid.mk' hc0
      clear hN hc0
      generalize ck'.code = cc at *
      go_enter Tryz.func38, Tryz.ntmps38
      go_wp2_with (go_at_call 239; refine HC.out.mono ?_; rintro e w1 ⟨bo, bc, rfl, hB1, hT1⟩; have HT1 := Hid.mk' hT1; clear hB1 hT1)
      obtain ⟨hn, hl, hj, hf, hz⟩ := HE.out
      obtain ⟨hP, hL, hd, hg⟩ := HX.out
      refine (fail_any w1 g _ _ _ _ _ (fun k => So k ∧ k < w.heap.size) ao cap n cc es (hP.turns HT1.out (fun e => e.1.1.2 rfl)) (HOs.out.turns HT1.out (fun k e e2 => hd k e2.1.1.1 e.1)) (fun e => hd g hg e.1) hn (by omega) hj hf (by omega)).mono ?_
      rintro e w2 ⟨ao2, cap2, n2, rfl, hn2, hO2, hP2, hT2⟩
      have HN2 := Hid.mk' hn2; have HO2 := Hid.mk' hO2; have HP2 := Hid.mk' hP2; have HT2 := Hid.mk' hT2
      clear hn hl hj hf hz hP hL hd hg hn2 hO2 hP2 hT2
      go_wp2
      go_ret
      obtain ⟨hP, hL, hd, hg⟩ := HX.out
      have hs1 := HT1.out.size
      refine .mk ao2 cap2 n2 (fun k => k = g) _ rfl (by rw [HN.out]; exact HN2.out) ?_ (by rw [HN.out]; exact HO2.out) ?_ (fun k e => by rw [e]; exact Or.inl hg) ?_ ?_
      · rw [HN.out]
        exact ⟨rfl, _, _, _, _, HP2.out, .dead cc HCn.out rfl⟩
      · intro k e e2
        subst e
        rcases e2 with e2 | e2
        · exact hd k hg e2.1
        · omega
      · intro k e
        rcases e with e | e
        · exact Or.inr (Or.inl e.1)
        · exact Or.inr (Or.inr (by omega))
      · refine (HT1.out.mono (fun k e => Or.inl e.1.1.1)).trans (HT2.out.mono (fun k e => ?_)) (fun _ e _ => e)
        rcases e with e | e
        · exact Or.inr e.1
        · rw [e]; exact Or.inl hg
end Go.Proofs.YtkafbifogdoneacGreatDoor
