/- A reader of requests as it lies in memory; New, Dead walked. -/
import Derived.Test.YtkafbifogdoneacGreatDoorPk20
import Derived.Test.YtkafbifogdoneacGreatDoorFlB
namespace Go.Proofs.YtkafbifogdoneacGreatDoor
open Go.RowKit

/-- block g is a parser whose cells are these -/
structure PsAt (w : World) (g : Nat) (lp hp : Value) (wh : Bool) (bd : Value) (code : Int) : Prop where
  row : w.heap[g]? = some (.cells #[lp, hp, .bool wh, bd, .int .i64 code] 79 (0, 0))
section
variable {w w' : World} {g : Nat} {lp hp bd : Value} {wh : Bool} {code : Int}
theorem PsAt.lt (h : PsAt w g lp hp wh bd code) : g < w.heap.size := (Array.getElem?_eq_some_iff.1 h.row).1
theorem PsAt.c0 (h : PsAt w g lp hp wh bd code) : w.cell? ⟨g, 0, none⟩ = some lp := cell_of_row w g 0 _ _ _ h.row
theorem PsAt.c1 (h : PsAt w g lp hp wh bd code) : w.cell? ⟨g, 1, none⟩ = some hp := cell_of_row w g 1 _ _ _ h.row
theorem PsAt.c2 (h : PsAt w g lp hp wh bd code) : w.cell? ⟨g, 2, none⟩ = some (.bool wh) := cell_of_row w g 2 _ _ _ h.row
theorem PsAt.c3 (h : PsAt w g lp hp wh bd code) : w.cell? ⟨g, 3, none⟩ = some bd := cell_of_row w g 3 _ _ _ h.row
theorem PsAt.c4 (h : PsAt w g lp hp wh bd code) : w.cell? ⟨g, 4, none⟩ = some (.int .i64 code) := cell_of_row w g 4 _ _ _ h.row
theorem PsAt.fz (h : PsAt w g lp hp wh bd code) (j : Nat) : w.frozen? ⟨g, j, none⟩ = false := frozen_of_row w g j _ _ h.row
theorem PsAt.stay (h : PsAt w g lp hp wh bd code) (hb : Below w.heap.size w w') : PsAt w' g lp hp wh bd code := ⟨(hb.block g h.lt).trans h.row⟩
theorem PsAt.turns {S : Nat → Prop} (h : PsAt w g lp hp wh bd code) (ht : Turns S w w') (hs : ¬ S g) : PsAt w' g lp hp wh bd code := ⟨ht.row h.row hs⟩
theorem PsAt.s0 (h : PsAt w g lp hp wh bd code) (v : Value) : PsAt (w.setCell ⟨g, 0, none⟩ v) g v hp wh bd code := ⟨by rw [heap_setCell_same w g 0 _ _ _ h.row]; rfl⟩
theorem PsAt.s1 (h : PsAt w g lp hp wh bd code) (v : Value) : PsAt (w.setCell ⟨g, 1, none⟩ v) g lp v wh bd code := ⟨by rw [heap_setCell_same w g 1 _ _ _ h.row]; rfl⟩
theorem PsAt.s2 (h : PsAt w g lp hp wh bd code) (v : Bool) : PsAt (w.setCell ⟨g, 2, none⟩ (.bool v)) g lp hp v bd code := ⟨by rw [heap_setCell_same w g 2 _ _ _ h.row]; rfl⟩
theorem PsAt.s3 (h : PsAt w g lp hp wh bd code) (v : Value) : PsAt (w.setCell ⟨g, 3, none⟩ v) g lp hp wh v code := ⟨by rw [heap_setCell_same w g 3 _ _ _ h.row]; rfl⟩
theorem PsAt.s4 (h : PsAt w g lp hp wh bd code) (v : Int) : PsAt (w.setCell ⟨g, 4, none⟩ (.int .i64 v)) g lp hp wh bd v := ⟨by rw [heap_setCell_same w g 4 _ _ _ h.row]; rfl⟩
end
/-- block gh is a head that is read; it and its fields are among the blocks S -/
def HeadAt (w : World) (S : Nat → Prop) (gh : Nat) (h : Rq.Hd) : Prop :=
  ∃ fo fcap, w.heap[gh]? = some (.cells #[.string ⟨h.method.toArray⟩, .string ⟨h.target.toArray⟩, .int .i64 (h.minor : Int), .slice fo h.fields.length fcap, .int .i64 h.length] 25 (0, 0)) ∧
    OwnV w 0 51 2 fo fcap h.fields.length (pairV (Rq.flT h.fields)) ∧ S gh ∧ ∀ a, fo = some a → S a.block
theorem HeadAt.lt {w : World} {S : Nat → Prop} {gh : Nat} {h : Rq.Hd} (k : HeadAt w S gh h) : gh < w.heap.size := by
  obtain ⟨_, _, hg, _⟩ := k; exact (Array.getElem?_eq_some_iff.1 hg).1
theorem HeadAt.mono {w : World} {S S' : Nat → Prop} {gh : Nat} {h : Rq.Hd} (k : HeadAt w S gh h) (hs : ∀ k, k < w.heap.size → S k → S' k) : HeadAt w S' gh h := by
  obtain ⟨fo, fcap, hg, ho, h1, h2⟩ := k
  exact ⟨fo, fcap, hg, ho, hs gh (Array.getElem?_eq_some_iff.1 hg).1 h1, fun a e => hs _ (ho.block a e).2 (h2 a e)⟩
theorem HeadAt.turns {w w' : World} {S S' : Nat → Prop} {gh : Nat} {h : Rq.Hd} (k : HeadAt w S gh h) (ht : Turns S' w w') (hs : ∀ k, S k → ¬ S' k) : HeadAt w' S gh h := by
  obtain ⟨fo, fcap, hg, ho, h1, h2⟩ := k
  exact ⟨fo, fcap, ht.row hg (hs gh h1), ho.turns ht (fun a e => hs _ (h2 a e)), h1, h2⟩
theorem HeadAt.stay {w w' : World} {S : Nat → Prop} {gh : Nat} {h : Rq.Hd} (k : HeadAt w S gh h) (hb : Below w.heap.size w w') : HeadAt w' S gh h := k.turns (Turns.of_below (S := fun _ => False) hb) (fun _ _ e => e)
/-- the fields' block is another one -/
theorem fields_ne {w : World} {gh : Nat} {cs : Array Value} {fo : Option Addr} {fcap n : Nat} {xs : List Value} (hg : w.heap[gh]? = some (.cells cs 25 (0, 0))) (ho : OwnV w 0 51 2 fo fcap n xs) : ∀ a, fo = some a → a.block ≠ gh := by
  intro a e e2
  have := row_ne hg ho (by decide)
  rw [ownBlock_slice, e] at this
  exact this (by simp [blockOf, e2])
/-- a length is laid into it -/
theorem HeadAt.len {w : World} {S : Nat → Prop} {gh : Nat} {h : Rq.Hd} (k : HeadAt w S gh h) (n : Int) : HeadAt (w.setCell ⟨gh, 4, none⟩ (.int .i64 n)) S gh { h with length := n } ∧ Turns S w (w.setCell ⟨gh, 4, none⟩ (.int .i64 n)) := by
  obtain ⟨fo, fcap, hg, ho, h1, h2⟩ := k
  refine ⟨⟨fo, fcap, ?_, ho.turns (Turns.setCell (fun i => i = gh) w _ _ rfl) (fun a e => fields_ne hg ho a e), h1, h2⟩, Turns.setCell S w _ _ h1⟩
  rw [heap_setCell_same w gh 4 _ _ _ hg]; rfl
/-- what a parser that keeps s holds -/
inductive RqIn (w : World) (C : Nat → Prop) (s : Rq.St) : Value → Value → Value → Int → Prop
  | dead (c : Nat) (hc : c ≠ 0) (h : s.ph = 4) : RqIn w C s (.pointer none) (.pointer none) .nilIface (c : Int)
  | at0 (gl : Nat) (h : s.ph = 0) (L : LineAt w C gl s.ln) : RqIn w C s (.pointer (some ⟨gl, 0, none⟩)) (.pointer none) .nilIface 0
  | at1 (gl gh : Nat) (D : Nat → Prop) (h : s.ph = 1) (L : LineAt w (fun k => C k ∧ ¬ D k) gl s.ln) (H : HeadAt w (fun k => C k ∧ D k) gh s.hd) : RqIn w C s (.pointer (some ⟨gl, 0, none⟩)) (.pointer (some ⟨gh, 0, none⟩)) .nilIface 0
  | at2 (gl gb : Nat) (h : s.ph = 2) (L : LineAt w (fun k => C k ∧ k ≠ gb) gl s.ln) (hb : C gb) (B : w.heap[gb]? = some (.cells #[.int .i64 (s.left : Int)] 173 (0, 0))) : RqIn w C s (.pointer (some ⟨gl, 0, none⟩)) (.pointer none) (.iface 171 (.pointer (some ⟨gb, 0, none⟩))) 0
  | at3 (gl gb : Nat) (D : Nat → Prop) (h : s.ph = 3) (L : LineAt w (fun k => C k ∧ ¬ D k) gl s.ln) (B : CkAt w (fun k => C k ∧ D k) gb s.ck) : RqIn w C s (.pointer (some ⟨gl, 0, none⟩)) (.pointer none) (.iface 169 (.pointer (some ⟨gb, 0, none⟩))) 0
theorem RqIn.mono {w : World} {C C' : Nat → Prop} {s : Rq.St} {lp hp bd : Value} {code : Int} (h : RqIn w C s lp hp bd code) (hs : ∀ k, k < w.heap.size → C k → C' k) : RqIn w C' s lp hp bd code := by
  cases h with
  | dead c hc h => exact .dead c hc h
  | at0 gl h L => exact .at0 gl h (L.mono hs)
  | at1 gl gh D h L H => exact .at1 gl gh D h (L.mono (fun k hk e => ⟨hs k hk e.1, e.2⟩)) (H.mono (fun k hk e => ⟨hs k hk e.1, e.2⟩))
  | at2 gl gb h L hb B => exact .at2 gl gb h (L.mono (fun k hk e => ⟨hs k hk e.1, e.2⟩)) (hs gb (Array.getElem?_eq_some_iff.1 B).1 hb) B
  | at3 gl gb D h L B => exact .at3 gl gb D h (L.mono (fun k hk e => ⟨hs k hk e.1, e.2⟩)) (B.mono (fun k hk e => ⟨hs k hk e.1, e.2⟩))
theorem RqIn.turns {w w' : World} {C S' : Nat → Prop} {s : Rq.St} {lp hp bd : Value} {code : Int} (h : RqIn w C s lp hp bd code) (ht : Turns S' w w') (hs : ∀ k, C k → ¬ S' k) : RqIn w' C s lp hp bd code := by
  cases h with
  | dead c hc h => exact .dead c hc h
  | at0 gl h L => exact .at0 gl h (L.turns ht hs)
  | at1 gl gh D h L H => exact .at1 gl gh D h (L.turns ht (fun k e => hs k e.1)) (H.turns ht (fun k e => hs k e.1))
  | at2 gl gb h L hb B => exact .at2 gl gb h (L.turns ht (fun k e => hs k e.1)) hb (ht.row B (hs gb hb))
  | at3 gl gb D h L B => exact .at3 gl gb D h (L.turns ht (fun k e => hs k e.1)) (B.turns ht (fun k e => hs k e.1))
/-- block g is a parser that keeps s; it and all its memory are among the blocks S -/
def ReqAt (w : World) (S : Nat → Prop) (g : Nat) (s : Rq.St) : Prop :=
  S g ∧ ∃ lp hp bd code, PsAt w g lp hp false bd code ∧ RqIn w (fun k => S k ∧ k ≠ g) s lp hp bd code
theorem ReqAt.lt {w : World} {S : Nat → Prop} {g : Nat} {s : Rq.St} (h : ReqAt w S g s) : g < w.heap.size := by
  obtain ⟨_, _, _, _, _, hP, _⟩ := h; exact hP.lt
theorem ReqAt.mono {w : World} {S S' : Nat → Prop} {g : Nat} {s : Rq.St} (h : ReqAt w S g s) (hs : ∀ k, k < w.heap.size → S k → S' k) : ReqAt w S' g s := by
  obtain ⟨h1, lp, hp, bd, code, hP, hI⟩ := h
  exact ⟨hs g hP.lt h1, lp, hp, bd, code, hP, hI.mono (fun k hk e => ⟨hs k hk e.1, e.2⟩)⟩
theorem ReqAt.turns {w w' : World} {S S' : Nat → Prop} {g : Nat} {s : Rq.St} (h : ReqAt w S g s) (ht : Turns S' w w') (hs : ∀ k, S k → ¬ S' k) : ReqAt w' S g s := by
  obtain ⟨h1, lp, hp, bd, code, hP, hI⟩ := h
  exact ⟨h1, lp, hp, bd, code, hP.turns ht (hs g h1), hI.turns ht (fun k e => hs k e.1)⟩
theorem ReqAt.stay {w w' : World} {S : Nat → Prop} {g : Nat} {s : Rq.St} (h : ReqAt w S g s) (hb : Below w.heap.size w w') : ReqAt w' S g s := h.turns (Turns.of_below (S := fun _ => False) hb) (fun _ _ e => e)

set_option maxHeartbeats 400000 in
theorem newReq_any (w : World) :
    Calls Tryz.prog 11 #[] w fun e w' => ∃ g, e = .returned (.pointer (some ⟨g, 0, none⟩)) ∧ ReqAt w' (fun k => w.heap.size ≤ k) g Rq.start ∧ Below w.heap.size w w' := by
  go_enter Tryz.func11, Tryz.ntmps11
  go_wp2_with fail
  refine (newLines_any w).mono ?_
  rintro e w1 ⟨rfl, hL, hB⟩
  have HL := Hid.mk' hL; have HB := Hid.mk' hB
  clear hL hB
  go_wp2
  go_ret
  have hsz := HB.out.size
  have hlt := HL.out.lt
  have hB2 : Below w1.heap.size w1 (w1.alloc (.cells #[.pointer (some ⟨w.heap.size, 0, none⟩), .pointer none, .bool false, .nilIface, .int .i64 0] 79)) := (Below.refl _ _).alloc (Nat.le_refl _) _
  have hL2 := (HL.out.mono (S' := fun k => w.heap.size ≤ k ∧ k ≠ w1.heap.size) (fun k hk e => ⟨e, by omega⟩)).turns (Turns.of_below (S := fun _ => False) hB2) (fun _ _ e => e)
  exact ⟨w1.heap.size, rfl, ⟨hsz, _, _, _, _, ⟨heap_alloc_new w1 _⟩, .at0 w.heap.size rfl hL2⟩, HB.out.trans ((Below.refl _ _).alloc hsz _)⟩

theorem dead_any (w : World) (S : Nat → Prop) (g : Nat) (s : Rq.St) (h : ReqAt w S g s) :
    Calls Tryz.prog 16 #[.pointer (some ⟨g, 0, none⟩)] w fun e w' => e = .returned (.bool (decide (s.ph = 4))) ∧ w' = w := by
  obtain ⟨_, lp, hp, bd, code, hP, hI⟩ := h
  have c4 := hP.c4
  have hd : (code != 0) = decide (s.ph = 4) := by
    cases hI with
    | dead c hc h => rw [decide_eq_true h, bne_iff_ne]; omega
    | at0 gl h L => rw [decide_eq_false (by omega)]; rfl
    | at1 gl gh D h L H => rw [decide_eq_false (by omega)]; rfl
    | at2 gl gb h L hb B => rw [decide_eq_false (by omega)]; rfl
    | at3 gl gb D h L B => rw [decide_eq_false (by omega)]; rfl
  generalize decide (s.ph = 4) = dd at hd ⊢
  clear hP hI
  go_enter Tryz.func16, Tryz.ntmps16
  go_wp2
  go_ret
  exact ⟨rfl, rfl⟩
end Go.Proofs.YtkafbifogdoneacGreatDoor
