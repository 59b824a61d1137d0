/- A reader of forms as it lies in memory. -/
import Derived.Test.YtjpenioloeplgadGreatDoorSkR
import Derived.Test.YtjpenioloeplgadGreatDoorPk15
import Derived.Test.YtjpenioloeplgadGreatDoorPk6
import Derived.Test.YtjpenioloeplgadGreatDoorFlB
import Derived.Test.YtjpenioloeplgadGreatDoorPk10
namespace Go.Proofs.YtjpenioloeplgadGreatDoor
open Go.RowKit

/-- block g is a form whose cells are these -/
structure FrAt (w : World) (g : Nat) (sk : Value) (ah : Int) (ln : Value) (fo : Option Addr) (nf fcap : Nat) (pl pt cd : Int) : Prop where
  row : w.heap[g]? = some (.cells #[sk, .int .i64 ah, ln, .slice fo nf fcap, .int .i64 pl, .int .i64 pt, .int .i64 cd] 88 (0, 0))
section
variable {w w' : World} {g : Nat} {sk ln : Value} {fo : Option Addr} {nf fcap : Nat} {ah pl pt cd : Int}
theorem FrAt.lt (h : FrAt w g sk ah ln fo nf fcap pl pt cd) : g < w.heap.size := (Array.getElem?_eq_some_iff.1 h.row).1
theorem FrAt.c0 (h : FrAt w g sk ah ln fo nf fcap pl pt cd) : w.cell? ⟨g, 0, none⟩ = some sk := cell_of_row w g 0 _ _ _ h.row
theorem FrAt.c1 (h : FrAt w g sk ah ln fo nf fcap pl pt cd) : w.cell? ⟨g, 1, none⟩ = some (.int .i64 ah) := cell_of_row w g 1 _ _ _ h.row
theorem FrAt.c2 (h : FrAt w g sk ah ln fo nf fcap pl pt cd) : w.cell? ⟨g, 2, none⟩ = some ln := cell_of_row w g 2 _ _ _ h.row
theorem FrAt.c3 (h : FrAt w g sk ah ln fo nf fcap pl pt cd) : w.cell? ⟨g, 3, none⟩ = some (.slice fo nf fcap) := cell_of_row w g 3 _ _ _ h.row
theorem FrAt.c4 (h : FrAt w g sk ah ln fo nf fcap pl pt cd) : w.cell? ⟨g, 4, none⟩ = some (.int .i64 pl) := cell_of_row w g 4 _ _ _ h.row
theorem FrAt.c5 (h : FrAt w g sk ah ln fo nf fcap pl pt cd) : w.cell? ⟨g, 5, none⟩ = some (.int .i64 pt) := cell_of_row w g 5 _ _ _ h.row
theorem FrAt.c6 (h : FrAt w g sk ah ln fo nf fcap pl pt cd) : w.cell? ⟨g, 6, none⟩ = some (.int .i64 cd) := cell_of_row w g 6 _ _ _ h.row
theorem FrAt.fz (h : FrAt w g sk ah ln fo nf fcap pl pt cd) (j : Nat) : w.frozen? ⟨g, j, none⟩ = false := frozen_of_row w g j _ _ h.row
theorem FrAt.turns {S : Nat → Prop} (h : FrAt w g sk ah ln fo nf fcap pl pt cd) (ht : Turns S w w') (hs : ¬ S g) : FrAt w' g sk ah ln fo nf fcap pl pt cd := ⟨ht.row h.row hs⟩
theorem FrAt.stay (h : FrAt w g sk ah ln fo nf fcap pl pt cd) (hb : Below w.heap.size w w') : FrAt w' g sk ah ln fo nf fcap pl pt cd := ⟨(hb.block g h.lt).trans h.row⟩
theorem FrAt.s1 (h : FrAt w g sk ah ln fo nf fcap pl pt cd) (v : Int) : FrAt (w.setCell ⟨g, 1, none⟩ (.int .i64 v)) g sk v ln fo nf fcap pl pt cd := ⟨by rw [heap_setCell_same w g 1 _ _ _ h.row]; rfl⟩
theorem FrAt.s3 (h : FrAt w g sk ah ln fo nf fcap pl pt cd) (fo' : Option Addr) (nf' fcap' : Nat) : FrAt (w.setCell ⟨g, 3, none⟩ (.slice fo' nf' fcap')) g sk ah ln fo' nf' fcap' pl pt cd := ⟨by rw [heap_setCell_same w g 3 _ _ _ h.row]; rfl⟩
theorem FrAt.s4 (h : FrAt w g sk ah ln fo nf fcap pl pt cd) (v : Int) : FrAt (w.setCell ⟨g, 4, none⟩ (.int .i64 v)) g sk ah ln fo nf fcap v pt cd := ⟨by rw [heap_setCell_same w g 4 _ _ _ h.row]; rfl⟩
theorem FrAt.s5 (h : FrAt w g sk ah ln fo nf fcap pl pt cd) (v : Int) : FrAt (w.setCell ⟨g, 5, none⟩ (.int .i64 v)) g sk ah ln fo nf fcap pl v cd := ⟨by rw [heap_setCell_same w g 5 _ _ _ h.row]; rfl⟩
theorem FrAt.set (w : World) (g : Nat) (j : Nat) (v : Value) : Turns (fun k => k = g) w (w.setCell ⟨g, j, none⟩ v) := Turns.setCell (fun k => k = g) w ⟨g, j, none⟩ v rfl
end
/-- what a form that goes on holds: a looker for its mark, a reader of lines, the fields of a head -/
structure FmIn (w : World) (C : Nat → Prop) (m : List UInt8) (s : Fm.St) (gs gl : Nat) (p : SkP) (fo : Option Addr) (fcap : Nat) (D : Nat → Prop) : Prop where
  sk : SkAt w gs m s.held p
  skC : C gs ∧ C p.gb ∧ ∀ a, p.mo = some a → C a.block
  skD : ¬ D gs ∧ ¬ D p.gb ∧ ∀ a, p.mo = some a → ¬ D a.block
  ln : LineAt w (fun k => C k ∧ D k) gl s.ln
  own : OwnV w 0 58 2 fo fcap s.fields.length (pairV (Rq.flT s.fields))
  fC : ∀ a, fo = some a → C a.block ∧ ¬ D a.block
section
variable {w w' : World} {C C' S' D : Nat → Prop} {m : List UInt8} {s : Fm.St} {gs gl : Nat} {p : SkP} {fo : Option Addr} {fcap : Nat}
theorem FmIn.mono (h : FmIn w C m s gs gl p fo fcap D) (hs : ∀ k, k < w.heap.size → C k → C' k) : FmIn w C' m s gs gl p fo fcap D :=
  ⟨h.sk, ⟨hs _ h.sk.lt h.skC.1, hs _ h.sk.2.2.lt h.skC.2.1, fun a e => hs _ (h.sk.2.1.block a e).2 (h.skC.2.2 a e)⟩, h.skD, h.ln.mono (fun k hk e => ⟨hs k hk e.1, e.2⟩), h.own, fun a e => ⟨hs _ (h.own.block a e).2 (h.fC a e).1, (h.fC a e).2⟩⟩
theorem FmIn.turns (h : FmIn w C m s gs gl p fo fcap D) (ht : Turns S' w w') (hs : ∀ k, C k → ¬ S' k) : FmIn w' C m s gs gl p fo fcap D :=
  ⟨h.sk.turns ht (hs _ h.skC.1) (hs _ h.skC.2.1) (fun a e => hs _ (h.skC.2.2 a e)), h.skC, h.skD, h.ln.turns ht (fun k e => hs k e.1), h.own.turns ht (fun a e => hs _ (h.fC a e).1), h.fC⟩
theorem FmIn.stay (h : FmIn w C m s gs gl p fo fcap D) (hb : Below w.heap.size w w') : FmIn w' C m s gs gl p fo fcap D := h.turns (Turns.of_below (S := fun _ => False) hb) (fun _ _ e => e)
/-- another place, another count of bytes ahead -/
theorem FmIn.as {s2 : Fm.St} (h : FmIn w C m s gs gl p fo fcap D) (h1 : s2.held = s.held) (h2 : s2.ln = s.ln) (h3 : s2.fields = s.fields) : FmIn w C m s2 gs gl p fo fcap D :=
  ⟨h1 ▸ h.sk, h.skC, h.skD, h2 ▸ h.ln, h3 ▸ h.own, h.fC⟩
/-- the fields' block is none of the looker's -/
theorem FmIn.fs (h : FmIn w C m s gs gl p fo fcap D) : ∀ a, fo = some a → a.block ≠ gs ∧ a.block ≠ p.gb ∧ ∀ b, p.mo = some b → a.block ≠ b.block := by
  intro a e
  have h1 := row_ne h.sk.1 h.own (by decide)
  rw [ownBlock_slice, e] at h1
  refine ⟨fun e2 => h1 (by simp [blockOf, e2]), fun e2 => ?_, fun b eb e2 => ?_⟩
  · obtain ⟨cc, hcc, _⟩ := h.sk.2.2
    have h2 := row_ne hcc h.own (by decide)
    rw [ownBlock_slice, e] at h2
    exact h2 (by simp [blockOf, e2])
  · rcases h.sk.2.1.2 with hn | ⟨gg, cap', cur, e3, _, hh, _⟩
    · have hn := hn.1; rw [eb] at hn; injection hn with hn; cases hn
    · rw [eb] at e3
      injection e3 with e3
      injection e3 with e3
      have h2 := row_ne hh h.own (by decide)
      rw [ownBlock_slice, e] at h2
      exact h2 (by simp [blockOf, e2, e3])
end
/-- block g is a form that keeps s, with the mark m; it and all its memory are among the blocks S -/
inductive FmAt (w : World) (S : Nat → Prop) (g : Nat) (m : List UInt8) (s : Fm.St) : Prop
  | dead (h : ¬ Fm.live s) (me : S g) (row : FrAt w g (.pointer none) (s.ahead : Int) (.pointer none) none 0 0 (s.place : Int) (s.parts : Int) (s.code : Int))
  | live (h : Fm.live s) (me : S g) (gs gl : Nat) (p : SkP) (fo : Option Addr) (fcap : Nat) (D : Nat → Prop) (row : FrAt w g (.pointer (some ⟨gs, 0, none⟩)) (s.ahead : Int) (.pointer (some ⟨gl, 0, none⟩)) fo s.fields.length fcap (s.place : Int) (s.parts : Int) (s.code : Int)) (inn : FmIn w (fun k => S k ∧ k ≠ g) m s gs gl p fo fcap D)
section
variable {w w' : World} {S S' : Nat → Prop} {g : Nat} {m : List UInt8} {s : Fm.St}
theorem FmAt.lt (h : FmAt w S g m s) : g < w.heap.size := by
  cases h with
  | dead h me row => exact row.lt
  | live h me gs gl p fo fcap D row inn => exact row.lt
theorem FmAt.me (h : FmAt w S g m s) : S g := by
  cases h with
  | dead h me row => exact me
  | live h me gs gl p fo fcap D row inn => exact me
theorem FmAt.mono (h : FmAt w S g m s) (hs : ∀ k, k < w.heap.size → S k → S' k) : FmAt w S' g m s := by
  cases h with
  | dead h me row => exact .dead h (hs g row.lt me) row
  | live h me gs gl p fo fcap D row inn => exact .live h (hs g row.lt me) gs gl p fo fcap D row (inn.mono (fun k hk e => ⟨hs k hk e.1, e.2⟩))
theorem FmAt.turns (h : FmAt w S g m s) (ht : Turns S' w w') (hs : ∀ k, S k → ¬ S' k) : FmAt w' S g m s := by
  cases h with
  | dead h me row => exact .dead h me (row.turns ht (hs g me))
  | live h me gs gl p fo fcap D row inn => exact .live h me gs gl p fo fcap D (row.turns ht (hs g me)) (inn.turns ht (fun k e => hs k e.1))
theorem FmAt.stay (h : FmAt w S g m s) (hb : Below w.heap.size w w') : FmAt w' S g m s := h.turns (Turns.of_below (S := fun _ => False) hb) (fun _ _ e => e)
/-- its last three cells -/
theorem FmAt.cells (h : FmAt w S g m s) : w.cell? ⟨g, 4, none⟩ = some (.int .i64 (s.place : Int)) ∧ w.cell? ⟨g, 5, none⟩ = some (.int .i64 (s.parts : Int)) ∧ w.cell? ⟨g, 6, none⟩ = some (.int .i64 (s.code : Int)) ∧ ∀ j, w.frozen? ⟨g, j, none⟩ = false := by
  cases h with
  | dead h me row => exact ⟨row.c4, row.c5, row.c6, row.fz⟩
  | live h me gs gl p fo fcap D row inn => exact ⟨row.c4, row.c5, row.c6, row.fz⟩
end
theorem close_any (w : World) (S : Nat → Prop) (g : Nat) (m : List UInt8) (s : Fm.St) (h : FmAt w S g m s) :
    Calls Tryz.prog 22 #[.pointer (some ⟨g, 0, none⟩)] w fun e w' => e = .returned (.int .i64 (Fm.close s : Int)) ∧ w' = w := by
  obtain ⟨c4, _, c6, _⟩ := h.cells
  clear h
  by_cases hc : s.code = 0
  · have t0 : ((s.code : Int) == 0) = true := by rw [beq_iff_eq]; omega
    by_cases h6 : s.place = 6
    · have t1 : ((s.place : Int) != 6) = false := by rw [h6]; rfl
      have he : Fm.close s = s.code := by unfold Fm.close; rw [if_neg (fun e => e.2 h6)]
      rw [he]
      generalize (s.code : Int) = cd at *
      generalize (s.place : Int) = pl at *
      clear hc h6 he
      go_enter Tryz.func22, Tryz.ntmps22
      go_wp2
      go_ret
      exact ⟨rfl, rfl⟩
    · have t1 : ((s.place : Int) != 6) = true := by rw [bne_iff_ne]; omega
      have he : Fm.close s = 14 := by unfold Fm.close; rw [if_pos ⟨hc, h6⟩]
      rw [he]
      generalize (s.code : Int) = cd at *
      generalize (s.place : Int) = pl at *
      clear hc h6 he
      go_enter Tryz.func22, Tryz.ntmps22
      go_wp2
      go_ret
      exact ⟨rfl, rfl⟩
  · have t0 : ((s.code : Int) == 0) = false := by rw [beq_eq_false_iff_ne]; omega
    have he : Fm.close s = s.code := by unfold Fm.close; rw [if_neg (fun e => hc e.1)]
    rw [he]
    generalize (s.code : Int) = cd at *
    generalize (s.place : Int) = pl at *
    clear hc he
    go_enter Tryz.func22, Tryz.ntmps22
    go_wp2
    go_ret
    exact ⟨rfl, rfl⟩
end Go.Proofs.YtjpenioloeplgadGreatDoor
