/- Small texts, one behind the other: PlainCG, CkA, PlainCO, StIndexB. -/
import Derived.Test.YtbcmlolaihnalacGreatDoorPk4
import Derived.Test.YtbcmlolaihnalacGreatDoorPk3
import Derived.Test.YtbcmlolaihnalacGreatDoorPk2
import Derived.Test.YtbcmlolaihnalacGreatDoorPk1
import Derived.Test.YtbcmlolaihnalacGreatDoorProg
import Derived.Lib.Bytealg
/- Plain laws of a body in chunks: what a reader keeps is so, whatever comes. -/
namespace Go.Proofs.YtbcmlolaihnalacGreatDoor.Ck

/-- the code that the program keeps: ErrDone as soon as the body is over -/
def pc (s : St) : Nat := if s.code ≠ 0 then s.code else if s.ph = 4 then 18 else 0
/-- which line comes next: a size, the empty one behind a chunk, a field -/
def nx (s : St) : Nat := if s.ph = 0 then 0 else if s.ph = 3 then 2 else 1
/-- how many bytes of a chunk are to come -/
def lf (s : St) : Nat := if s.ph = 1 then s.left else 0
structure Good (s : St) : Prop where
  ph : s.ph ≤ 4
  ln : Ln.Good s.ln
  lc : s.ln.code = 0
  left : s.ph = 1 → 0 < s.left
  left_le : s.left ≤ 4000
  total : s.total ≤ 4000
  count : s.count ≤ 16
theorem Good.start : Good start := ⟨Nat.zero_le _, Ln.Good.start, rfl, fun h => (by cases h), Nat.zero_le _, Nat.zero_le _, Nat.zero_le _⟩
theorem pc_zero {s : St} : pc s = 0 ↔ s.code = 0 ∧ s.ph ≠ 4 := by
  unfold pc
  by_cases h : s.code = 0
  · rw [if_neg (fun e => e h)]
    by_cases h4 : s.ph = 4
    · rw [if_pos h4]; simp [h4]
    · rw [if_neg h4]; simp [h, h4]
  · rw [if_pos h]; simp [h]
theorem Good.line {s : St} (h : Good s) (t : List UInt8) : Good (line s t) := by
  obtain ⟨h1, h2, h3, h4, h5, h6, h7⟩ := h
  unfold Ck.line
  split
  · split
    · exact ⟨h1, h2, h3, h4, h5, h6, h7⟩
    · split
      · exact ⟨h1, h2, h3, h4, h5, h6, h7⟩
      · split
        · exact ⟨(by show 3 ≤ 4; omega), h2, h3, fun e => (by have : (3 : Nat) = 1 := e; omega), h5, h6, h7⟩
        · rename_i _ a b
          exact ⟨(by show 1 ≤ 4; omega), h2, h3, fun _ => (by show 0 < (size t).1.toNat; omega), (by show (size t).1.toNat ≤ 4000; omega), (by show s.total + (size t).1.toNat ≤ 4000; omega), h7⟩
  · split
    · split
      · exact ⟨h1, h2, h3, h4, h5, h6, h7⟩
      · exact ⟨(by show 0 ≤ 4; omega), h2, h3, fun e => (by have : (0 : Nat) = 1 := e; omega), h5, h6, h7⟩
    · split
      · exact ⟨(by show 4 ≤ 4; omega), h2, h3, fun e => (by have : (4 : Nat) = 1 := e; omega), h5, h6, h7⟩
      · split
        · exact ⟨h1, h2, h3, h4, h5, h6, h7⟩
        · split
          · exact ⟨h1, h2, h3, h4, h5, h6, h7⟩
          · exact ⟨h1, h2, h3, h4, h5, h6, (by show s.count + 1 ≤ 16; omega)⟩
theorem Good.next {s : St} (h : Good s) (c : UInt8) : Good (next s c) := by
  have hh := h
  obtain ⟨h1, h2, h3, h4, h5, h6, h7⟩ := h
  unfold Ck.next
  split
  · exact hh
  · split
    · exact ⟨h1, h2, h3, h4, h5, h6, h7⟩
    · split
      · refine ⟨?_, h2, h3, fun e => ?_, (by show s.left - 1 ≤ 4000; omega), h6, h7⟩
        · show (if s.left ≤ 1 then 2 else 1) ≤ 4
          split <;> omega
        · have e' : (if s.left ≤ 1 then 2 else 1) = 1 := e
          show 0 < s.left - 1
          split at e' <;> omega
      · split
        · exact ⟨h1, h2, h3, h4, h5, h6, h7⟩
        · split
          · exact Good.line (s := { s with ln := Ln.start }) ⟨h1, Ln.Good.start, rfl, h4, h5, h6, h7⟩ _
          · exact ⟨h1, Ln.next_good h2, (by rename_i a _; show (Ln.next s.ln c).code = 0; omega), h4, h5, h6, h7⟩
theorem Good.fold : ∀ (l : List UInt8) {s : St}, Good s → Good (fold s l)
  | [], _, h => h
  | c :: t, s, h => Good.fold t (s := Ck.next s c) (h.next c)
end Go.Proofs.YtbcmlolaihnalacGreatDoor.Ck

/- A reader of a body in chunks as it lies in memory; New walked. -/
namespace Go.Proofs.YtbcmlolaihnalacGreatDoor
open Go.RowKit

/-- block g is a reader of a body in chunks whose cells are these; it and all its memory are among the blocks S -/
structure CkRow (w : World) (S : Nat → Prop) (g gl : Nat) (nx lf rm fd code : Int) (ln : Ln.St) : Prop where
  row : w.heap[g]? = some (.cells #[.pointer (some ⟨gl, 0, none⟩), .int .i64 nx, .int .i64 lf, .int .i64 rm, .int .i64 fd, .int .i64 code] 126 (0, 0))
  mem : S g
  line : LineAt w (fun k => S k ∧ k ≠ g) gl ln
/-- block g is a reader that keeps s -/
def CkAt (w : World) (S : Nat → Prop) (g : Nat) (s : Ck.St) : Prop :=
  ∃ gl nx lf rm fd ln, CkRow w S g gl nx lf rm fd (Ck.pc s : Int) ln ∧ (Ck.pc s = 0 → ln = s.ln ∧ nx = (Ck.nx s : Int) ∧ lf = (Ck.lf s : Int) ∧ rm = 4000 - (s.total : Int) ∧ fd = (s.count : Int))
section
variable {w w' : World} {S S' : Nat → Prop} {g gl : Nat} {nx lf rm fd code : Int} {ln : Ln.St}
theorem CkRow.mono (h : CkRow w S g gl nx lf rm fd code ln) (hs : ∀ k, k < w.heap.size → S k → S' k) : CkRow w S' g gl nx lf rm fd code ln :=
  ⟨h.row, hs g (Array.getElem?_eq_some_iff.1 h.row).1 h.mem, h.line.mono (fun k hk e => ⟨hs k hk e.1, e.2⟩)⟩
theorem CkRow.turns (h : CkRow w S g gl nx lf rm fd code ln) (ht : Turns S' w w') (hs : ∀ k, S k → ¬ S' k) : CkRow w' S g gl nx lf rm fd code ln :=
  ⟨ht.row h.row (hs g h.mem), h.mem, h.line.turns ht (fun k e => hs k e.1)⟩
theorem CkRow.stay (h : CkRow w S g gl nx lf rm fd code ln) (hb : Below w.heap.size w w') : CkRow w' S g gl nx lf rm fd code ln := h.turns (Turns.of_below (S := fun _ => False) hb) (fun _ _ e => e)
theorem CkRow.cell (h : CkRow w S g gl nx lf rm fd code ln) (j : Nat) (hj : j < 6) : w.cell? ⟨g, j, none⟩ = #[Value.pointer (some ⟨gl, 0, none⟩), .int .i64 nx, .int .i64 lf, .int .i64 rm, .int .i64 fd, .int .i64 code][j]? := by
  match j, hj with
  | 0, _ => exact cell_of_row w g 0 _ _ _ h.row
  | 1, _ => exact cell_of_row w g 1 _ _ _ h.row
  | 2, _ => exact cell_of_row w g 2 _ _ _ h.row
  | 3, _ => exact cell_of_row w g 3 _ _ _ h.row
  | 4, _ => exact cell_of_row w g 4 _ _ _ h.row
  | 5, _ => exact cell_of_row w g 5 _ _ _ h.row
theorem CkRow.frozen (h : CkRow w S g gl nx lf rm fd code ln) (j : Nat) : w.frozen? ⟨g, j, none⟩ = false := frozen_of_row w g j _ _ h.row
theorem CkRow.put (h : CkRow w S g gl nx lf rm fd code ln) (j : Nat) (v : Value) {nx' lf' rm' fd' code' : Int}
    (e : (#[Value.pointer (some ⟨gl, 0, none⟩), .int .i64 nx, .int .i64 lf, .int .i64 rm, .int .i64 fd, .int .i64 code].setIfInBounds j v) = #[Value.pointer (some ⟨gl, 0, none⟩), .int .i64 nx', .int .i64 lf', .int .i64 rm', .int .i64 fd', .int .i64 code']) :
    CkRow (w.setCell ⟨g, j, none⟩ v) S g gl nx' lf' rm' fd' code' ln := by
  refine ⟨?_, h.mem, h.line.turns (Turns.setCell (fun i => i = g) w _ _ rfl) (fun k e => e.2)⟩
  rw [heap_setCell_same w g j _ _ _ h.row, e]
/-- stores into it -/
theorem CkRow.next (h : CkRow w S g gl nx lf rm fd code ln) (k : Int) : CkRow (w.setCell ⟨g, 1, none⟩ (.int .i64 k)) S g gl k lf rm fd code ln := h.put 1 _ rfl
theorem CkRow.left (h : CkRow w S g gl nx lf rm fd code ln) (k : Int) : CkRow (w.setCell ⟨g, 2, none⟩ (.int .i64 k)) S g gl nx k rm fd code ln := h.put 2 _ rfl
theorem CkRow.room (h : CkRow w S g gl nx lf rm fd code ln) (k : Int) : CkRow (w.setCell ⟨g, 3, none⟩ (.int .i64 k)) S g gl nx lf k fd code ln := h.put 3 _ rfl
theorem CkRow.fields (h : CkRow w S g gl nx lf rm fd code ln) (k : Int) : CkRow (w.setCell ⟨g, 4, none⟩ (.int .i64 k)) S g gl nx lf rm k code ln := h.put 4 _ rfl
theorem CkRow.code_ (h : CkRow w S g gl nx lf rm fd code ln) (k : Int) : CkRow (w.setCell ⟨g, 5, none⟩ (.int .i64 k)) S g gl nx lf rm fd k ln := h.put 5 _ rfl
theorem CkRow.turn (h : CkRow w S g gl nx lf rm fd code ln) (j : Nat) (v : Value) : Turns S w (w.setCell ⟨g, j, none⟩ v) := Turns.setCell S w _ _ h.mem
end
theorem CkAt.mono {w : World} {S S' : Nat → Prop} {g : Nat} {s : Ck.St} (h : CkAt w S g s) (hs : ∀ k, k < w.heap.size → S k → S' k) : CkAt w S' g s := by
  obtain ⟨gl, nx, lf, rm, fd, ln, h, k⟩ := h
  exact ⟨gl, nx, lf, rm, fd, ln, h.mono hs, k⟩
theorem CkAt.turns {w w' : World} {S S' : Nat → Prop} {g : Nat} {s : Ck.St} (h : CkAt w S g s) (ht : Turns S' w w') (hs : ∀ k, S k → ¬ S' k) : CkAt w' S g s := by
  obtain ⟨gl, nx, lf, rm, fd, ln, h, k⟩ := h
  exact ⟨gl, nx, lf, rm, fd, ln, h.turns ht hs, k⟩

theorem newChunks_any (w : World) :
    Calls Tryz.prog 58 #[] w fun e w' => ∃ g, e = .returned (.pointer (some ⟨g, 0, none⟩)) ∧ CkAt w' (fun k => w.heap.size ≤ k) g Ck.start ∧ Below w.heap.size w w' := by
  go_enter Tryz.func58, Tryz.ntmps58
  go_wp2_with fail
  refine (newLines_any w).mono ?_
  rintro e w1 ⟨rfl, hL, hB⟩
  have HL := Hid.mk' hL; have HB := Hid.mk' hB
  clear hL hB
  go_wp2
  go_ret
  have hsz := HB.out.size
  have hlt := HL.out.lt
  have hT : Turns (fun _ => False) w1 (w1.alloc (.cells #[.pointer (some ⟨w.heap.size, 0, none⟩), .int .i64 0, .int .i64 0, .int .i64 4000, .int .i64 0, .int .i64 0] 126)) := Turns.of_below ((Below.refl _ _).alloc (Nat.le_refl _) _)
  have hL2 := (HL.out.mono (S' := fun k => w.heap.size ≤ k ∧ k ≠ w1.heap.size) (fun k hk e => ⟨e, by omega⟩)).turns hT (fun _ _ e => e)
  exact ⟨w1.heap.size, rfl, ⟨w.heap.size, 0, 0, 4000, 0, Ln.start, ⟨heap_alloc_new w1 _, hsz, hL2⟩, fun _ => ⟨rfl, rfl, rfl, rfl, rfl⟩⟩, HB.out.trans ((Below.refl _ _).alloc hsz _)⟩
end Go.Proofs.YtbcmlolaihnalacGreatDoor

/- Plain laws of the document's own answer for a body in chunks, step by step. -/
namespace Go.Proofs.YtbcmlolaihnalacGreatDoor

theorem Ln.go_text_le (l : List UInt8) : ∀ (t : List UInt8) (i : Nat), (Ln.go l i t).text.length ≤ l.length
  | [], i => Nat.zero_le _
  | c :: t, i => by
    unfold Ln.go
    split
    · split
      · exact Nat.zero_le _
      · split
        · show (l.take i).length ≤ l.length
          rw [List.length_take]; omega
        · exact Nat.zero_le _
    · split
      · exact Nat.zero_le _
      · split
        · exact Nat.zero_le _
        · split
          · exact Nat.zero_le _
          · exact Ln.go_text_le l t (i + 1)
theorem Ln.of_text_le (l : List UInt8) : (Ln.of l).text.length ≤ l.length := Ln.go_text_le l l 0
namespace Ck
section
variable {f : Nat} {l : List UInt8} {n : Nat}
theorem go_bad (h : (Ln.of l).code ≠ 0 ∨ (Ln.of l).ended = false) : go (f + 1) l n = ⟨[], (Ln.of l).size, false, (Ln.of l).code⟩ := by rw [go, if_pos h]
section
variable (h : ¬ ((Ln.of l).code ≠ 0 ∨ (Ln.of l).ended = false))
include h
theorem go_none (h1 : (size (Ln.of l).text).2 = false) : go (f + 1) l n = ⟨[], (Ln.of l).size, false, 7⟩ := by rw [go, if_neg h, if_pos h1]
section
variable (h1 : (size (Ln.of l).text).2 = true)
include h1
theorem go_long (h2 : 4000 < n + (size (Ln.of l).text).1.toNat) : go (f + 1) l n = ⟨[], (Ln.of l).size, false, 4⟩ := by rw [go, if_neg h, if_neg (by rw [h1]; simp), if_pos h2]
section
variable (h2 : ¬ 4000 < n + (size (Ln.of l).text).1.toNat)
include h2
theorem go_zero (h3 : (size (Ln.of l).text).1.toNat = 0) : go (f + 1) l n = shift [] (Ln.of l).size (trail (f + 1) (l.drop (Ln.of l).size) 0) := by
  rw [go, if_neg h, if_neg (by rw [h1]; simp), if_neg h2, if_pos h3]; rfl
section
variable (h3 : ¬ (size (Ln.of l).text).1.toNat = 0)
include h3
theorem go_short (h4 : (l.drop (Ln.of l).size).length < (size (Ln.of l).text).1.toNat) : go (f + 1) l n = ⟨l.drop (Ln.of l).size, (Ln.of l).size + (l.drop (Ln.of l).size).length, false, 0⟩ := by
  rw [go, if_neg h, if_neg (by rw [h1]; simp), if_neg h2, if_neg h3]
  simp only []
  rw [if_pos h4]
section
variable (h4 : ¬ (l.drop (Ln.of l).size).length < (size (Ln.of l).text).1.toNat)
include h4
theorem go_bad2 (h5 : (Ln.of ((l.drop (Ln.of l).size).drop (size (Ln.of l).text).1.toNat)).code ≠ 0 ∨ (Ln.of ((l.drop (Ln.of l).size).drop (size (Ln.of l).text).1.toNat)).ended = false) :
    go (f + 1) l n = ⟨(l.drop (Ln.of l).size).take (size (Ln.of l).text).1.toNat, (Ln.of l).size + (size (Ln.of l).text).1.toNat + (Ln.of ((l.drop (Ln.of l).size).drop (size (Ln.of l).text).1.toNat)).size, false, (Ln.of ((l.drop (Ln.of l).size).drop (size (Ln.of l).text).1.toNat)).code⟩ := by
  rw [go, if_neg h, if_neg (by rw [h1]; simp), if_neg h2, if_neg h3]
  simp only []
  rw [if_neg h4, if_pos h5]
section
variable (h5 : ¬ ((Ln.of ((l.drop (Ln.of l).size).drop (size (Ln.of l).text).1.toNat)).code ≠ 0 ∨ (Ln.of ((l.drop (Ln.of l).size).drop (size (Ln.of l).text).1.toNat)).ended = false))
include h5
theorem go_form (h6 : (Ln.of ((l.drop (Ln.of l).size).drop (size (Ln.of l).text).1.toNat)).text ≠ []) :
    go (f + 1) l n = ⟨(l.drop (Ln.of l).size).take (size (Ln.of l).text).1.toNat, (Ln.of l).size + (size (Ln.of l).text).1.toNat + (Ln.of ((l.drop (Ln.of l).size).drop (size (Ln.of l).text).1.toNat)).size, false, 5⟩ := by
  rw [go, if_neg h, if_neg (by rw [h1]; simp), if_neg h2, if_neg h3]
  simp only []
  rw [if_neg h4, if_neg h5, if_pos h6]
theorem go_next (h6 : (Ln.of ((l.drop (Ln.of l).size).drop (size (Ln.of l).text).1.toNat)).text = []) :
    go (f + 1) l n = shift ((l.drop (Ln.of l).size).take (size (Ln.of l).text).1.toNat) ((Ln.of l).size + (size (Ln.of l).text).1.toNat + (Ln.of ((l.drop (Ln.of l).size).drop (size (Ln.of l).text).1.toNat)).size) (go f (((l.drop (Ln.of l).size).drop (size (Ln.of l).text).1.toNat).drop (Ln.of ((l.drop (Ln.of l).size).drop (size (Ln.of l).text).1.toNat)).size) (n + (size (Ln.of l).text).1.toNat)) := by
  rw [go, if_neg h, if_neg (by rw [h1]; simp), if_neg h2, if_neg h3]
  simp only []
  rw [if_neg h4, if_neg h5, if_neg (fun e => e h6)]
  rfl
end
end
end
end
end
end
theorem trail_bad (h : (Ln.of l).code ≠ 0 ∨ (Ln.of l).ended = false) : trail (f + 1) l n = ⟨[], (Ln.of l).size, false, (Ln.of l).code⟩ := by rw [trail, if_pos h]
section
variable (h : ¬ ((Ln.of l).code ≠ 0 ∨ (Ln.of l).ended = false))
include h
theorem trail_end (h1 : (Ln.of l).text = []) : trail (f + 1) l n = ⟨[], (Ln.of l).size, true, 0⟩ := by rw [trail, if_neg h, if_pos h1]
section
variable (h1 : ¬ (Ln.of l).text = [])
include h1
theorem trail_many (h2 : n = 16) : trail (f + 1) l n = ⟨[], (Ln.of l).size, false, 8⟩ := by rw [trail, if_neg h, if_neg h1, if_pos h2]
section
variable (h2 : ¬ n = 16)
include h2
theorem trail_code (h3 : (Fd.of (Ln.of l).text).code ≠ 0) : trail (f + 1) l n = ⟨[], (Ln.of l).size, false, (Fd.of (Ln.of l).text).code⟩ := by rw [trail, if_neg h, if_neg h1, if_neg h2, if_pos h3]
theorem trail_next (h3 : (Fd.of (Ln.of l).text).code = 0) : trail (f + 1) l n = shift [] (Ln.of l).size (trail f (l.drop (Ln.of l).size) (n + 1)) := by
  rw [trail, if_neg h, if_neg h1, if_neg h2, if_neg (fun e => e h3)]; rfl
end
end
end
end
end Ck
/-- a number of six digits to the base 16 -/
theorem size_nat (t : List UInt8) : 0 ≤ (Ck.size t).1 ∧ (Ck.size t).1 < 68719476736 := by
  unfold Ck.size
  generalize Lib.trimS (t.take (Fd.at_ 59 t)) Ch.ws = l
  unfold Ch.number
  split
  · exact ⟨Int.le_refl _, by decide⟩
  · split
    · rename_i h1 h2
      have hl : ¬ (6 : Int) < l.length := fun e => h1 (Or.inr e)
      exact Ch.numOf_bound 16 (by omega) (by omega) l h2 (by omega)
    · exact ⟨Int.le_refl _, by decide⟩
end Go.Proofs.YtbcmlolaihnalacGreatDoor

/- strings.IndexByte, walked. -/
namespace Go.Proofs.YtbcmlolaihnalacGreatDoor
open Go.RowKit

set_option maxHeartbeats 1000000 in
set_option maxRecDepth 100000 in
theorem sl_indexByte (s : ByteArray) (c : Int) (w : World) :
    Calls Tryz.prog 100 #[.string s, .int .u8 c] w fun e w' => e = .returned (.int .i64 (Lib.indexByte s.data.toList c.toNat.toUInt8)) ∧ w' = w := by
  go_enter Tryz.func100, Tryz.ntmps100
  go_wp2
  rw [run_callFunc_extern Tryz.func114 (by kernel_rfl) (by kernel_rfl) (by kernel_rfl) (e := Extern.BytealgIndexByte.indexByte) (by kernel_rfl), Lib.run_indexByteString]
  simp only [Result.andThen]
  rw [Oper.upon_value]
  go_wp2
  go_ret
  exact ⟨rfl, rfl⟩

set_option maxHeartbeats 400000 in
theorem indexByte_any (s : ByteArray) (c : Int) (w : World) :
    Calls Tryz.prog 79 #[.string s, .int .u8 c] w fun e w' => e = .returned (.int .i64 (Lib.indexByte s.data.toList c.toNat.toUInt8)) ∧ w' = w := by
  go_enter Tryz.func79, Tryz.ntmps79
  go_wp2_with (go_at_call 100; refine (sl_indexByte _ _ _).mono ?_; rintro e w' ⟨rfl, rfl⟩)
  go_ret
  exact ⟨rfl, rfl⟩
end Go.Proofs.YtbcmlolaihnalacGreatDoor
