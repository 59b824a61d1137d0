/- Small texts, one behind the other: PlainCG, PlainCO, PlainT, PlainG. -/
import Derived.Test.YtkbeaehjagdnnacGreatDoorPk2
/- Plain laws of a body in chunks: what a reader keeps is so, whatever comes. -/
namespace Go.Proofs.YtkbeaehjagdnnacGreatDoor.Ck

/-- the code that the program keeps: ErrDone as soon as the body is over -/
def pc (s : St) : Nat := if s.code ≠ 0 then s.code else if s.ph = 4 then 18 else 0
/-- which line comes next: a size, the empty one behind a chunk, a field -/
def nx (s : St) : Nat := if s.ph = 0 then 0 else if s.ph = 3 then 2 else 1
/-- how many bytes of a chunk are to come -/
def lf (s : St) : Nat := if s.ph = 1 then s.left else 0
structure Good (s : St) : Prop where
  ph : s.ph ≤ 4
  ln : Ln.Good s.ln
  lc : s.ln.code = 0
  left : s.ph = 1 → 0 < s.left
  left_le : s.left ≤ 4000
  total : s.total ≤ 4000
  count : s.count ≤ 16
theorem Good.start : Good start := ⟨Nat.zero_le _, Ln.Good.start, rfl, fun h => (by cases h), Nat.zero_le _, Nat.zero_le _, Nat.zero_le _⟩
theorem pc_zero {s : St} : pc s = 0 ↔ s.code = 0 ∧ s.ph ≠ 4 := by
  unfold pc
  by_cases h : s.code = 0
  · rw [if_neg (fun e => e h)]
    by_cases h4 : s.ph = 4
    · rw [if_pos h4]; simp [h4]
    · rw [if_neg h4]; simp [h, h4]
  · rw [if_pos h]; simp [h]
theorem Good.line {s : St} (h : Good s) (t : List UInt8) : Good (line s t) := by
  obtain ⟨h1, h2, h3, h4, h5, h6, h7⟩ := h
  unfold Ck.line
  split
  · split
    · exact ⟨h1, h2, h3, h4, h5, h6, h7⟩
    · split
      · exact ⟨h1, h2, h3, h4, h5, h6, h7⟩
      · split
        · exact ⟨(by show 3 ≤ 4; omega), h2, h3, fun e => (by have : (3 : Nat) = 1 := e; omega), h5, h6, h7⟩
        · rename_i _ a b
          exact ⟨(by show 1 ≤ 4; omega), h2, h3, fun _ => (by show 0 < (size t).1.toNat; omega), (by show (size t).1.toNat ≤ 4000; omega), (by show s.total + (size t).1.toNat ≤ 4000; omega), h7⟩
  · split
    · split
      · exact ⟨h1, h2, h3, h4, h5, h6, h7⟩
      · exact ⟨(by show 0 ≤ 4; omega), h2, h3, fun e => (by have : (0 : Nat) = 1 := e; omega), h5, h6, h7⟩
    · split
      · exact ⟨(by show 4 ≤ 4; omega), h2, h3, fun e => (by have : (4 : Nat) = 1 := e; omega), h5, h6, h7⟩
      · split
        · exact ⟨h1, h2, h3, h4, h5, h6, h7⟩
        · split
          · exact ⟨h1, h2, h3, h4, h5, h6, h7⟩
          · exact ⟨h1, h2, h3, h4, h5, h6, (by show s.count + 1 ≤ 16; omega)⟩
theorem Good.next {s : St} (h : Good s) (c : UInt8) : Good (next s c) := by
  have hh := h
  obtain ⟨h1, h2, h3, h4, h5, h6, h7⟩ := h
  unfold Ck.next
  split
  · exact hh
  · split
    · exact ⟨h1, h2, h3, h4, h5, h6, h7⟩
    · split
      · refine ⟨?_, h2, h3, fun e => ?_, (by show s.left - 1 ≤ 4000; omega), h6, h7⟩
        · show (if s.left ≤ 1 then 2 else 1) ≤ 4
          split <;> omega
        · have e' : (if s.left ≤ 1 then 2 else 1) = 1 := e
          show 0 < s.left - 1
          split at e' <;> omega
      · split
        · exact ⟨h1, h2, h3, h4, h5, h6, h7⟩
        · split
          · exact Good.line (s := { s with ln := Ln.start }) ⟨h1, Ln.Good.start, rfl, h4, h5, h6, h7⟩ _
          · exact ⟨h1, Ln.next_good h2, (by rename_i a _; show (Ln.next s.ln c).code = 0; omega), h4, h5, h6, h7⟩
theorem Good.fold : ∀ (l : List UInt8) {s : St}, Good s → Good (fold s l)
  | [], _, h => h
  | c :: t, s, h => Good.fold t (s := Ck.next s c) (h.next c)
end Go.Proofs.YtkbeaehjagdnnacGreatDoor.Ck

/- Plain laws of the document's own answer for a body in chunks, step by step. -/
namespace Go.Proofs.YtkbeaehjagdnnacGreatDoor

theorem Ln.go_text_le (l : List UInt8) : ∀ (t : List UInt8) (i : Nat), (Ln.go l i t).text.length ≤ l.length
  | [], i => Nat.zero_le _
  | c :: t, i => by
    unfold Ln.go
    split
    · split
      · exact Nat.zero_le _
      · split
        · show (l.take i).length ≤ l.length
          rw [List.length_take]; omega
        · exact Nat.zero_le _
    · split
      · exact Nat.zero_le _
      · split
        · exact Nat.zero_le _
        · split
          · exact Nat.zero_le _
          · exact Ln.go_text_le l t (i + 1)
theorem Ln.of_text_le (l : List UInt8) : (Ln.of l).text.length ≤ l.length := Ln.go_text_le l l 0
namespace Ck
section
variable {f : Nat} {l : List UInt8} {n : Nat}
theorem go_bad (h : (Ln.of l).code ≠ 0 ∨ (Ln.of l).ended = false) : go (f + 1) l n = ⟨[], (Ln.of l).size, false, (Ln.of l).code⟩ := by rw [go, if_pos h]
section
variable (h : ¬ ((Ln.of l).code ≠ 0 ∨ (Ln.of l).ended = false))
include h
theorem go_none (h1 : (size (Ln.of l).text).2 = false) : go (f + 1) l n = ⟨[], (Ln.of l).size, false, 7⟩ := by rw [go, if_neg h, if_pos h1]
section
variable (h1 : (size (Ln.of l).text).2 = true)
include h1
theorem go_long (h2 : 4000 < n + (size (Ln.of l).text).1.toNat) : go (f + 1) l n = ⟨[], (Ln.of l).size, false, 4⟩ := by rw [go, if_neg h, if_neg (by rw [h1]; simp), if_pos h2]
section
variable (h2 : ¬ 4000 < n + (size (Ln.of l).text).1.toNat)
include h2
theorem go_zero (h3 : (size (Ln.of l).text).1.toNat = 0) : go (f + 1) l n = shift [] (Ln.of l).size (trail (f + 1) (l.drop (Ln.of l).size) 0) := by
  rw [go, if_neg h, if_neg (by rw [h1]; simp), if_neg h2, if_pos h3]; rfl
section
variable (h3 : ¬ (size (Ln.of l).text).1.toNat = 0)
include h3
theorem go_short (h4 : (l.drop (Ln.of l).size).length < (size (Ln.of l).text).1.toNat) : go (f + 1) l n = ⟨l.drop (Ln.of l).size, (Ln.of l).size + (l.drop (Ln.of l).size).length, false, 0⟩ := by
  rw [go, if_neg h, if_neg (by rw [h1]; simp), if_neg h2, if_neg h3]
  simp only []
  rw [if_pos h4]
section
variable (h4 : ¬ (l.drop (Ln.of l).size).length < (size (Ln.of l).text).1.toNat)
include h4
theorem go_bad2 (h5 : (Ln.of ((l.drop (Ln.of l).size).drop (size (Ln.of l).text).1.toNat)).code ≠ 0 ∨ (Ln.of ((l.drop (Ln.of l).size).drop (size (Ln.of l).text).1.toNat)).ended = false) :
    go (f + 1) l n = ⟨(l.drop (Ln.of l).size).take (size (Ln.of l).text).1.toNat, (Ln.of l).size + (size (Ln.of l).text).1.toNat + (Ln.of ((l.drop (Ln.of l).size).drop (size (Ln.of l).text).1.toNat)).size, false, (Ln.of ((l.drop (Ln.of l).size).drop (size (Ln.of l).text).1.toNat)).code⟩ := by
  rw [go, if_neg h, if_neg (by rw [h1]; simp), if_neg h2, if_neg h3]
  simp only []
  rw [if_neg h4, if_pos h5]
section
variable (h5 : ¬ ((Ln.of ((l.drop (Ln.of l).size).drop (size (Ln.of l).text).1.toNat)).code ≠ 0 ∨ (Ln.of ((l.drop (Ln.of l).size).drop (size (Ln.of l).text).1.toNat)).ended = false))
include h5
theorem go_form (h6 : (Ln.of ((l.drop (Ln.of l).size).drop (size (Ln.of l).text).1.toNat)).text ≠ []) :
    go (f + 1) l n = ⟨(l.drop (Ln.of l).size).take (size (Ln.of l).text).1.toNat, (Ln.of l).size + (size (Ln.of l).text).1.toNat + (Ln.of ((l.drop (Ln.of l).size).drop (size (Ln.of l).text).1.toNat)).size, false, 5⟩ := by
  rw [go, if_neg h, if_neg (by rw [h1]; simp), if_neg h2, if_neg h3]
  simp only []
  rw [if_neg h4, if_neg h5, if_pos h6]
theorem go_next (h6 : (Ln.of ((l.drop (Ln.of l).size).drop (size (Ln.of l).text).1.toNat)).text = []) :
    go (f + 1) l n = shift ((l.drop (Ln.of l).size).take (size (Ln.of l).text).1.toNat) ((Ln.of l).size + (size (Ln.of l).text).1.toNat + (Ln.of ((l.drop (Ln.of l).size).drop (size (Ln.of l).text).1.toNat)).size) (go f (((l.drop (Ln.of l).size).drop (size (Ln.of l).text).1.toNat).drop (Ln.of ((l.drop (Ln.of l).size).drop (size (Ln.of l).text).1.toNat)).size) (n + (size (Ln.of l).text).1.toNat)) := by
  rw [go, if_neg h, if_neg (by rw [h1]; simp), if_neg h2, if_neg h3]
  simp only []
  rw [if_neg h4, if_neg h5, if_neg (fun e => e h6)]
  rfl
end
end
end
end
end
end
theorem trail_bad (h : (Ln.of l).code ≠ 0 ∨ (Ln.of l).ended = false) : trail (f + 1) l n = ⟨[], (Ln.of l).size, false, (Ln.of l).code⟩ := by rw [trail, if_pos h]
section
variable (h : ¬ ((Ln.of l).code ≠ 0 ∨ (Ln.of l).ended = false))
include h
theorem trail_end (h1 : (Ln.of l).text = []) : trail (f + 1) l n = ⟨[], (Ln.of l).size, true, 0⟩ := by rw [trail, if_neg h, if_pos h1]
section
variable (h1 : ¬ (Ln.of l).text = [])
include h1
theorem trail_many (h2 : n = 16) : trail (f + 1) l n = ⟨[], (Ln.of l).size, false, 8⟩ := by rw [trail, if_neg h, if_neg h1, if_pos h2]
section
variable (h2 : ¬ n = 16)
include h2
theorem trail_code (h3 : (Fd.of (Ln.of l).text).code ≠ 0) : trail (f + 1) l n = ⟨[], (Ln.of l).size, false, (Fd.of (Ln.of l).text).code⟩ := by rw [trail, if_neg h, if_neg h1, if_neg h2, if_pos h3]
theorem trail_next (h3 : (Fd.of (Ln.of l).text).code = 0) : trail (f + 1) l n = shift [] (Ln.of l).size (trail f (l.drop (Ln.of l).size) (n + 1)) := by
  rw [trail, if_neg h, if_neg h1, if_neg h2, if_neg (fun e => e h3)]; rfl
end
end
end
end
end Ck
/-- a number of six digits to the base 16 -/
theorem size_nat (t : List UInt8) : 0 ≤ (Ck.size t).1 ∧ (Ck.size t).1 < 68719476736 := by
  unfold Ck.size
  generalize Lib.trimS (t.take (Fd.at_ 59 t)) Ch.ws = l
  unfold Ch.number
  split
  · exact ⟨Int.le_refl _, by decide⟩
  · split
    · rename_i h1 h2
      have hl : ¬ (6 : Int) < l.length := fun e => h1 (Or.inr e)
      exact Ch.numOf_bound 16 (by omega) (by omega) l h2 (by omega)
    · exact ⟨Int.le_refl _, by decide⟩
end Go.Proofs.YtkbeaehjagdnnacGreatDoor

/- Texts without blanks at their ends, again. -/
namespace Go.Proofs.YtkbeaehjagdnnacGreatDoor
open Go.RowKit

theorem trimS_le (l : List UInt8) : (Lib.trimS l Ch.ws).length ≤ l.length := by
  unfold Lib.trimS Lib.trimLeftS Lib.trimRightS
  have h1 := (List.dropWhile_suffix (l := (l.reverse.dropWhile (Ch.ws.contains ·)).reverse) (Ch.ws.contains ·)).length_le
  have h2 := (List.dropWhile_suffix (l := l.reverse) (Ch.ws.contains ·)).length_le
  simp only [List.length_reverse] at h1 h2
  omega

theorem drop_again (p : UInt8 → Bool) : ∀ l : List UInt8, (l.dropWhile p).dropWhile p = l.dropWhile p
  | [] => rfl
  | a :: t => by
    rw [List.dropWhile_cons]
    cases hp : p a
    · simp only [Bool.false_eq_true, if_false]
      rw [List.dropWhile_cons, hp]
      rfl
    · simp only [if_true]
      exact drop_again p t

theorem trimS_again (l : List UInt8) : Lib.trimS (Lib.trimS l Ch.ws) Ch.ws = Lib.trimS l Ch.ws := by
  conv => lhs; rw [← Ch.trim_both]
  have h1 : Lib.trimLeftS (Lib.trimS l Ch.ws) Ch.ws = Lib.trimS l Ch.ws := drop_again _ _
  rw [h1, ← Ch.trim_both]
  unfold Lib.trimRightS
  rw [List.reverse_reverse, drop_again]
end Go.Proofs.YtkbeaehjagdnnacGreatDoor

/- Plain laws of a head's fields: there and back; with no program in them. -/
namespace Go.Proofs.YtkbeaehjagdnnacGreatDoor.Fd

/-- what stands first, as the library looks for it -/
theorem index_at (l : List UInt8) (c : UInt8) : (Lib.indexByte l c = -1 ∧ at_ c l = l.length) ∨ (Lib.indexByte l c = (at_ c l : Int) ∧ at_ c l < l.length) := by
  by_cases h : Lib.indexByte l c = -1
  · refine Or.inl ⟨h, at_none fun j hj e => ?_⟩
    exact Lib.indexByte_none h j (by rw [List.getElem?_eq_getElem hj, e])
  · have hge := Lib.indexByte_ge l c
    obtain ⟨o, ho⟩ : ∃ o : Nat, Lib.indexByte l c = o := ⟨(Lib.indexByte l c).toNat, by omega⟩
    obtain ⟨h1, h2⟩ := Lib.indexByte_some ho
    obtain ⟨hlt, he⟩ := List.getElem?_eq_some_iff.1 h1
    have : at_ c l = o := at_is hlt he fun j hj e => h2 j hj (by rw [List.getElem?_eq_getElem (by omega), e])
    refine Or.inr ⟨by rw [ho, this], by omega⟩

theorem all_dropWhile (p q : UInt8 → Bool) (h : ∀ b, q b = true → p b = true) : ∀ l : List UInt8, (l.dropWhile q).all p = l.all p
  | [] => rfl
  | a :: t => by
    rw [List.dropWhile_cons]
    cases hq : q a
    · rfl
    · rw [if_pos rfl, all_dropWhile p q h t, List.all_cons, h a hq]; rfl
theorem ws_seen (b : UInt8) (h : Ch.ws.contains b = true) : Ch.visible b.toNat = true := by
  have hb := b.toNat_lt
  have := (show ∀ n : Fin 256, Ch.ws.contains n.val.toUInt8 = true → Ch.visible ((n.val.toUInt8).toNat : Int) = true by decide +kernel) ⟨b.toNat, hb⟩
  have e : b.toNat.toUInt8 = b := by simp
  simp only [e] at this
  exact this h
/-- blanks and tabs are visible -/
theorem seen_trim (l : List UInt8) : Ch.isVisible (Lib.trimS l Ch.ws) = Ch.isVisible l := by
  unfold Ch.isVisible Lib.trimS Lib.trimLeftS Lib.trimRightS
  rw [all_dropWhile _ _ ws_seen, List.all_reverse, all_dropWhile _ _ ws_seen, List.all_reverse]
/-- a field out of a line: its value trimmed first -/
theorem of_trim (l : List UInt8) : of l = if at_ 58 l = l.length then bad 5
    else if Ch.isToken (l.take (at_ 58 l)) = false then bad 6
    else if 40 < at_ 58 l then bad 4
    else if Ch.isVisible (Lib.trimS (l.drop (at_ 58 l + 1)) Ch.ws) = false then bad 3
    else ⟨l.take (at_ 58 l), Lib.trimS (l.drop (at_ 58 l + 1)) Ch.ws, 0⟩ := by
  unfold of; rw [seen_trim]

theorem token_colon (n : List UInt8) (h : Ch.isToken n = true) (j : Nat) (hj : j < n.length) : n[j] ≠ 58 := by
  intro e
  unfold Ch.isToken at h
  rw [Bool.and_eq_true, List.all_eq_true] at h
  have := h.2 _ (List.getElem_mem hj)
  rw [e] at this
  exact absurd this (by decide)
theorem trim_blank (v : List UInt8) : Lib.trimS (32 :: v) Ch.ws = Lib.trimS v Ch.ws := by
  rw [← Ch.trim_both, ← Ch.trim_both]
  rfl
/-- a field that has a text -/
structure Good (n v : List UInt8) : Prop where
  tok : Ch.isToken n = true
  short : n.length ≤ 40
  seen : Ch.isVisible v = true
  trim : Lib.trimS v Ch.ws = v
theorem text_good {n v : List UInt8} (h : Good n v) (hl : n.length + 2 + v.length ≤ 200) : text n v = (n ++ [58, 32] ++ v, 0) := by
  unfold text
  rw [if_neg (by rw [h.tok]; simp), if_neg (by have := h.short; omega), if_neg (by rw [h.seen, h.trim]; simp)]
theorem text_long {n v : List UInt8} (h : Good n v) (hl : ¬ n.length + 2 + v.length ≤ 200) : text n v = ([], 4) := by
  unfold text
  rw [if_neg (by rw [h.tok]; simp), if_pos (by omega)]
theorem text_zero {n v : List UInt8} (h : (text n v).2 = 0) : Good n v ∧ n.length + 2 + v.length ≤ 200 := by
  unfold text at h
  split at h
  · simp at h
  · rename_i h1
    split at h
    · simp at h
    · rename_i h2
      split at h
      · simp at h
      · rename_i h3
        have q : Ch.isVisible v = true := by
          cases e : Ch.isVisible v
          · exact absurd (Or.inl e) h3
          · rfl
        have t : Lib.trimS v Ch.ws = v := by
          by_cases e : Lib.trimS v Ch.ws = v
          · exact e
          · exact absurd (Or.inr e) h3
        exact ⟨⟨by simpa using h1, by omega, q, t⟩, by omega⟩
/-- there -/
theorem of_text {n v : List UInt8} (h : Good n v) : of (n ++ [58, 32] ++ v) = ⟨n, v, 0⟩ := by
  have hlen : (n ++ [58, 32] ++ v).length = n.length + 2 + v.length := by simp; omega
  have hat : at_ 58 (n ++ [58, 32] ++ v) = n.length := by
    refine at_is (by omega) ?_ fun j hj => ?_
    · simp
    · have := token_colon n h.tok j hj
      simpa [List.getElem_append, hj] using this
  have hd : (n ++ [58, 32] ++ v).drop (n.length + 1) = 32 :: v := by
    rw [List.append_assoc, ← List.drop_drop]
    simp
  have ht : (n ++ [58, 32] ++ v).take n.length = n := by rw [List.append_assoc]; simp
  rw [of_trim, hat, hd, ht, trim_blank, h.trim, if_neg (by omega), if_neg (by rw [h.tok]; simp), if_neg (by have := h.short; omega), if_neg (by rw [h.seen]; simp)]
/-- and back -/
theorem of_good {l : List UInt8} (h : (of l).code = 0) : Good (of l).name (of l).value := by
  rw [of_trim] at h ⊢
  split at h
  · simp [bad] at h
  · rename_i h1
    rw [if_neg h1]
    split at h
    · simp [bad] at h
    · rename_i h2
      rw [if_neg h2]
      split at h
      · simp [bad] at h
      · rename_i h3
        rw [if_neg h3]
        split at h
        · simp [bad] at h
        · rename_i h4
          rw [if_neg h4]
          exact ⟨by simpa using h2, by rw [List.length_take]; omega, by simpa using h4, trimS_again _⟩
theorem of_bad {l : List UInt8} (h : (of l).code ≠ 0) : (of l).name = [] ∧ (of l).value = [] := by
  unfold of at h ⊢
  split
  · exact ⟨rfl, rfl⟩
  · rename_i h1
    rw [if_neg h1] at h
    split
    · exact ⟨rfl, rfl⟩
    · rename_i h2
      rw [if_neg h2] at h
      split
      · exact ⟨rfl, rfl⟩
      · rename_i h3
        rw [if_neg h3] at h
        split
        · exact ⟨rfl, rfl⟩
        · rename_i h4
          rw [if_neg h4] at h
          exact absurd rfl h
/-- what is read of a line is no longer than it -/
theorem of_length (l : List UInt8) : (of l).name.length ≤ l.length ∧ (of l).value.length ≤ l.length := by
  unfold of
  split
  · simp [bad]
  · split
    · simp [bad]
    · split
      · simp [bad]
      · split
        · simp [bad]
        · refine ⟨List.length_take_le' .., ?_⟩
          have := trimS_le (l.drop (at_ 58 l + 1))
          rw [List.length_drop] at this
          show (Lib.trimS (l.drop (at_ 58 l + 1)) Ch.ws).length ≤ l.length
          omega
theorem text_length (n v : List UInt8) : (text n v).1.length ≤ n.length + 2 + v.length := by
  unfold text
  split
  · simp
  · split
    · simp
    · split
      · simp
      · simp; omega
end Go.Proofs.YtkbeaehjagdnnacGreatDoor.Fd
