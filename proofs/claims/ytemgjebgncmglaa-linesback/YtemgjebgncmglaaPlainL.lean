/- Plain laws of lines in bytes, with no program in them: the line at the beginning of bytes, as the document's own answer has it. -/
import Derived.Test.YtemgjebgncmglaaPlainA
namespace Go.Proofs.Ytemgjebgncmglaa.Ln

/-- what is told of the line at the beginning of bytes: its text, how many bytes it has with its end, is there one, a code -/
structure Told where
  text : List UInt8
  size : Nat
  ended : Bool
  code : Nat
def open_ : Told := ⟨[], 0, false, 0⟩
def fails (i c : Nat) : Told := ⟨[], i, false, c⟩
/-- from the place i on, t being what is left there -/
def go (l : List UInt8) : Nat → List UInt8 → Told
  | _, [] => open_
  | i, c :: t =>
    if c = 13 then
      match t with
      | [] => open_
      | d :: _ => if d = 10 then ⟨l.take i, i + 2, true, 0⟩ else fails (i + 2) 2
    else if c = 10 then fails (i + 1) 2
    else if Ch.visible c.toNat = false then fails (i + 1) 3
    else if i = 200 then fails (i + 1) 4
    else go l (i + 1) t
def of (l : List UInt8) : Told := go l 0 l

theorem go_end (l : List UInt8) (i : Nat) (h : l.length ≤ i) : go l i (l.drop i) = open_ := by
  rw [List.drop_eq_nil_of_le h]; rfl
theorem go_at (l : List UInt8) (i : Nat) (h : i < l.length) : go l i (l.drop i) =
    if l[i] = 13 then
      (if h2 : i + 1 < l.length then (if l[i + 1] = 10 then ⟨l.take i, i + 2, true, 0⟩ else fails (i + 2) 2) else open_)
    else if l[i] = 10 then fails (i + 1) 2
    else if Ch.visible l[i].toNat = false then fails (i + 1) 3
    else if i = 200 then fails (i + 1) 4
    else go l (i + 1) (l.drop (i + 1)) := by
  rw [List.drop_eq_getElem_cons h]
  show (if l[i] = 13 then _ else _) = _
  by_cases h13 : l[i] = 13
  · rw [if_pos h13, if_pos h13]
    by_cases h2 : i + 1 < l.length
    · rw [dif_pos h2, List.drop_eq_getElem_cons h2]
    · rw [dif_neg h2, List.drop_eq_nil_of_le (by omega)]
  · rw [if_neg h13, if_neg h13]
end Go.Proofs.Ytemgjebgncmglaa.Ln
