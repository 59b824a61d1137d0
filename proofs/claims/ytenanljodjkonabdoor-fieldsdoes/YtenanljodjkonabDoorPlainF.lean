/- Plain laws of a head's fields, with no program in them: a field out of a line, a line out of a field, as the document's own answer has them. -/
import Derived.Test.YtenanljodjkonabDoorPlainB
namespace Go.Proofs.YtenanljodjkonabDoor.Fd

/-- where a byte stands first; the length: nowhere -/
def at_ (c : UInt8) (l : List UInt8) : Nat := l.findIdx (· == c)
theorem at_le (c : UInt8) (l : List UInt8) : at_ c l ≤ l.length := List.findIdx_le_length
theorem at_here {c : UInt8} {l : List UInt8} (h : at_ c l < l.length) : l[at_ c l] = c := by
  have := List.findIdx_getElem (w := h)
  exact beq_iff_eq.1 this
theorem at_first {c : UInt8} {l : List UInt8} {j : Nat} (h : j < at_ c l) (hj : j < l.length) : l[j] ≠ c := by
  have := List.not_of_lt_findIdx h
  intro e
  exact absurd (beq_iff_eq.2 e) (by simpa using this)
theorem at_none {c : UInt8} {l : List UInt8} (h : ∀ j (hj : j < l.length), l[j] ≠ c) : at_ c l = l.length := by
  rcases Nat.lt_or_ge (at_ c l) l.length with g | g
  · exact absurd (at_here g) (h _ g)
  · exact Nat.le_antisymm (at_le c l) g
theorem at_is {c : UInt8} {l : List UInt8} {k : Nat} (hk : k < l.length) (h : l[k] = c) (hf : ∀ j (hj : j < k), l[j] ≠ c) : at_ c l = k := by
  rcases Nat.lt_trichotomy (at_ c l) k with g | g | g
  · exact absurd (at_here (Nat.lt_trans g hk)) (hf _ g)
  · exact g
  · exact absurd h (at_first g hk)

/-- a field, and a code -/
structure Told where
  name : List UInt8
  value : List UInt8
  code : Nat
def bad (c : Nat) : Told := ⟨[], [], c⟩
/-- a field out of a line -/
def of (l : List UInt8) : Told :=
  if at_ 58 l = l.length then bad 5
  else if Ch.isToken (l.take (at_ 58 l)) = false then bad 6
  else if 40 < at_ 58 l then bad 4
  else if Ch.isVisible (l.drop (at_ 58 l + 1)) = false then bad 3
  else ⟨l.take (at_ 58 l), Lib.trimS (l.drop (at_ 58 l + 1)) Ch.ws, 0⟩
/-- a line out of a field: its text, and a code -/
def text (n v : List UInt8) : List UInt8 × Nat :=
  if Ch.isToken n = false then ([], 6)
  else if 40 < n.length ∨ 200 < n.length + 2 + v.length then ([], 4)
  else if Ch.isVisible v = false ∨ Lib.trimS v Ch.ws ≠ v then ([], 3)
  else (n ++ [58, 32] ++ v, 0)
end Go.Proofs.YtenanljodjkonabDoor.Fd
