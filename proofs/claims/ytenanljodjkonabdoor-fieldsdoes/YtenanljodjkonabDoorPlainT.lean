/- Texts without blanks at their ends, again. -/
import Derived.Test.YtenanljodjkonabDoorPlainB
namespace Go.Proofs.YtenanljodjkonabDoor
open Go.RowKit

theorem trimS_le (l : List UInt8) : (Lib.trimS l Ch.ws).length ≤ l.length := by
  unfold Lib.trimS Lib.trimLeftS Lib.trimRightS
  have h1 := (List.dropWhile_suffix (l := (l.reverse.dropWhile (Ch.ws.contains ·)).reverse) (Ch.ws.contains ·)).length_le
  have h2 := (List.dropWhile_suffix (l := l.reverse) (Ch.ws.contains ·)).length_le
  simp only [List.length_reverse] at h1 h2
  omega

theorem drop_again (p : UInt8 → Bool) : ∀ l : List UInt8, (l.dropWhile p).dropWhile p = l.dropWhile p
  | [] => rfl
  | a :: t => by
    rw [List.dropWhile_cons]
    cases hp : p a
    · simp only [Bool.false_eq_true, if_false]
      rw [List.dropWhile_cons, hp]
      rfl
    · simp only [if_true]
      exact drop_again p t

theorem trimS_again (l : List UInt8) : Lib.trimS (Lib.trimS l Ch.ws) Ch.ws = Lib.trimS l Ch.ws := by
  conv => lhs; rw [← Ch.trim_both]
  have h1 : Lib.trimLeftS (Lib.trimS l Ch.ws) Ch.ws = Lib.trimS l Ch.ws := drop_again _ _
  rw [h1, ← Ch.trim_both]
  unfold Lib.trimRightS
  rw [List.reverse_reverse, drop_again]
end Go.Proofs.YtenanljodjkonabDoor
