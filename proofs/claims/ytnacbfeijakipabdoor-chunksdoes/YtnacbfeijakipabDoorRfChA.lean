/- The document's own answer for a body in chunks: what its walk wants. -/
import Derived.Test.YtnacbfeijakipabDoorPk5
import Derived.Test.YtnacbfeijakipabDoorPk6
import Derived.Test.YtnacbfeijakipabDoorPk16
import Derived.Test.YtnacbfeijakipabDoorPk10
import Derived.Test.YtnacbfeijakipabDoorPk8
import Derived.Test.YtnacbfeijakipabDoorPk14
import Derived.Test.YtnacbfeijakipabDoorPk3
namespace Go.Proofs.YtnacbfeijakipabDoor
open Go.RowKit

/-- what is answered -/
def ChOut (w : World) (b : List UInt8) (e : Ending) (w' : World) : Prop := ∃ ao ca, e = .returned (.tuple #[.slice ao (Ck.of b).body.length ca, .int .i64 ((Ck.of b).used : Int), .bool (Ck.of b).over, .int .i64 ((Ck.of b).code : Int)]) ∧ IsB w' ao ca (Ck.of b).body ∧ Below w.heap.size w w'
theorem ChOut.of {w : World} {b : List UInt8} {e : Ending} {w' : World} (body : List UInt8) (used : Nat) (over : Bool) (code : Nat) (ao : Option Addr) (ca n : Nat) (z : Int) (hof : Ck.of b = ⟨body, used, over, code⟩) (hn : body.length = n) (hz : z = (used : Int)) (he : e = .returned (.tuple #[.slice ao n ca, .int .i64 z, .bool over, .int .i64 (code : Int)])) (hI : IsB w' ao ca body) (hB : Below w.heap.size w w') : ChOut w b e w' := by
  refine ⟨ao, ca, ?_, by rw [hof]; exact hI, hB⟩
  rw [he, hof, hz, ← hn]
/-- what the loop over chunks keeps -/
structure C1Rel (w : World) (b : List UInt8) (at_ : Nat) (ao : Option Addr) (ca n : Nat) (body : List UInt8) (f : Nat) (wr : World) : Prop where
  own : OwnB wr w.heap.size 5 ao ca body
  len : body.length = n
  n_ : n ≤ 4000
  f_ : (b.drop at_).length < f + 1
  of_ : Ck.of b = Ck.shift body at_ (Ck.go (f + 1) (b.drop at_) n)
  below : Below w.heap.size w wr
/-- what the loop over fields keeps -/
structure C2Rel (w : World) (b : List UInt8) (at_ k : Nat) (ao : Option Addr) (ca n : Nat) (body : List UInt8) (f : Nat) (wr : World) : Prop where
  own : OwnB wr w.heap.size 5 ao ca body
  len : body.length = n
  k_ : k ≤ 16
  f_ : (b.drop at_).length < f + 1
  of_ : Ck.of b = Ck.shift body at_ (Ck.trail (f + 1) (b.drop at_) k)
  below : Below w.heap.size w wr

section
variable {w : World} {b : List UInt8} {bb oo cap : Nat} (hb : IsB w (some ⟨bb, oo, none⟩) cap b) (h9 : b.length ≤ 9000)
include hb h9
/-- the line at a place -/
theorem lineFrom (k n c : Nat) (ao : Option Addr) (hk : k ≤ b.length) (hn : n = b.length - k) (hc : c = cap - k) (ha : cap ≠ k → ao = some ⟨bb, oo + k, none⟩) (W : World) (hW : Below w.heap.size w W) :
    Calls Tryd.prog 37 #[.slice ao n c] W fun e w' => e = .returned (.tuple #[.string ⟨(Ln.of (b.drop k)).text.toArray⟩, .int .i64 ((Ln.of (b.drop k)).size : Int), .bool (Ln.of (b.drop k)).ended, .int .i64 ((Ln.of (b.drop k)).code : Int)]) ∧ w' = W := by
  subst hn; subst hc
  have hcut := (hb.stay hW).cut (ao' := ao) k b.length hk (Nat.le_refl _) (fun e => by rw [ha e]; simp [Addr.add_lit])
  rw [show (b.drop k).take (b.length - k) = b.drop k by rw [List.take_of_length_le]; rw [List.length_drop]; omega] at hcut
  exact lineOf_any (b.drop k) ao (cap - k) (b.length - k) W hcut (by rw [List.length_drop]) (by omega)
end
/-- a line that ends -/
theorem line_good {l : List UInt8} (hbad : ¬ ((Ln.of l).code ≠ 0 ∨ (Ln.of l).ended = false)) : (Ln.of l).code = 0 ∧ (Ln.of l).ended = true ∧ 0 < (Ln.of l).size := by
  have hlc : (Ln.of l).code = 0 := by
    rcases Nat.eq_zero_or_pos (Ln.of l).code with h | h
    · exact h
    · exact absurd (Or.inl (by omega)) hbad
  have hen : (Ln.of l).ended = true := by
    cases h : (Ln.of l).ended
    · exact absurd (Or.inr h) hbad
    · rfl
  refine ⟨hlc, hen, ?_⟩
  rcases Nat.eq_zero_or_pos (Ln.of l).size with h | h
  · have := Ck.open_of h; rw [hen] at this; cases this.2
  · exact h
/-- what a line's size is found in -/
theorem size_of (t : List UInt8) (s : ByteArray) (hs : s.data.toList = t.take (Fd.at_ 59 t)) : Ck.size t = Ch.number 16 6 (Lib.trimS s.data.toList Ch.ws) := by unfold Ck.size; rw [hs]
end Go.Proofs.YtnacbfeijakipabDoor
