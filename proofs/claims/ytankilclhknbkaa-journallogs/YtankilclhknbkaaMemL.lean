/- Lists of lists of bytes in memory, of whatever program: a slice of slices that is read. -/
import Derived.Test.YtankilclhknbkaaMemV
namespace Go.Proofs.Ytankilclhknbkaa
open Go.RowKit

/-- a slice of slices of bytes that reads as ls: whoever's memory it is -/
def IsL (w : World) (ao : Option Addr) (cap : Nat) (ls : List (List UInt8)) : Prop :=
  ls.length ≤ cap ∧ (ao = none → cap = 0) ∧ ∀ j (hj : j < ls.length), ∃ a bo c, ao = some a ∧ w.cell? (a.add j) = some (.slice bo ls[j].length c) ∧ IsB w bo c ls[j]
theorem IsL.nil (w : World) : IsL w none 0 [] := ⟨Nat.le_refl _, fun _ => rfl, fun j hj => by simp at hj⟩
theorem IsL.stay {w w' : World} {ao : Option Addr} {cap : Nat} {ls : List (List UInt8)} (h : IsL w ao cap ls) (hb : Below w.heap.size w w') : IsL w' ao cap ls := by
  refine ⟨h.1, h.2.1, fun j hj => ?_⟩
  obtain ⟨a, bo, c, e, hc, hI⟩ := h.2.2 j hj
  exact ⟨a, bo, c, e, by rw [hb.cell (World.block_lt_of_cell? w _ hc)]; exact hc, hI.stay hb⟩
/-- its address, written out -/
theorem IsL.lit {w : World} {ao : Option Addr} {cap : Nat} {ls : List (List UInt8)} (h : IsL w ao cap ls) (hl : 0 < ls.length) : ∃ b o, ao = Option.some ⟨b, o, Option.none⟩ ∧ ∀ j (hj : j < ls.length), ∃ bo c, w.cell? ⟨b, o + j, Option.none⟩ = Option.some (.slice bo ls[j].length c) ∧ IsB w bo c ls[j] := by
  obtain ⟨⟨b, o, sp⟩, _, _, rfl, h0, _⟩ := h.2.2 0 hl
  have hs : sp = Option.none := by simpa [Addr.add] using World.cell?_spot h0
  subst hs
  refine ⟨b, o, rfl, fun j hj => ?_⟩
  obtain ⟨a, bo, c, e, hc, hI⟩ := h.2.2 j hj
  injection e with e
  subst e
  rw [Addr.add_lit] at hc
  exact ⟨bo, c, hc, hI⟩
/-- element j, in every world that keeps what was there -/
theorem IsL.at_ {w : World} {b o cap : Nat} {ls : List (List UInt8)} (h : IsL w (Option.some ⟨b, o, Option.none⟩) cap ls) (j : Nat) (hj : j < ls.length) : ∃ bo c, ls[j].length ≤ c ∧ ∀ W, Below w.heap.size w W → W.cell? ⟨b, o + j, Option.none⟩ = Option.some (.slice bo ls[j].length c) ∧ IsB W bo c ls[j] := by
  obtain ⟨a, bo, c, e, hc, hI⟩ := h.2.2 j hj
  injection e with e
  subst e
  rw [Addr.add_lit] at hc
  exact ⟨bo, c, hI.1, fun W hb => ⟨by rw [hb.cell (World.block_lt_of_cell? w _ hc)]; exact hc, hI.stay hb⟩⟩
end Go.Proofs.Ytankilclhknbkaa
