/- What JournalLogs holds: a log, and beside it the same bytes of its own. -/
import Derived.Test.YtankilclhknbkaaJlB
namespace Go.Proofs.Ytankilclhknbkaa
open Go.RowKit

theorem LogAt.turns {w w' : World} {base g : Nat} {b : List UInt8} {sure : Nat} {ao : Option Addr} {ca : Nat} {S : Nat → Prop} (h : LogAt w base g b sure ao ca) (ht : Turns S w w') (hg : ¬ S g) (ha : ∀ a, ao = some a → ¬ S a.block) : LogAt w' base g b sure ao ca := ⟨ht.row h.row hg, h.own.turns ht ha, h.low, h.le, h.few⟩
structure LgAt (w W : World) (g : Nat) (b : List UInt8) (sure : Nat) (ao : Option Addr) (ca : Nat) (bo : Option Addr) (bc : Nat) : Prop where
  log : LogAt W w.heap.size g b sure ao ca
  own : OwnB W w.heap.size 5 bo bc b
  apart : ∀ k, blockOf ao = some k → blockOf bo ≠ some k
  below : Below w.heap.size w W
section
variable {w W w2 w3 : World} {g : Nat} {b x : List UInt8} {sure : Nat} {ao ao' : Option Addr} {ca ca' : Nat} {bo bo' : Option Addr} {bc bc' : Nat}
theorem LgAt.stay (h : LgAt w W g b sure ao ca bo bc) (hb : Below W.heap.size W w2) : LgAt w w2 g b sure ao ca bo bc := ⟨h.log.stay hb, h.own.stay hb, h.apart, then_ h.below hb⟩
theorem LgAt.gne (h : LgAt w W g b sure ao ca bo bc) : ∀ a, bo = some a → a.block ≠ g := by
  intro a e e2
  have := row_ne h.log.row h.own t_log
  rw [ownBlock_slice, e] at this
  exact this (by rw [← e2]; rfl)
theorem LgAt.base (h : LgAt w W g b sure ao ca bo bc) : w.heap.size ≤ W.heap.size := h.below.size
/-- what a step of the log leaves of the law's own bytes -/
theorem LgAt.kept (h : LgAt w W g b sure ao ca bo bc) (hT : Turns (LgF g ao) W w2) : OwnB w2 w.heap.size 5 bo bc b ∧ Below w.heap.size w w2 := by
  refine ⟨h.own.turns hT (fun a e e2 => ?_), h.below.trans (hT.below (fun k e => ?_) h.base)⟩
  · rcases e2 with e2 | e2
    · exact h.gne a e e2
    · exact h.apart _ e2 (by rw [e]; rfl)
  · rcases e with e | e
    · rw [e]; exact h.log.low
    · cases ao with
      | none => cases e
      | some a => injection e with e; have := (h.log.own.block a rfl).1; omega
theorem LgAt.write (h : LgAt w W g b sure ao ca bo bc) (hL : LogAt w2 w.heap.size g (b ++ x) sure ao' ca') (hT : Turns (LgF g ao) W w2) (hat : blockOf ao' = blockOf ao ∨ blockOf ao' = some W.heap.size) (hO : OwnB w3 w.heap.size 5 bo' bc' (b ++ x)) (hG : w2.grownBy w3 (blockOf bo)) (hat2 : blockOf bo' = blockOf bo ∨ blockOf bo' = some w2.heap.size) : LgAt w w3 g (b ++ x) sure ao' ca' bo' bc' := by
  obtain ⟨hk, hb2⟩ := h.kept hT
  have ht3 : Turns (fun k => blockOf bo = some k) w2 w3 := Turns.of_grown hG (fun k e => e)
  have hap : ∀ k, blockOf ao' = some k → blockOf bo ≠ some k := fun k e e2 => by
    rcases hat with hat | hat
    · exact h.apart k (hat ▸ e) e2
    · rw [hat] at e; injection e with e
      cases bo with
      | none => cases e2
      | some a => injection e2 with e2; have := (h.own.block a rfl).2; omega
  refine ⟨hL.turns ht3 (fun e => ?_) (fun a e e2 => hap _ (by rw [e]; rfl) e2), hO, fun k e e2 => ?_, hb2.trans (grown_base hk hG hb2.size)⟩
  · cases bo with
    | none => cases e
    | some a => injection e with e; exact h.gne a rfl e
  · rcases hat2 with hat2 | hat2
    · exact hap k e (hat2 ▸ e2)
    · rw [hat2] at e2; injection e2 with e2
      cases ao' with
      | none => cases e
      | some a => injection e with e; have := (hL.own.block a rfl).2; omega
theorem LgAt.turn {n sure' : Nat} (h : LgAt w W g b sure ao ca bo bc) (hn : n ≤ b.length) (hL : LogAt w2 w.heap.size g (b.take n) sure' ao ca) (hT : Turns (fun k => k = g) W w2) : LgAt w w2 g (b.take n) sure' ao ca bo bc := by
  obtain ⟨hk, hb⟩ := h.kept (hT.mono (fun k e => Or.inl e))
  exact ⟨hL, hk.less n hn, h.apart, hb⟩
theorem LgAt.same {sure' : Nat} (h : LgAt w W g b sure ao ca bo bc) (hL : LogAt w2 w.heap.size g b sure' ao ca) (hT : Turns (fun k => k = g) W w2) : LgAt w w2 g b sure' ao ca bo bc := by
  obtain ⟨hk, hb⟩ := h.kept (hT.mono (fun k e => Or.inl e))
  exact ⟨hL, hk, h.apart, hb⟩
/-- a block that was made behind all of it stays -/
theorem LgAt.far (h : LgAt w W g b sure ao ca bo bc) : ∀ k, LgF g ao k → k < W.heap.size := fun k e => by
  rcases e with e | e
  · rw [e]; exact h.log.lt
  · cases ao with
    | none => cases e
    | some a => injection e with e; have := (h.log.own.block a rfl).2; omega
end
end Go.Proofs.Ytankilclhknbkaa
