/- What of memory a call may turn: a set of blocks; and what stays by it. -/
import Derived.Test.YtankilclhknbkaaMemV
import Derived.Deep.OwnRows
namespace Go.Proofs.Ytankilclhknbkaa
open Go.RowKit

/-- blocks of elements of different types differ -/
theorem row_ne {w : World} {g : Nat} {cs : Array Value} {t : Nat} {fr : Nat × Nat} {base e size : Nat} {v : Value} {n : Nat} {xs : List Value} (hg : w.heap[g]? = some (.cells cs t fr)) (h : w.ownsRow base e size v n xs) (hne : t ≠ e) : v.ownBlock ≠ some g := by
  rcases h.2 with ⟨rfl, _⟩ | ⟨g', cap, cur, rfl, _, hg', _⟩
  · simp [Value.ownBlock]
  · intro e
    simp [Value.ownBlock] at e
    subst e
    rw [hg] at hg'
    injection hg' with hg'
    injection hg' with _ e _
    exact hne e
theorem row_is_ne {w : World} {g b : Nat} {cs : Array Value} {t e : Nat} {fr : Nat × Nat} {n : Nat} {f : Nat → Value} (hg : w.heap[g]? = some (.cells cs t fr)) (h : w.rowIs b e n f) (hne : t ≠ e) : b ≠ g := by
  rintro rfl
  obtain ⟨c, hc, _⟩ := h
  rw [hg] at hc
  injection hc with hc
  injection hc with _ e' _
  exact hne e'
/-- all that is outside of the blocks S stays; new blocks may come -/
structure Turns (S : Nat → Prop) (w w' : World) : Prop where
  os : w'.os = w.os
  tape : w'.tape = w.tape
  output : w'.output = w.output
  size : w.heap.size ≤ w'.heap.size
  block : ∀ k, k < w.heap.size → ¬ S k → w'.heap[k]? = w.heap[k]?
/-- S, and all that is new -/
def orNew (S : Nat → Prop) (w : World) : Nat → Prop := fun k => S k ∨ w.heap.size ≤ k
section
variable {S S' : Nat → Prop} {w w1 w' : World}
theorem Turns.refl (S : Nat → Prop) (w : World) : Turns S w w := ⟨rfl, rfl, rfl, Nat.le_refl _, fun _ _ _ => rfl⟩
theorem Turns.mono (h : Turns S w w') (hs : ∀ k, S k → S' k) : Turns S' w w' := ⟨h.os, h.tape, h.output, h.size, fun k hk hn => h.block k hk (fun e => hn (hs k e))⟩
/-- one behind the other -/
theorem Turns.trans (h : Turns S w w1) (k : Turns S' w1 w') (hs : ∀ i, S' i → i < w.heap.size → S i) : Turns S w w' :=
  ⟨k.os.trans h.os, k.tape.trans h.tape, k.output.trans h.output, Nat.le_trans h.size k.size, fun i hi hn => (k.block i (Nat.lt_of_lt_of_le hi h.size) (fun e => hn (hs i e hi))).trans (h.block i hi hn)⟩
theorem Turns.then_ (h : Turns S w w1) (k : Turns (orNew S w) w1 w') : Turns S w w' := h.trans k (fun i e hi => by
  rcases e with e | e
  · exact e
  · omega)
theorem Turns.of_grown {row : Option Nat} (h : w.grownBy w' row) (hr : ∀ k, row = some k → S k) : Turns S w w' := ⟨h.os, h.tape, h.output, h.size, fun k hk hn => h.block k hk (fun e => hn (hr k e.symm))⟩
theorem Turns.of_below (h : Below w.heap.size w w') : Turns S w w' := ⟨h.os, h.tape, h.output, h.size, fun k hk _ => h.block k hk⟩
theorem Turns.drewN (S : Nat → Prop) (w : World) (n : Nat) : Turns S w (w.drewN n) := ⟨rfl, rfl, rfl, Nat.le_refl _, fun _ _ _ => rfl⟩
theorem Turns.setCell (S : Nat → Prop) (w : World) (a : Addr) (v : Value) (h : S a.block) : Turns S w (w.setCell a v) := ⟨rfl, rfl, rfl, by simp [World.setCell], fun k _ hn => heap_setCell_other w a k v (fun e => hn (by rw [e]; exact h))⟩
theorem Turns.below {B : Nat} (h : Turns S w w') (hs : ∀ k, S k → B ≤ k) (hB : B ≤ w.heap.size) : Below B w w' := ⟨h.os, h.tape, h.output, h.size, fun k hk => h.block k (by omega) (fun e => by have := hs k e; omega)⟩
theorem Turns.row (h : Turns S w w') {k : Nat} {o : Obj} (hk : w.heap[k]? = some o) (hn : ¬ S k) : w'.heap[k]? = some o := (h.block k (Array.getElem?_eq_some_iff.1 hk).1 hn).trans hk
theorem OwnB.turns {base t : Nat} {ao : Option Addr} {cap : Nat} {l : List UInt8} (h : OwnB w base t ao cap l) (ht : Turns S w w') (ha : ∀ a, ao = some a → ¬ S a.block) : OwnB w' base t ao cap l := by
  refine ⟨h.1, ?_⟩
  rcases h.2 with hn | ⟨g, cap', cur, e, hg, hh, r⟩
  · exact Or.inl hn
  · refine Or.inr ⟨g, cap', cur, e, hg, ?_, r⟩
    injection e with e1 e2 e3
    exact ht.row hh (ha _ e1)
theorem OwnV.turns {base t k : Nat} {ao : Option Addr} {cap n : Nat} {xs : List Value} (h : OwnV w base t k ao cap n xs) (ht : Turns S w w') (ha : ∀ a, ao = some a → ¬ S a.block) : OwnV w' base t k ao cap n xs := by
  refine ⟨h.1, ?_⟩
  rcases h.2 with hn | ⟨g, cap', cur, e, hg, hh, r⟩
  · exact Or.inl hn
  · refine Or.inr ⟨g, cap', cur, e, hg, ?_, r⟩
    injection e with e1 e2 e3
    exact ht.row hh (ha _ e1)
theorem IsB.turns {ao : Option Addr} {cap : Nat} {l : List UInt8} (h : IsB w ao cap l) (ht : Turns S w w') (ha : ∀ a, ao = Option.some a → ¬ S a.block) : IsB w' ao cap l :=
  h.move fun a e v j hv => by
    have hb := ht.block (a.add j).block (World.block_lt_of_cell? w _ hv) (by rw [add_block]; exact ha a e)
    rw [World.cell?_of_block hb]; exact hv
theorem IsV.turns {ao : Option Addr} {cap n : Nat} {xs : List Value} (h : IsV w ao cap n xs) (ht : Turns S w w') (ha : ∀ a, ao = Option.some a → ¬ S a.block) : IsV w' ao cap n xs :=
  h.move fun a e v j hv => by
    have hb := ht.block (a.add j).block (World.block_lt_of_cell? w _ hv) (by rw [add_block]; exact ha a e)
    rw [World.cell?_of_block hb]; exact hv
end
end Go.Proofs.Ytankilclhknbkaa
