/- One block of a call's own, just behind a world, of whatever program. -/
import Derived.Test.YtjhbiipbmlpgoaaDoorPk6
import Derived.Test.YtjhbiipbmlpgoaaDoorBase
namespace Go.Proofs.YtjhbiipbmlpgoaaDoor
open Go.RowKit

/-- one block of the call's own, just behind world w -/
structure OneAt (w : World) (cs : Array Value) (t : Nat) (W : World) : Prop where
  one : W.heap[w.heap.size]? = some (.cells cs t (0, 0))
  below : Below w.heap.size w W
section
variable {w W W' : World} {cs : Array Value} {t : Nat}
theorem OneAt.stay (h : OneAt w cs t W) (hb : Below W.heap.size W W') : OneAt w cs t W' := ⟨(hb.block _ (Array.getElem?_eq_some_iff.1 h.one).1).trans h.one, then_ h.below hb⟩
theorem OneAt.turns {S : Nat → Prop} (h : OneAt w cs t W) (ht : Turns S W W') (hs : ∀ k, S k → w.heap.size < k) : OneAt w cs t W' := ⟨ht.row h.one (fun e => by have := hs _ e; omega), h.below.trans (ht.below (fun k e => by have := hs k e; omega) h.below.size)⟩
theorem OneAt.made (w : World) (cs : Array Value) (t : Nat) : OneAt w cs t (w.alloc (.cells cs t)) := ⟨heap_alloc_new w _, (Below.refl _ _).alloc (Nat.le_refl _) _⟩
theorem OneAt.cell (h : OneAt w cs t W) (j : Nat) : W.cell? ⟨w.heap.size, j, none⟩ = cs[j]? := cell_of_row W w.heap.size j _ _ _ h.one
theorem OneAt.fz (h : OneAt w cs t W) (j : Nat) : W.frozen? ⟨w.heap.size, j, none⟩ = false := frozen_of_row W w.heap.size j _ _ h.one
theorem OneAt.put (h : OneAt w cs t W) (j : Nat) (v : Value) : OneAt w (cs.setIfInBounds j v) t (W.setCell ⟨w.heap.size, j, none⟩ v) := by
  have hT : Turns (fun k => k = w.heap.size) W (W.setCell ⟨w.heap.size, j, none⟩ v) := setCells_turns w.heap.size [v] j W
  exact ⟨by rw [heap_setCell_same W w.heap.size j _ _ _ h.one], h.below.trans (hT.below (fun k e => by omega) h.below.size)⟩
theorem OneAt.lt (h : OneAt w cs t W) : w.heap.size < W.heap.size := (Array.getElem?_eq_some_iff.1 h.one).1
end
end Go.Proofs.YtjhbiipbmlpgoaaDoor
