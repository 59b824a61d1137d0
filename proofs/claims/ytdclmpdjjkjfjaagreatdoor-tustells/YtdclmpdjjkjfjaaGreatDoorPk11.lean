/- Small texts, one behind the other: MemK, TwoBl. -/
import Derived.Test.YtdclmpdjjkjfjaaGreatDoorPk8
import Derived.Test.YtdclmpdjjkjfjaaGreatDoorBase
import Derived.Test.YtdclmpdjjkjfjaaGreatDoorPk5
/- One block of a call's own, just behind a world, of whatever program. -/
namespace Go.Proofs.YtdclmpdjjkjfjaaGreatDoor
open Go.RowKit

/-- one block of the call's own, just behind world w -/
structure OneAt (w : World) (cs : Array Value) (t : Nat) (W : World) : Prop where
  one : W.heap[w.heap.size]? = some (.cells cs t (0, 0))
  below : Below w.heap.size w W
section
variable {w W W' : World} {cs : Array Value} {t : Nat}
theorem OneAt.stay (h : OneAt w cs t W) (hb : Below W.heap.size W W') : OneAt w cs t W' := ⟨(hb.block _ (Array.getElem?_eq_some_iff.1 h.one).1).trans h.one, then_ h.below hb⟩
theorem OneAt.turns {S : Nat → Prop} (h : OneAt w cs t W) (ht : Turns S W W') (hs : ∀ k, S k → w.heap.size < k) : OneAt w cs t W' := ⟨ht.row h.one (fun e => by have := hs _ e; omega), h.below.trans (ht.below (fun k e => by have := hs k e; omega) h.below.size)⟩
theorem OneAt.made (w : World) (cs : Array Value) (t : Nat) : OneAt w cs t (w.alloc (.cells cs t)) := ⟨heap_alloc_new w _, (Below.refl _ _).alloc (Nat.le_refl _) _⟩
theorem OneAt.cell (h : OneAt w cs t W) (j : Nat) : W.cell? ⟨w.heap.size, j, none⟩ = cs[j]? := cell_of_row W w.heap.size j _ _ _ h.one
theorem OneAt.fz (h : OneAt w cs t W) (j : Nat) : W.frozen? ⟨w.heap.size, j, none⟩ = false := frozen_of_row W w.heap.size j _ _ h.one
theorem OneAt.put (h : OneAt w cs t W) (j : Nat) (v : Value) : OneAt w (cs.setIfInBounds j v) t (W.setCell ⟨w.heap.size, j, none⟩ v) := by
  have hT : Turns (fun k => k = w.heap.size) W (W.setCell ⟨w.heap.size, j, none⟩ v) := setCells_turns w.heap.size [v] j W
  exact ⟨by rw [heap_setCell_same W w.heap.size j _ _ _ h.one], h.below.trans (hT.below (fun k e => by omega) h.below.size)⟩
theorem OneAt.lt (h : OneAt w cs t W) : w.heap.size < W.heap.size := (Array.getElem?_eq_some_iff.1 h.one).1
end
end Go.Proofs.YtdclmpdjjkjfjaaGreatDoor

/- Two blocks of a call's own, of whatever program. -/
namespace Go.Proofs.YtdclmpdjjkjfjaaGreatDoor
open Go.RowKit

/-- two blocks of the call's own, just behind world w -/
structure TwoAt (w : World) (r1 r2 : Obj) (W : World) : Prop where
  one : W.heap[w.heap.size]? = some r1
  two : W.heap[w.heap.size + 1]? = some r2
  below : Below w.heap.size w W
theorem TwoAt.stay {w W W' : World} {r1 r2 : Obj} (h : TwoAt w r1 r2 W) (hb : Below W.heap.size W W') : TwoAt w r1 r2 W' :=
  ⟨(hb.block _ (Array.getElem?_eq_some_iff.1 h.one).1).trans h.one, (hb.block _ (Array.getElem?_eq_some_iff.1 h.two).1).trans h.two, then_ h.below hb⟩
theorem TwoAt.cell {w W : World} {cs : Array Value} {t : Nat} {r2 : Obj} (h : TwoAt w (.cells cs t (0, 0)) r2 W) (j : Nat) : W.cell? ⟨w.heap.size, j, none⟩ = cs[j]? := cell_of_row W w.heap.size j _ _ _ h.one
theorem TwoAt.fz {w W : World} {cs : Array Value} {t : Nat} {r2 : Obj} (h : TwoAt w (.cells cs t (0, 0)) r2 W) (j : Nat) : W.frozen? ⟨w.heap.size, j, none⟩ = false := frozen_of_row W w.heap.size j _ _ h.one
theorem TwoAt.same {w W : World} {cs : Array Value} {t : Nat} {r2 : Obj} (h : TwoAt w (.cells cs t (0, 0)) r2 W) (j : Nat) (v : Value) (hv : cs.setIfInBounds j v = cs) : TwoAt w (.cells cs t (0, 0)) r2 (W.setCell ⟨w.heap.size, j, none⟩ v) := by
  have hT : Turns (fun k => k = w.heap.size) W (W.setCell ⟨w.heap.size, j, none⟩ v) := setCells_turns w.heap.size [v] j W
  refine ⟨by rw [heap_setCell_same W w.heap.size j _ _ _ h.one, hv], hT.row h.two (by omega), h.below.trans (hT.below (fun k e => by omega) h.below.size)⟩
theorem TwoAt.cell2 {w W : World} {cs : Array Value} {t : Nat} {r1 : Obj} (h : TwoAt w r1 (.cells cs t (0, 0)) W) (j : Nat) : W.cell? ⟨w.heap.size + 1, j, none⟩ = cs[j]? := cell_of_row W _ j _ _ _ h.two
theorem TwoAt.fz2 {w W : World} {cs : Array Value} {t : Nat} {r1 : Obj} (h : TwoAt w r1 (.cells cs t (0, 0)) W) (j : Nat) : W.frozen? ⟨w.heap.size + 1, j, none⟩ = false := frozen_of_row W _ j _ _ h.two
theorem TwoAt.put1 {w W : World} {cs : Array Value} {t : Nat} {r2 : Obj} (h : TwoAt w (.cells cs t (0, 0)) r2 W) (j : Nat) (v : Value) : TwoAt w (.cells (cs.setIfInBounds j v) t (0, 0)) r2 (W.setCell ⟨w.heap.size, j, none⟩ v) ∧ Turns (fun k => w.heap.size ≤ k ∧ k < w.heap.size + 2) W (W.setCell ⟨w.heap.size, j, none⟩ v) := by
  have hT : Turns (fun k => k = w.heap.size) W (W.setCell ⟨w.heap.size, j, none⟩ v) := setCells_turns w.heap.size [v] j W
  exact ⟨⟨by rw [heap_setCell_same W w.heap.size j _ _ _ h.one], hT.row h.two (by omega), h.below.trans (hT.below (fun k e => by omega) h.below.size)⟩, Turns.setCell _ W _ _ ⟨Nat.le_refl _, by show w.heap.size < _; omega⟩⟩
theorem TwoAt.put2 {w W : World} {cs : Array Value} {t : Nat} {r1 : Obj} (h : TwoAt w r1 (.cells cs t (0, 0)) W) (j : Nat) (v : Value) : TwoAt w r1 (.cells (cs.setIfInBounds j v) t (0, 0)) (W.setCell ⟨w.heap.size + 1, j, none⟩ v) ∧ Turns (fun k => w.heap.size ≤ k ∧ k < w.heap.size + 2) W (W.setCell ⟨w.heap.size + 1, j, none⟩ v) := by
  have hT : Turns (fun k => k = w.heap.size + 1) W (W.setCell ⟨w.heap.size + 1, j, none⟩ v) := setCells_turns (w.heap.size + 1) [v] j W
  exact ⟨⟨hT.row h.one (by omega), by rw [heap_setCell_same W (w.heap.size + 1) j _ _ _ h.two], h.below.trans (hT.below (fun k e => by omega) h.below.size)⟩, Turns.setCell _ W _ _ ⟨by show w.heap.size ≤ w.heap.size + 1; omega, by show w.heap.size + 1 < _; omega⟩⟩
theorem TwoAt.made (w : World) (cs ds : Array Value) (t u : Nat) : TwoAt w (.cells cs t (0, 0)) (.cells ds u (0, 0)) ((w.alloc (.cells cs t)).alloc (.cells ds u)) := by
  have b1 : Below w.heap.size w (w.alloc (.cells cs t)) := (Below.refl _ _).alloc (Nat.le_refl _) _
  have b2 : Below (w.alloc (.cells cs t)).heap.size (w.alloc (.cells cs t)) ((w.alloc (.cells cs t)).alloc (.cells ds u)) := (Below.refl _ _).alloc (Nat.le_refl _) _
  refine ⟨(b2.block w.heap.size (by simp)).trans (heap_alloc_new w _), ?_, then_ b1 b2⟩
  have := heap_alloc_new (w.alloc (.cells cs t)) (.cells ds u)
  rw [World.size_alloc] at this
  exact this
end Go.Proofs.YtdclmpdjjkjfjaaGreatDoor
