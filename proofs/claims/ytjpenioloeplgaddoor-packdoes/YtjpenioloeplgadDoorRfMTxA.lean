/- The document's own answer: MediaText: what lies in memory while it runs. -/
import Derived.Test.YtjpenioloeplgadDoorPk2
import Derived.Test.YtjpenioloeplgadDoorPk11
import Derived.Test.YtjpenioloeplgadDoorPk6
import Derived.Deep.RegionHeld3
import Derived.Deep.DeepCutAuto
namespace Go.Proofs.YtjpenioloeplgadDoor
open Go.RowKit

/-- what is answered: a text, or a code -/
def MTxt (m : Nat ⊕ List UInt8) (e : Ending) : Prop :=
  ∃ (x : ByteArray) (code : Nat), e = .returned (.tuple #[.string x, .int .i64 (code : Int)]) ∧ match m with
    | .inl c => code = c ∧ x = ⟨#[]⟩
    | .inr t => code = 0 ∧ x.data.toList = t
theorem MTxt.bad {m : Nat ⊕ List UInt8} {c : Nat} (hm : m = .inl c) : MTxt m (.returned (.tuple #[.string ⟨#[]⟩, .int .i64 (c : Int)])) := by
  subst hm; exact ⟨_, c, rfl, rfl, rfl⟩
theorem MTxt.good {m : Nat ⊕ List UInt8} {x : ByteArray} (hm : m = .inr x.data.toList) : MTxt m (.returned (.tuple #[.string x, .int .i64 0])) := by
  subst hm; exact ⟨x, 0, rfl, rfl, rfl⟩
/-- the value in its box -/
structure BoxM (w : World) (wd : ByteArray) (ao : Option Addr) (n cap : Nat) (wr : World) : Prop where
  box : wr.heap[w.heap.size]? = some (.cells #[.string wd, .slice ao n cap] 41 (0, 0))
  below : Below w.heap.size w wr
section
variable {w wr w' : World} {wd : ByteArray} {ao : Option Addr} {n cap : Nat}
theorem BoxM.size (h : BoxM w wd ao n cap wr) : w.heap.size < wr.heap.size := (Array.getElem?_eq_some_iff.1 h.box).1
theorem BoxM.keep (h : BoxM w wd ao n cap wr) (hb : Below wr.heap.size wr w') : BoxM w wd ao n cap w' := by
  have hs := h.size
  exact ⟨(hb.block _ hs).trans h.box, h.below.trans (hb.mono (by omega))⟩
theorem BoxM.drewN (h : BoxM w wd ao n cap wr) (q : Nat) : BoxM w wd ao n cap (wr.drewN q) := h.keep ⟨rfl, rfl, rfl, Nat.le_refl _, fun _ _ => rfl⟩
theorem BoxM.start (w : World) (wd : ByteArray) (ao : Option Addr) (n cap : Nat) : BoxM w wd ao n cap (w.alloc (.cells #[.string wd, .slice ao n cap] 41)) := ⟨heap_alloc_new w _, (Below.refl _ _).alloc (Nat.le_refl _) _⟩
theorem BoxM.cells (h : BoxM w wd ao n cap wr) : wr.cell? ⟨w.heap.size, 0, none⟩ = some (.string wd) ∧ wr.cell? ⟨w.heap.size, 1, none⟩ = some (.slice ao n cap) := ⟨cell_of_row wr _ 0 _ _ _ h.box, cell_of_row wr _ 1 _ _ _ h.box⟩
/-- beside it a parameter, at block q -/
structure BoxP (w : World) (wd : ByteArray) (ao : Option Addr) (n cap q : Nat) (nm v : ByteArray) (wr : World) : Prop where
  box : BoxM w wd ao n cap wr
  par : wr.heap[q]? = some (.cells #[.string nm, .string v] 38 (0, 0))
variable {q : Nat} {nm v : ByteArray}
theorem BoxP.start (h : BoxM w wd ao n cap wr) (nm v : ByteArray) : BoxP w wd ao n cap wr.heap.size nm v (wr.alloc (.cells #[.string nm, .string v] 38)) :=
  ⟨h.keep ((Below.refl _ _).alloc (Nat.le_refl _) _), heap_alloc_new wr _⟩
theorem BoxP.keep (h : BoxP w wd ao n cap q nm v wr) (hb : Below wr.heap.size wr w') : BoxP w wd ao n cap q nm v w' :=
  ⟨h.box.keep hb, (hb.block _ (Array.getElem?_eq_some_iff.1 h.par).1).trans h.par⟩
theorem BoxP.drewN (h : BoxP w wd ao n cap q nm v wr) (z : Nat) : BoxP w wd ao n cap q nm v (wr.drewN z) := h.keep ⟨rfl, rfl, rfl, Nat.le_refl _, fun _ _ => rfl⟩
theorem BoxP.cells (h : BoxP w wd ao n cap q nm v wr) : wr.cell? ⟨q, 0, none⟩ = some (.string nm) ∧ wr.cell? ⟨q, 1, none⟩ = some (.string v) := ⟨cell_of_row wr _ 0 _ _ _ h.par, cell_of_row wr _ 1 _ _ _ h.par⟩
end
end Go.Proofs.YtjpenioloeplgadDoor
