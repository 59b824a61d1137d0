/- Small texts, one behind the other: RfMedA, TuM. -/
import Derived.Test.YtdclmpdjjkjfjaaGreatDoorPk1
import Derived.Test.YtdclmpdjjkjfjaaGreatDoorPk14
import Derived.Test.YtdclmpdjjkjfjaaGreatDoorPk5
import Derived.Test.YtdclmpdjjkjfjaaGreatDoorPk12
import Derived.Deep.RegionHeld3
import Derived.Deep.DeepCutAuto
import Derived.Test.YtdclmpdjjkjfjaaGreatDoorPk6
/- The document's own answer: MediaOf: what lies in memory while it runs. -/
namespace Go.Proofs.YtdclmpdjjkjfjaaGreatDoor
open Go.RowKit

/-- what is told, and what was reckoned -/
def MedIs (m : Nat ⊕ (List UInt8 × List Pm.Par)) (word : ByteArray) (ps : List (ByteArray × ByteArray)) (code : Nat) : Prop :=
  match m with
  | .inl c => code = c ∧ word = ⟨#[]⟩ ∧ ps = []
  | .inr x => code = 0 ∧ word.data.toList = x.1 ∧ parL ps = x.2
/-- what is answered -/
def MedOut (w : World) (m : Nat ⊕ (List UInt8 × List Pm.Par)) (e : Ending) (w' : World) : Prop :=
  ∃ word ps ao cap, ∃ code : Nat, e = .returned (.tuple #[.agg #[.string word, .slice ao ps.length cap], .int .i64 (code : Int)]) ∧ MedIs m word ps code ∧ OwnV w' w.heap.size 133 2 ao cap ps.length (pairV ps) ∧ Below w.heap.size w w'
theorem MedOut.bad {w w' : World} {m : Nat ⊕ (List UInt8 × List Pm.Par)} {c : Nat} (hm : m = .inl c) (hb : Below w.heap.size w w') : MedOut w m (.returned (.tuple #[.agg #[.string ⟨#[]⟩, .slice none 0 0], .int .i64 (c : Int)])) w' := by
  subst hm
  exact ⟨⟨#[]⟩, [], none, 0, c, rfl, ⟨rfl, rfl, rfl⟩, OwnV.nil _ _ _ _, hb⟩
/-- the value that grows, and beside it the answer's place -/
structure MedAt (w : World) (word : ByteArray) (ps : List (ByteArray × ByteArray)) (ao : Option Addr) (cap : Nat) (wr : World) : Prop where
  res : wr.heap[w.heap.size]? = some (.cells #[.string ⟨#[]⟩, .slice none 0 0] 113 (0, 0))
  med : wr.heap[w.heap.size + 1]? = some (.cells #[.string word, .slice ao ps.length cap] 113 (0, 0))
  own : OwnV wr (w.heap.size + 2) 133 2 ao cap ps.length (pairV ps)
  below : Below w.heap.size w wr
section
variable {w wr w' : World} {word : ByteArray} {ps : List (ByteArray × ByteArray)} {ao : Option Addr} {cap : Nat}
theorem MedAt.size (h : MedAt w word ps ao cap wr) : w.heap.size + 2 ≤ wr.heap.size := by
  have := (Array.getElem?_eq_some_iff.1 h.med).1; omega
theorem MedAt.keep (h : MedAt w word ps ao cap wr) (hb : Below wr.heap.size wr w') : MedAt w word ps ao cap w' := by
  have hs := h.size
  exact ⟨(hb.block _ (by omega)).trans h.res, (hb.block _ (by omega)).trans h.med, h.own.stay hb, h.below.trans (hb.mono (by omega))⟩
theorem MedAt.cells (h : MedAt w word ps ao cap wr) : wr.cell? ⟨w.heap.size, 0, none⟩ = some (.string ⟨#[]⟩) ∧ wr.cell? ⟨w.heap.size, 1, none⟩ = some (.slice none 0 0) ∧ wr.frozen? ⟨w.heap.size, 0, none⟩ = false ∧ wr.frozen? ⟨w.heap.size, 1, none⟩ = false ∧
    wr.cell? ⟨w.heap.size + 1, 0, none⟩ = some (.string word) ∧ wr.cell? ⟨w.heap.size + 1, 1, none⟩ = some (.slice ao ps.length cap) ∧ wr.frozen? ⟨w.heap.size + 1, 0, none⟩ = false ∧ wr.frozen? ⟨w.heap.size + 1, 1, none⟩ = false :=
  ⟨cell_of_row wr _ 0 _ _ _ h.res, cell_of_row wr _ 1 _ _ _ h.res, frozen_of_row wr _ 0 _ _ h.res, frozen_of_row wr _ 1 _ _ h.res, cell_of_row wr _ 0 _ _ _ h.med, cell_of_row wr _ 1 _ _ _ h.med, frozen_of_row wr _ 0 _ _ h.med, frozen_of_row wr _ 1 _ _ h.med⟩
/-- its word is laid anew -/
theorem MedAt.word_ (h : MedAt w word ps ao cap wr) (x : ByteArray) : MedAt w x ps ao cap (wr.setCell ⟨w.heap.size + 1, 0, none⟩ (.string x)) := by
  refine ⟨?_, ?_, h.own.turns (Turns.setCell (fun i => i = w.heap.size + 1) wr _ _ rfl) (fun a e e2 => by have := (h.own.block a e).1; omega), h.below.setCell (by simp) _⟩
  · rw [heap_setCell_other _ _ _ _ (by simp)]; exact h.res
  · rw [heap_setCell_same wr (w.heap.size + 1) 0 _ _ _ h.med]; rfl
/-- its parameters are laid anew -/
theorem MedAt.pars {ps' : List (ByteArray × ByteArray)} {ao' : Option Addr} {cap' : Nat} (h : MedAt w word ps ao cap wr) (ho : OwnV w' (w.heap.size + 2) 133 2 ao' cap' ps'.length (pairV ps')) (hb : Below (w.heap.size + 2) wr w') (n : Nat) (hn : n = ps'.length) : MedAt w word ps' ao' cap' (w'.setCell ⟨w.heap.size + 1, 1, none⟩ (.slice ao' n cap')) := by
  subst hn
  have hr := (hb.block (w.heap.size) (by omega)).trans h.res
  have hm := (hb.block (w.heap.size + 1) (by omega)).trans h.med
  refine ⟨?_, ?_, ho.turns (Turns.setCell (fun i => i = w.heap.size + 1) w' _ _ rfl) (fun a e e2 => by have := (ho.block a e).1; omega), (h.below.trans (hb.mono (by omega))).setCell (by simp) _⟩
  · rw [heap_setCell_other _ _ _ _ (by simp)]; exact hr
  · rw [heap_setCell_same w' (w.heap.size + 1) 1 _ _ _ hm]; rfl
theorem MedAt.drewN (h : MedAt w word ps ao cap wr) (n : Nat) : MedAt w word ps ao cap (wr.drewN n) := h.keep ⟨rfl, rfl, rfl, Nat.le_refl _, fun _ _ => rfl⟩
theorem MedAt.start (w : World) (x : ByteArray) (n : Nat) : MedAt w x [] none 0 (((w.alloc (.cells #[.string ⟨#[]⟩, .slice none 0 0] 113)).drewN n).alloc (.cells #[.string x, .slice none 0 0] 113)) := by
  have e1 := heap_alloc_new w (.cells #[.string ⟨#[]⟩, .slice none 0 0] 113)
  have e2 := heap_alloc_new ((w.alloc (.cells #[.string ⟨#[]⟩, .slice none 0 0] 113)).drewN n) (.cells #[.string x, .slice none 0 0] 113)
  have hz : ((w.alloc (.cells #[.string ⟨#[]⟩, .slice none 0 0] 113)).drewN n).heap.size = w.heap.size + 1 := by simp [World.drewN]
  rw [hz] at e2
  have b1 : Below w.heap.size w (w.alloc (.cells #[.string ⟨#[]⟩, .slice none 0 0] 113)) := (Below.refl _ _).alloc (Nat.le_refl _) _
  have b2 : Below w.heap.size w ((w.alloc (.cells #[.string ⟨#[]⟩, .slice none 0 0] 113)).drewN n) := b1.trans ⟨rfl, rfl, rfl, Nat.le_refl _, fun _ _ => rfl⟩
  refine ⟨?_, e2, OwnV.nil _ _ _ _, b2.alloc (by rw [hz]; omega) _⟩
  rw [(World.grownBy_alloc _ _ none).block w.heap.size (by rw [hz]; omega) (by simp)]
  exact e1
/-- a parameter that is read beside it, at block q -/
structure MedPar (w : World) (word : ByteArray) (ps : List (ByteArray × ByteArray)) (ao : Option Addr) (cap q : Nat) (nm v : ByteArray) (wr : World) : Prop where
  med : MedAt w word ps ao cap wr
  par : wr.heap[q]? = some (.cells #[.string nm, .string v] 133 (0, 0))
  q_ : w.heap.size + 2 ≤ q
  apart : ∀ a, ao = some a → a.block ≠ q
variable {q : Nat} {nm v : ByteArray}
theorem MedPar.start (h : MedAt w word ps ao cap wr) (n : Nat) (nm : ByteArray) : MedPar w word ps ao cap wr.heap.size nm ⟨#[]⟩ ((wr.drewN n).alloc (.cells #[.string nm, .string ⟨#[]⟩] 133)) := by
  have hs := h.size
  refine ⟨(h.drewN n).keep ((Below.refl _ _).alloc (Nat.le_refl _) _), heap_alloc_new (wr.drewN n) _, hs, fun a e e2 => ?_⟩
  have := (h.own.block a e).2
  omega
theorem MedPar.keep (h : MedPar w word ps ao cap q nm v wr) (hb : Below wr.heap.size wr w') : MedPar w word ps ao cap q nm v w' :=
  ⟨h.med.keep hb, (hb.block _ (Array.getElem?_eq_some_iff.1 h.par).1).trans h.par, h.q_, h.apart⟩
theorem MedPar.drewN (h : MedPar w word ps ao cap q nm v wr) (n : Nat) : MedPar w word ps ao cap q nm v (wr.drewN n) := h.keep ⟨rfl, rfl, rfl, Nat.le_refl _, fun _ _ => rfl⟩
theorem MedPar.cells (h : MedPar w word ps ao cap q nm v wr) : wr.cell? ⟨q, 0, none⟩ = some (.string nm) ∧ wr.cell? ⟨q, 1, none⟩ = some (.string v) ∧ wr.frozen? ⟨q, 0, none⟩ = false ∧ wr.frozen? ⟨q, 1, none⟩ = false :=
  ⟨cell_of_row wr _ 0 _ _ _ h.par, cell_of_row wr _ 1 _ _ _ h.par, frozen_of_row wr _ 0 _ _ h.par, frozen_of_row wr _ 1 _ _ h.par⟩
/-- behind an append -/
theorem MedPar.row (h : MedPar w word ps ao cap q nm v wr) (o : Obj) {w3 : World} (hG : (wr.alloc o).grownBy w3 (blockOf ao)) : Below (w.heap.size + 2) wr w3 := by
  have hs := h.med.size
  refine ((Below.refl _ _).alloc hs o).grown hG (by simp; omega) (fun k e => ?_)
  cases ao with
  | none => simp [blockOf] at e
  | some a => simp only [blockOf, Option.some.injEq] at e; have := (h.med.own.block a rfl).1; omega
theorem MedPar.name (h : MedPar w word ps ao cap q nm v wr) (x : ByteArray) : MedPar w word ps ao cap q x v (wr.setCell ⟨q, 0, none⟩ (.string x)) := by
  have hq := h.q_
  refine ⟨⟨?_, ?_, h.med.own.turns (Turns.setCell (fun i => i = q) wr _ _ rfl) (fun a e e2 => h.apart a e e2), h.med.below.setCell (show w.heap.size ≤ q by omega) _⟩, ?_, hq, h.apart⟩
  · rw [heap_setCell_other _ _ _ _ (show w.heap.size ≠ q by omega)]; exact h.med.res
  · rw [heap_setCell_other _ _ _ _ (show w.heap.size + 1 ≠ q by omega)]; exact h.med.med
  · rw [heap_setCell_same wr q 0 _ _ _ h.par]; rfl
theorem MedPar.value (h : MedPar w word ps ao cap q nm v wr) (x : ByteArray) : MedPar w word ps ao cap q nm x (wr.setCell ⟨q, 1, none⟩ (.string x)) := by
  have hq := h.q_
  refine ⟨⟨?_, ?_, h.med.own.turns (Turns.setCell (fun i => i = q) wr _ _ rfl) (fun a e e2 => h.apart a e e2), h.med.below.setCell (show w.heap.size ≤ q by omega) _⟩, ?_, hq, h.apart⟩
  · rw [heap_setCell_other _ _ _ _ (show w.heap.size ≠ q by omega)]; exact h.med.res
  · rw [heap_setCell_other _ _ _ _ (show w.heap.size + 1 ≠ q by omega)]; exact h.med.med
  · rw [heap_setCell_same wr q 1 _ _ _ h.par]; rfl
end
end Go.Proofs.YtdclmpdjjkjfjaaGreatDoor

/- The document's own answer: whether a value is of the type that pieces have. -/
namespace Go.Proofs.YtdclmpdjjkjfjaaGreatDoor
open Go.RowKit

theorem MedIs.off {v : List UInt8} {word : ByteArray} {ps : List (ByteArray × ByteArray)} {code : Nat} (h : MedIs (Pm.media v) word ps code) : Tu.isOff v = (decide (code = 0) && decide (word = Tu.vOff)) := by
  unfold Tu.isOff
  unfold MedIs at h
  cases hm : Pm.media v with
  | inl c =>
    rw [hm] at h
    obtain ⟨_, rfl, _⟩ := h
    have : decide ((⟨#[]⟩ : ByteArray) = Tu.vOff) = false := by decide
    rw [this]; simp
  | inr x =>
    rw [hm] at h
    obtain ⟨rfl, h2, _⟩ := h
    rw [Bool.eq_iff_iff]
    simp only [decide_eq_true_eq, Bool.and_eq_true]
    refine ⟨fun e => ⟨trivial, ?_⟩, fun e => ?_⟩
    · rw [← h2] at e
      cases word; rename_i d
      unfold Tu.vOff at e ⊢
      simp only at e
      congr 1
      exact Array.toList_inj.1 e
    · rw [← h2, e.2]
end Go.Proofs.YtdclmpdjjkjfjaaGreatDoor
