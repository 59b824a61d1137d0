/- A function that asks an object for something and answers a reply: its boxes, apart from the object, and what it answers. -/
import Derived.Test.YtdclmpdjjkjfjaaGreatDoorPk6
import Derived.Test.YtdclmpdjjkjfjaaGreatDoorPk9
import Derived.Test.YtdclmpdjjkjfjaaGreatDoorPk11
import Derived.Test.YtdclmpdjjkjfjaaGreatDoorPk5
namespace Go.Proofs.YtdclmpdjjkjfjaaGreatDoor
open Go.RowKit

/-- what an object is in memory, of this state -/
abbrev ObP := World → (Nat → Prop) → Nat → Sr.Sh → Prop
structure ObLaw (O : ObP) : Prop where
  turns : ∀ {w w' : World} {S S' : Nat → Prop} {g : Nat} {s : Sr.Sh}, O w S g s → Turns S' w w' → (∀ k, S k → ¬ S' k) → O w' S g s
  mono : ∀ {w : World} {S S' : Nat → Prop} {g : Nat} {s : Sr.Sh}, O w S g s → (∀ k, k < w.heap.size → S k → S' k) → O w S' g s
/-- a reply was answered, and the object is so -/
structure TuDid (O : ObP) (S : Nat → Prop) (w : World) (g : Nat) (r : Sr.Sh × Tu.Rep) (e : Ending) (w' : World) : Prop where
  ret : ∃ (ao : Option Addr) (cap n : Nat), e = .returned (.agg #[.int .i64 (r.2.1 : Int), .slice ao n cap, .slice none 0 0]) ∧ r.2.2.length = n ∧ OwnV w' w.heap.size 58 2 ao cap n (pairV r.2.2)
  at_ : O w' (orNew S w) g r.1
  turns : Turns S w w'
/-- boxes of a call's own, just behind world w, and the object apart from them -/
structure TbAt (O : ObP) (S : Nat → Prop) (w : World) (g : Nat) (bs : List Obj) (s : Sr.Sh) (S' : Nat → Prop) (W : World) : Prop where
  bx : ∀ i, i < bs.length → W.heap[w.heap.size + i]? = bs[i]?
  sh : O W S' g s
  ap : ∀ k, S' k → (S k ∧ k < w.heap.size) ∨ w.heap.size + bs.length ≤ k
  tu : Turns (fun k => S k ∧ k < w.heap.size) w W
  sz : w.heap.size + bs.length ≤ W.heap.size
section
variable {O : ObP} {S S' S'' : Nat → Prop} {w W W' : World} {g : Nat} {bs : List Obj} {s s' : Sr.Sh}
theorem TbAt.start (L : ObLaw O) (h : O w S g s) : TbAt O S w g [] s (fun k => S k ∧ k < w.heap.size) w :=
  ⟨fun i hi => by simp at hi, L.mono h (fun k hk e => ⟨e, hk⟩), fun k e => Or.inl e, Turns.refl _ _, by simp⟩
theorem TbAt.stay (L : ObLaw O) (h : TbAt O S w g bs s S' W) (hb : Below W.heap.size W W') : TbAt O S w g bs s S' W' := by
  have hz := h.sz
  refine ⟨fun i hi => (hb.block _ (by omega)).trans (h.bx i hi), L.turns h.sh (Turns.of_below (S := fun _ => False) hb) (fun _ _ e => e), h.ap, h.tu.trans (Turns.of_below (S := fun _ => False) hb) (fun _ e _ => e.elim), Nat.le_trans hz hb.size⟩
theorem TbAt.box (L : ObLaw O) (h : TbAt O S w g bs s S' W) (he : W.heap.size = w.heap.size + bs.length) (hS : ∀ k, S' k → k < W.heap.size) (o : Obj) : TbAt O S w g (bs ++ [o]) s S' (W.alloc o) := by
  have hb := (Below.refl _ W).alloc (Nat.le_refl _) o
  have h1 := h.stay L hb
  refine ⟨fun i hi => ?_, h1.sh, fun k e => ?_, h1.tu, by rw [World.size_alloc]; simp; omega⟩
  · rcases Nat.lt_or_ge i bs.length with hl | hl
    · rw [List.getElem?_append_left hl]; exact h1.bx i hl
    · have : i = bs.length := by simp at hi; omega
      subst this
      rw [List.getElem?_append_right (Nat.le_refl _), Nat.sub_self, ← he]
      exact heap_alloc_new W o
  · rcases h.ap k e with h2 | h2
    · exact Or.inl h2
    · have := hS k e; omega
/-- the object was turned -/
theorem TbAt.did (h : TbAt O S w g bs s S' W) (ho : O W' (orNew S' W) g s') (ht : Turns S' W W') : TbAt O S w g bs s' (orNew S' W) W' := by
  have hz := h.sz
  refine ⟨fun i hi => ?_, ho, fun k e => ?_, h.tu.trans ht (fun k e hk => ?_), Nat.le_trans hz ht.size⟩
  · refine (ht.block _ (by omega) (fun e => ?_)).trans (h.bx i hi)
    rcases h.ap _ e with h2 | h2
    · omega
    · omega
  · rcases e with e | e
    · exact h.ap k e
    · exact Or.inr (by omega)
  · rcases h.ap k e with h2 | h2
    · exact h2
    · omega
theorem TbAt.turned (h : TbAt O S w g bs s S' W) (ho : O W' S' g s') (ht : Turns S' W W') : TbAt O S w g bs s' S' W' := by
  have hz := h.sz
  refine ⟨fun i hi => ?_, ho, h.ap, h.tu.trans ht (fun k e hk => ?_), Nat.le_trans hz ht.size⟩
  · refine (ht.block _ (by omega) (fun e => ?_)).trans (h.bx i hi)
    rcases h.ap _ e with h2 | h2
    · omega
    · omega
  · rcases h.ap k e with h2 | h2
    · exact h2
    · omega
theorem TbAt.row (h : TbAt O S w g bs s S' W) (i : Nat) {o : Obj} (ho : bs[i]? = some o) : W.heap[w.heap.size + i]? = some o := (h.bx i (List.getElem?_eq_some_iff.1 ho).1).trans ho
/-- what was handed in, apart from the object, reads as it read -/
theorem TbAt.old (h : TbAt O S w g bs s S' W) {k : Nat} (hk : k < w.heap.size) (hS : ¬ S k) : W.heap[k]? = w.heap[k]? := h.tu.block k hk (fun e => hS e.1)
/-- the reply is laid in its box, and answered -/
theorem TbAt.ends (L : ObLaw O) (h : TbAt O S w g bs s S' W) {i : Nat} (hi : bs[i]? = some (.cells #[.int .i64 0, .slice none 0 0, .slice none 0 0] 32 (0, 0))) {b : Nat} (hb : w.heap.size + i = b) {st : Nat} {sti : Int} (hst : (st : Int) = sti) {l : List (ByteArray × ByteArray)} {ao : Option Addr} {cap n : Nat} (hn : l.length = n) {base : Nat} (hbs : w.heap.size ≤ base) (hO : OwnV W' base 58 2 ao cap n (pairV l)) (hB : Below W.heap.size W W') :
    (W'.cell? ⟨b, 0, none⟩ = some (.int .i64 0) ∧ W'.cell? ⟨b, 1, none⟩ = some (.slice none 0 0) ∧ W'.cell? ⟨b, 2, none⟩ = some (.slice none 0 0) ∧ W'.frozen? ⟨b, 0, none⟩ = false ∧ W'.frozen? ⟨b, 1, none⟩ = false ∧ W'.frozen? ⟨b, 2, none⟩ = false) ∧
    Hid ((((W'.setCell ⟨b, 0, none⟩ (.int .i64 sti)).setCell ⟨b, 1, none⟩ (.slice ao n cap)).setCell ⟨b, 2, none⟩ (.slice none 0 0)).cell? ⟨b, 0, none⟩ = some (.int .i64 sti) ∧ (((W'.setCell ⟨b, 0, none⟩ (.int .i64 sti)).setCell ⟨b, 1, none⟩ (.slice ao n cap)).setCell ⟨b, 2, none⟩ (.slice none 0 0)).cell? ⟨b, 1, none⟩ = some (.slice ao n cap) ∧ (((W'.setCell ⟨b, 0, none⟩ (.int .i64 sti)).setCell ⟨b, 1, none⟩ (.slice ao n cap)).setCell ⟨b, 2, none⟩ (.slice none 0 0)).cell? ⟨b, 2, none⟩ = some (.slice none 0 0) ∧ TuDid O S w g (s, (st, l)) (.returned (.agg #[.int .i64 sti, .slice ao n cap, .slice none 0 0])) (((W'.setCell ⟨b, 0, none⟩ (.int .i64 sti)).setCell ⟨b, 1, none⟩ (.slice ao n cap)).setCell ⟨b, 2, none⟩ (.slice none 0 0))) := by
  subst hb
  subst hst
  have h1 := h.stay L hB
  have hlt := (List.getElem?_eq_some_iff.1 hi).1
  have hz := h.sz
  have r := h1.row i hi
  refine ⟨⟨cell_of_row W' _ 0 _ _ _ r, cell_of_row W' _ 1 _ _ _ r, cell_of_row W' _ 2 _ _ _ r, frozen_of_row W' _ 0 _ _ r, frozen_of_row W' _ 1 _ _ r, frozen_of_row W' _ 2 _ _ r⟩, ?_⟩
  have r0 := heap_setCell_same W' (w.heap.size + i) 0 _ _ (.int .i64 (st : Int)) r
  have r1 := heap_setCell_same _ (w.heap.size + i) 1 _ _ (.slice ao n cap) r0
  have r2 := heap_setCell_same _ (w.heap.size + i) 2 _ _ (.slice none 0 0) r1
  have hT := setCells_turns (w.heap.size + i) [.int .i64 (st : Int), .slice ao n cap, .slice none 0 0] 0 W'
  replace hT : Turns (fun k => k = w.heap.size + i) W' (((W'.setCell ⟨w.heap.size + i, 0, none⟩ (.int .i64 (st : Int))).setCell ⟨w.heap.size + i, 1, none⟩ (.slice ao n cap)).setCell ⟨w.heap.size + i, 2, none⟩ (.slice none 0 0)) := hT
  refine ⟨cell_of_row _ _ 0 _ _ _ r2, cell_of_row _ _ 1 _ _ _ r2, cell_of_row _ _ 2 _ _ _ r2, ⟨⟨ao, cap, n, rfl, hn, ?_⟩, ?_, ?_⟩⟩
  · have nz := row_ne r hO (by decide)
    rw [ownBlock_slice] at nz
    exact (hO.turns hT (fun a e e2 => nz (by rw [e]; show some a.block = _; rw [e2]))).mono hbs
  · refine L.mono (L.turns h1.sh hT (fun k e e2 => ?_)) (fun k _ e => ?_)
    · rcases h.ap k e with h2 | h2
      · omega
      · omega
    · rcases h.ap k e with h2 | h2
      · exact Or.inl h2.1
      · exact Or.inr (by omega)
  · exact (h1.tu.trans hT (fun k e hk => by omega)).mono (fun k e => e.1)
/-- a row apart from the boxes and from the object was turned -/
theorem TbAt.aside (L : ObLaw O) (h : TbAt O S w g bs s S' W) {b : Nat} (ht : Turns (fun k => k = b) W W') (hb : w.heap.size + bs.length ≤ b) (hS : ¬ S' b) : TbAt O S w g bs s S' W' := by
  have hz := h.sz
  refine ⟨fun i hi => (ht.block _ (by omega) (by omega)).trans (h.bx i hi), L.turns h.sh ht (fun k e e2 => hS (by rw [← e2]; exact e)), h.ap, h.tu.trans ht (fun k e hk => by omega), Nat.le_trans hz ht.size⟩
end
/-- a block that is a row of one cell each -/
theorem own_of_row {w : World} {g t : Nat} {cs : Array Value} {n : Nat} (h : w.heap[g]? = some (.cells cs t (0, 0))) (hn : cs.size = n) (hm : n ≤ maxLen) : OwnV w 0 t 1 (some ⟨g, 0, none⟩) n n cs.toList := by
  refine ⟨by rw [Array.length_toList]; omega, Or.inr ⟨g, n, cs, rfl, Nat.zero_le _, h, Nat.le_refl _, hm, by omega, ?_⟩⟩
  rw [List.take_of_length_le]
  rw [Array.length_toList]; omega
end Go.Proofs.YtdclmpdjjkjfjaaGreatDoor
