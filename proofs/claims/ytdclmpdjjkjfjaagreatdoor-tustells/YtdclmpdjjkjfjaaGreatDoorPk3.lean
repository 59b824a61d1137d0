/- Small texts, one behind the other: Mem, MemV, MemE, JnA, MemQ, MemL. -/
import Derived.WalkKit
import Derived.Laws.AppendOwnNone
import Derived.Maps.AppendAt
import Derived.Laws.IdiomStrings
import Derived.DataElems
import Derived.Deep.Draws
/- Bytes in memory, of whatever program: a slice of bytes that is read, one that the call owns, what is cut out of it, its text, and what append makes of it. -/
namespace Go.Proofs.YtdclmpdjjkjfjaaGreatDoor
open Go.RowKit

theorem below_drew (B : Nat) (w : World) : Below B w w.drew := ⟨rfl, rfl, rfl, Nat.le_refl _, fun _ _ => rfl⟩
/-- bytes as the cells of a row -/
def byteV (l : List UInt8) : List Value := l.map fun b => .int .u8 (b.toNat : Int)
theorem byteV_length (l : List UInt8) : (byteV l).length = l.length := by simp [byteV]
theorem byteV_append (a b : List UInt8) : byteV (a ++ b) = byteV a ++ byteV b := by simp [byteV]
theorem byteV_one (l : List UInt8) : ∀ u ∈ byteV l, u.oneCell' = true := by
  intro u hu
  obtain ⟨b, _, rfl⟩ := List.mem_map.1 hu
  rfl
theorem byteV_at (l : List UInt8) (j : Nat) (h : j < l.length) : (byteV l)[j]? = some (.int .u8 (l[j].toNat : Int)) := by
  simp [byteV, h]

/-- a slice of bytes that reads as l: whoever's memory it is -/
def IsB (w : World) (ao : Option Addr) (cap : Nat) (l : List UInt8) : Prop :=
  l.length ≤ cap ∧ (ao = none → cap = 0) ∧ ∀ j (hj : j < l.length), ∃ a, ao = some a ∧ w.cell? (a.add j) = some (.int .u8 (l[j].toNat : Int))
theorem IsB.cell {w : World} {a : Addr} {cap : Nat} {l : List UInt8} (h : IsB w (some a) cap l) (j : Nat) (hj : j < l.length) : w.cell? (a.add j) = some (.int .u8 (l[j].toNat : Int)) := by
  obtain ⟨a', e, hc⟩ := h.2.2 j hj
  injection e with e; subst e; exact hc
theorem IsB.some {w : World} {ao : Option Addr} {cap : Nat} {l : List UInt8} (h : IsB w ao cap l) (hl : 0 < l.length) : ∃ a, ao = some a := by
  obtain ⟨a, e, _⟩ := h.2.2 0 hl; exact ⟨a, e⟩
theorem IsB.nil (w : World) : IsB w none 0 [] := ⟨Nat.le_refl _, fun _ => rfl, fun j hj => by simp at hj⟩
theorem IsB.none_nil {w : World} {cap : Nat} {l : List UInt8} (h : IsB w none cap l) : l = [] ∧ cap = 0 := by
  have hc := h.2.1 rfl
  have h1 := h.1
  exact ⟨List.eq_nil_of_length_eq_zero (by omega), hc⟩
/-- its address, written out -/
theorem IsB.lit {w : World} {ao : Option Addr} {cap : Nat} {l : List UInt8} (h : IsB w ao cap l) (hl : 0 < l.length) : ∃ b o, ao = Option.some ⟨b, o, Option.none⟩ ∧ ∀ j (hj : j < l.length), w.cell? ⟨b, o + j, Option.none⟩ = Option.some (.int .u8 (l[j].toNat : Int)) := by
  obtain ⟨⟨b, o, sp⟩, rfl, h0⟩ := h.2.2 0 hl
  have hs : sp = Option.none := by simpa [Addr.add] using World.cell?_spot h0
  subst hs
  refine ⟨b, o, rfl, fun j hj => ?_⟩
  have := h.cell j hj
  rwa [Addr.add_lit] at this
/-- what reads so in one world reads so in another that has the same cells there -/
theorem IsB.move {w w' : World} {ao : Option Addr} {cap : Nat} {l : List UInt8} (h : IsB w ao cap l) (hc : ∀ a, ao = Option.some a → ∀ v j, w.cell? (a.add j) = Option.some v → w'.cell? (a.add j) = Option.some v) : IsB w' ao cap l := by
  refine ⟨h.1, h.2.1, fun j hj => ?_⟩
  obtain ⟨a, e, hv⟩ := h.2.2 j hj
  exact ⟨a, e, hc a e _ j hv⟩
theorem add_block (a : Addr) (j : Nat) : (a.add j).block = a.block := by unfold Addr.add; split <;> rfl
theorem IsB.below {w w' : World} {ao : Option Addr} {cap : Nat} {l : List UInt8} {B : Nat} (h : IsB w ao cap l) (hb : Below B w w') (ha : ∀ a, ao = Option.some a → a.block < B) : IsB w' ao cap l :=
  h.move fun a e v j hv => by rw [hb.cell (by rw [add_block]; exact ha a e)]; exact hv
theorem IsB.grown {w w' : World} {ao : Option Addr} {cap : Nat} {l : List UInt8} {row : Option Nat} (h : IsB w ao cap l) (hg : w.grownBy w' row) (ha : ∀ a, ao = Option.some a → Option.some a.block ≠ row) : IsB w' ao cap l :=
  h.move fun a e v j hv => hg.cell hv (by rw [add_block]; exact ha a e)
theorem IsB.stay {w w' : World} {ao : Option Addr} {cap : Nat} {l : List UInt8} (h : IsB w ao cap l) (hb : Below w.heap.size w w') : IsB w' ao cap l :=
  h.move fun a _ v j hv => by rw [hb.cell (World.block_lt_of_cell? w _ hv)]; exact hv
/-- a piece of it -/
theorem IsB.cut {w : World} {ao ao' : Option Addr} {cap : Nat} {l : List UInt8} (h : IsB w ao cap l) (lo hi : Nat) (h1 : lo ≤ hi) (h2 : hi ≤ l.length)
    (e2 : cap ≠ lo → ao' = ao.map (·.add lo)) : IsB w ao' (cap - lo) ((l.drop lo).take (hi - lo)) := by
  have hc := h.1
  have hlen : ((l.drop lo).take (hi - lo)).length = hi - lo := by rw [List.length_take, List.length_drop]; omega
  refine ⟨by omega, fun hn => ?_, fun j hj => ?_⟩
  · by_cases e : cap = lo
    · omega
    · have := e2 e
      rw [hn] at this
      have ho : ao = none := Option.map_eq_none_iff.1 this.symm
      have := h.2.1 ho; omega
  · rw [hlen] at hj
    obtain ⟨a, e, hv⟩ := h.2.2 (lo + j) (by omega)
    have hne : cap ≠ lo := by omega
    refine ⟨a.add lo, by rw [e2 hne, e]; rfl, ?_⟩
    rw [Addr.add_add, hv]
    simp
theorem IsB.drewN {w : World} {ao : Option Addr} {cap : Nat} {l : List UInt8} (h : IsB w ao cap l) (n : Nat) : IsB (w.drewN n) ao cap l :=
  h.move (fun a _ v j hv => by rw [World.cell?_drewN]; exact hv)
/-- its beginning -/
theorem IsB.first {w : World} {ao : Option Addr} {cap : Nat} {l : List UInt8} (h : IsB w ao cap l) (n : Nat) (hn : n ≤ l.length) : IsB w ao cap (l.take n) := by
  have := h.cut (ao' := ao) 0 n (Nat.zero_le _) hn (fun _ => by cases ao <;> simp [Addr.add])
  simpa using this
/-- its text -/
theorem IsB.str {P : Program} {w : World} {ao : Option Addr} {cap : Nat} {l : List UInt8} (h : IsB w ao cap l) (src dst e : TypeId) (hs : P.underlying src = Option.some (.slice e)) (he : P.underlying e = Option.some (.int .u8)) (hd : P.underlying dst = Option.some .string) :
    (convert src dst (.slice ao l.length cap)).run P w = .ok (.string ⟨l.toArray⟩) w := by
  cases ao with
  | none =>
    obtain ⟨rfl, rfl⟩ := h.none_nil
    rw [run_convert_bytes_string w src dst e none _ _ hs he hd]
    rfl
  | some a => exact run_convert_bytes_back w src dst e a cap l hs he hd (fun j hj => h.cell j hj)

/-- a slice of bytes that lies at the head of a block, from number base on, of the call's own -/
def OwnB (w : World) (base t : Nat) (ao : Option Addr) (cap : Nat) (l : List UInt8) : Prop := w.ownsRow base t 1 (.slice ao l.length cap) l.length (byteV l)
theorem OwnB.nil (w : World) (base t : Nat) : OwnB w base t none 0 [] := World.ownsRow_nil _ _ _ _
theorem OwnB.of {w : World} {base t : Nat} {v : Value} {l : List UInt8} {n : Nat} (hn : n = l.length) (h : w.ownsRow base t 1 v n (byteV l)) : ∃ ao cap, v = .slice ao l.length cap ∧ OwnB w base t ao cap l := by
  subst hn
  rcases h.2 with ⟨rfl, h0⟩ | ⟨g, cap, cur, rfl, _⟩
  · have e : l = [] := List.eq_nil_of_length_eq_zero h0
    subst e
    exact ⟨none, 0, rfl, h⟩
  · exact ⟨_, _, rfl, h⟩
theorem OwnB.isB {w : World} {base t : Nat} {ao : Option Addr} {cap : Nat} {l : List UInt8} (h : OwnB w base t ao cap l) : IsB w ao cap l := by
  rcases h.2 with ⟨e, h0⟩ | ⟨g, cap', cur, e, hg, hh, hn, hm, hs, ht⟩
  · injection e with e1 e2 e3
    subst e1; subst e3
    rw [List.eq_nil_of_length_eq_zero h0]; exact IsB.nil w
  · injection e with e1 e2 e3
    subst e1; subst e3
    refine ⟨hn, fun e => by simp at e, fun j hj => ⟨_, rfl, ?_⟩⟩
    exact World.ownsRow.cells h (g := g) rfl j _ (byteV_at l j hj)
theorem OwnB.block {w : World} {base t : Nat} {ao : Option Addr} {cap : Nat} {l : List UInt8} (h : OwnB w base t ao cap l) (a : Addr) (e : ao = some a) : base ≤ a.block ∧ a.block < w.heap.size := by
  subst e
  exact World.ownsRow.lt h a.block rfl
theorem OwnB.head {w : World} {base t : Nat} {ao : Option Addr} {cap : Nat} {l : List UInt8} (h : OwnB w base t ao cap l) (hl : 0 < l.length) : ∃ g, ao = some ⟨g, 0, none⟩ ∧ base ≤ g ∧ ∀ j (hj : j < l.length), w.cell? ⟨g, j, none⟩ = some (.int .u8 (l[j].toNat : Int)) := by
  rcases h.2 with ⟨e, h0⟩ | ⟨g, cap', cur, e, hg, hh, hn, hm, hs, ht⟩
  · omega
  · injection e with e1 e2 e3
    subst e1; subst e3
    refine ⟨g, rfl, hg, fun j hj => ?_⟩
    have := World.ownsRow.cells h (g := g) rfl j _ (byteV_at l j hj)
    rwa [Addr.add_lit, Nat.zero_add] at this
theorem OwnB.kept {w w' : World} {base t : Nat} {ao : Option Addr} {cap : Nat} {l : List UInt8} {row : Option Nat} (h : OwnB w base t ao cap l) (hg : w.grownBy w' row) (ha : ∀ a, ao = some a → some a.block ≠ row) : OwnB w' base t ao cap l := by
  refine World.ownsRow.kept h hg ?_
  cases ao with
  | none => exact Or.inl rfl
  | some a => exact Or.inr (ha a rfl)
theorem OwnB.below {w w' : World} {base t : Nat} {ao : Option Addr} {cap : Nat} {l : List UInt8} {B : Nat} (h : OwnB w base t ao cap l) (hb : Below B w w') (ha : ∀ a, ao = some a → a.block < B) : OwnB w' base t ao cap l := by
  refine ⟨h.1, ?_⟩
  rcases h.2 with hn | ⟨g, cap', cur, e, hg, hh, r⟩
  · exact Or.inl hn
  · refine Or.inr ⟨g, cap', cur, e, hg, ?_, r⟩
    injection e with e1 e2 e3
    rw [hb.block g (ha _ e1)]; exact hh
theorem OwnB.mono {w : World} {base base' t : Nat} {ao : Option Addr} {cap : Nat} {l : List UInt8} (h : OwnB w base t ao cap l) (hb : base' ≤ base) : OwnB w base' t ao cap l := by
  refine ⟨h.1, ?_⟩
  rcases h.2 with hn | ⟨g, cap', cur, e, hg, r⟩
  · exact Or.inl hn
  · exact Or.inr ⟨g, cap', cur, e, by omega, r⟩
theorem OwnB.alloc {w : World} {base t : Nat} {ao : Option Addr} {cap : Nat} {l : List UInt8} (h : OwnB w base t ao cap l) (o : Obj) : OwnB (w.alloc o) base t ao cap l := World.ownsRow.alloc h o
theorem IsB.alloc {w : World} {ao : Option Addr} {cap : Nat} {l : List UInt8} (h : IsB w ao cap l) (o : Obj) : IsB (w.alloc o) ao cap l := h.grown (World.grownBy_alloc w o none) (fun a _ => by simp)
/-- one byte in a new block -/
theorem IsB.one (w : World) (c : UInt8) (t : Nat) (fr : Nat × Nat) : IsB (w.alloc (.cells #[.int .u8 (c.toNat : Int)] t fr)) (Option.some ⟨w.heap.size, 0, Option.none⟩) 1 [c] := by
  refine ⟨Nat.le_refl _, fun e => by simp at e, fun j hj => ⟨_, rfl, ?_⟩⟩
  have e : j = 0 := by simp at hj; exact hj
  subst e
  rw [Addr.add_lit, World.cell?_alloc_mark]
  rfl
/-- a text's bytes in a new block -/
theorem IsB.ofRow (w : World) (s : ByteArray) (cap t : Nat) (fr : Nat × Nat) (hcap : s.size ≤ cap) : IsB (w.alloc (.cells (bytesRow s cap) t fr)) (Option.some ⟨w.heap.size, 0, Option.none⟩) cap s.data.toList := by
  refine ⟨by rw [Array.length_toList]; exact hcap, fun e => by simp at e, fun j hj => ⟨_, rfl, ?_⟩⟩
  rw [Array.length_toList] at hj
  rw [Addr.add_lit, World.cell?_alloc_mark, Nat.zero_add, bytesRow_at s cap j hj]
  simp
/-- '[]byte(s)' -/
theorem bytes_of {P : Program} (W : World) (s : ByteArray) (src dst e : TypeId) (hs : P.underlying src = some .string) (hd : P.underlying dst = some (.slice e)) (he : P.underlying e = some (.int .u8)) :
    ∃ cap w1, (convert src dst (.string s)).run P W = .ok (.slice (some ⟨W.heap.size, 0, none⟩) s.size cap) w1 ∧ Below W.heap.size W w1 ∧ w1.heap.size = W.heap.size + 1 ∧ IsB w1 (some ⟨W.heap.size, 0, none⟩) cap s.data.toList := by
  refine ⟨_, _, run_bytes_of_string (P := P) W src dst e s hs hd he, ((below_drew _ W).alloc (Nat.le_refl _) _), by simp, IsB.ofRow W.drew s _ _ _ (grownCap_ge W s.size 0 e)⟩
/-- the block of a slice's address -/
def blockOf : Option Addr → Option Nat
  | some a => some a.block
  | none => none
theorem ownBlock_slice (ao : Option Addr) (n cap : Nat) : (Value.slice ao n cap).ownBlock = blockOf ao := by cases ao <;> rfl

theorem grown_trans {a b c : World} {row : Option Nat} (h : a.grownBy b row) (k : b.grownBy c row) : a.grownBy c row :=
  ⟨k.os.trans h.os, k.tape.trans h.tape, k.output.trans h.output, Nat.le_trans h.size k.size, fun i hi hne => (k.block i (Nat.lt_of_lt_of_le hi h.size) hne).trans (h.block i hi hne)⟩
theorem grown_below {a b : World} (row : Option Nat) (h : Below a.heap.size a b) : a.grownBy b row := ⟨h.os, h.tape, h.output, h.size, fun i hi _ => h.block i hi⟩
theorem grown_drew (w : World) (row : Option Nat) : w.grownBy w.drew row := ⟨rfl, rfl, rfl, Nat.le_refl _, fun _ _ _ => rfl⟩
/-- 'append(dst, src...)', dst the call's own, src whatever reads as bytes; and where it lies behind it -/
theorem wpList_append_at {P : Program} {w : World} {ops : Array Oper} {rest : List Oper} {o : Oper} {a : Act} {Q : Exit → Act → World → Prop} (hgd : o.guard = none) (s x : Operand) (t : TypeId)
    (ho : o.op = .call { callee := .builtin .append, args := #[s, x], argTypes := #[t, t] })
    (base : Nat) (e : TypeId) (i : TypeInfo) (ht : P.underlying t = some (.slice e)) (hi : P.info? e = some i) (hz : i.zero = some (.int .u8 0)) (hz1 : i.size = 1) (hz2 : i.bytes = 1)
    {ao : Option Addr} {cap n : Nat} {l : List UInt8} (hs : a.eval s = .slice ao n cap) (hn : l.length = n) (hown : OwnB w base e ao cap l)
    {ao2 : Option Addr} {cap2 n2 : Nat} {l2 : List UInt8} (hx : a.eval x = .slice ao2 n2 cap2) (hn2 : l2.length = n2) (hsrc : IsB w ao2 cap2 l2)
    (hlen : n + n2 ≤ 140737488355328) (hbase : base ≤ w.heap.size)
    (h : ∀ ao' cap' w', OwnB w' base e ao' cap' (l ++ l2) → w.grownBy w' (blockOf ao) → (blockOf ao' = blockOf ao ∨ blockOf ao' = some w.heap.size) → wpList P ops Q rest (a.put o.dst (.slice ao' (n + n2) cap')) w') : wpList P ops Q (o :: rest) a w := by
  subst hn; subst hn2
  cases ao2 with
  | none =>
    obtain ⟨rfl, rfl⟩ := hsrc.none_nil
    refine wpList_append_own_none hgd s x t ho base e i 1 ht hi _ l.length (byteV l) hs hown hx ?_
    have := h ao cap w (by rw [List.append_nil]; exact hown) ⟨rfl, rfl, rfl, Nat.le_refl _, fun _ _ _ => rfl⟩ (Or.inl rfl)
    simpa using this
  | some ad =>
    refine wpList_append_own_at w hgd s x t ho base e i (.int .u8 0) 1 1 ht hi hz hz1 hz2 rfl (by decide) _ l.length (byteV l) hs hown ad l2.length cap2 (byteV l2) hx (by rw [byteV_length]; omega) (fun j u hu => ?_) (byteV_one l2) (by unfold maxLen; omega) (by omega) hbase ?_
    · have hj : j < l2.length := by
        have := (List.getElem?_eq_some_iff.1 hu).1
        rwa [byteV_length] at this
      rw [byteV_at l2 j hj] at hu
      injection hu with hu; subst hu
      exact hsrc.cell j hj
    · intro v' w' hown' hg _ hat
      rw [← byteV_append] at hown'
      obtain ⟨ao', cap', rfl, hB⟩ := OwnB.of (by simp) hown'
      rw [ownBlock_slice] at hg hat
      rw [ownBlock_slice] at hat
      have := h ao' cap' w' hB hg hat
      simpa using this
/-- 'append(dst, src...)', dst the call's own, src whatever reads as bytes -/
theorem wpList_append_b {P : Program} {w : World} {ops : Array Oper} {rest : List Oper} {o : Oper} {a : Act} {Q : Exit → Act → World → Prop} (hgd : o.guard = none) (s x : Operand) (t : TypeId)
    (ho : o.op = .call { callee := .builtin .append, args := #[s, x], argTypes := #[t, t] })
    (base : Nat) (e : TypeId) (i : TypeInfo) (ht : P.underlying t = some (.slice e)) (hi : P.info? e = some i) (hz : i.zero = some (.int .u8 0)) (hz1 : i.size = 1) (hz2 : i.bytes = 1)
    {ao : Option Addr} {cap n : Nat} {l : List UInt8} (hs : a.eval s = .slice ao n cap) (hn : l.length = n) (hown : OwnB w base e ao cap l)
    {ao2 : Option Addr} {cap2 n2 : Nat} {l2 : List UInt8} (hx : a.eval x = .slice ao2 n2 cap2) (hn2 : l2.length = n2) (hsrc : IsB w ao2 cap2 l2)
    (hlen : n + n2 ≤ 140737488355328) (hbase : base ≤ w.heap.size)
    (h : ∀ ao' cap' w', OwnB w' base e ao' cap' (l ++ l2) → w.grownBy w' (blockOf ao) → wpList P ops Q rest (a.put o.dst (.slice ao' (n + n2) cap')) w') : wpList P ops Q (o :: rest) a w :=
  wpList_append_at hgd s x t ho base e i ht hi hz hz1 hz2 hs hn hown hx hn2 hsrc hlen hbase (fun ao' cap' w' h1 h2 _ => h ao' cap' w' h1 h2)
end Go.Proofs.YtdclmpdjjkjfjaaGreatDoor

/- Slices of whatever elements in memory, of whatever program: one that is read, one that the call owns, what is cut out of it, and what append makes of it. Elements go by their cells, one behind the other. -/
namespace Go.Proofs.YtdclmpdjjkjfjaaGreatDoor
open Go.RowKit

/-- a slice of n elements that reads as the cells xs: whoever's memory it is -/
def IsV (w : World) (ao : Option Addr) (cap n : Nat) (xs : List Value) : Prop :=
  n ≤ cap ∧ (ao = none → cap = 0) ∧ ∀ j u, xs[j]? = some u → ∃ a, ao = some a ∧ w.cell? (a.add j) = some u
theorem IsV.cell {w : World} {a : Addr} {cap n : Nat} {xs : List Value} (h : IsV w (some a) cap n xs) {j : Nat} {u : Value} (hj : xs[j]? = some u) : w.cell? (a.add j) = some u := by
  obtain ⟨a', e, hc⟩ := h.2.2 j u hj
  injection e with e; subst e; exact hc
/-- its address, written out -/
theorem IsV.lit {w : World} {ao : Option Addr} {cap n : Nat} {xs : List Value} (h : IsV w ao cap n xs) (hl : 0 < xs.length) : ∃ b o, ao = Option.some ⟨b, o, Option.none⟩ ∧ ∀ j u, xs[j]? = Option.some u → w.cell? ⟨b, o + j, Option.none⟩ = Option.some u := by
  obtain ⟨⟨b, o, sp⟩, rfl, h0⟩ := h.2.2 0 xs[0] (List.getElem?_eq_getElem hl)
  have hs : sp = Option.none := by simpa [Addr.add] using World.cell?_spot h0
  subst hs
  refine ⟨b, o, rfl, fun j u hj => ?_⟩
  have := h.cell hj
  rwa [Addr.add_lit] at this
theorem IsV.nil (w : World) : IsV w none 0 0 [] := ⟨Nat.le_refl _, fun _ => rfl, fun j u hj => by simp at hj⟩
theorem IsV.move {w w' : World} {ao : Option Addr} {cap n : Nat} {xs : List Value} (h : IsV w ao cap n xs) (hc : ∀ a, ao = Option.some a → ∀ v j, w.cell? (a.add j) = Option.some v → w'.cell? (a.add j) = Option.some v) : IsV w' ao cap n xs := by
  refine ⟨h.1, h.2.1, fun j u hj => ?_⟩
  obtain ⟨a, e, hv⟩ := h.2.2 j u hj
  exact ⟨a, e, hc a e _ j hv⟩
theorem IsV.stay {w w' : World} {ao : Option Addr} {cap n : Nat} {xs : List Value} (h : IsV w ao cap n xs) (hb : Below w.heap.size w w') : IsV w' ao cap n xs :=
  h.move fun a _ v j hv => by rw [hb.cell (World.block_lt_of_cell? w _ hv)]; exact hv
theorem IsV.below {w w' : World} {ao : Option Addr} {cap n : Nat} {xs : List Value} {B : Nat} (h : IsV w ao cap n xs) (hb : Below B w w') (ha : ∀ a, ao = Option.some a → a.block < B) : IsV w' ao cap n xs :=
  h.move fun a e v j hv => by rw [hb.cell (by rw [add_block]; exact ha a e)]; exact hv
theorem IsV.grown {w w' : World} {ao : Option Addr} {cap n : Nat} {xs : List Value} {row : Option Nat} (h : IsV w ao cap n xs) (hg : w.grownBy w' row) (ha : ∀ a, ao = Option.some a → Option.some a.block ≠ row) : IsV w' ao cap n xs :=
  h.move fun a e v j hv => hg.cell hv (by rw [add_block]; exact ha a e)
theorem IsV.alloc {w : World} {ao : Option Addr} {cap n : Nat} {xs : List Value} (h : IsV w ao cap n xs) (o : Obj) : IsV (w.alloc o) ao cap n xs := h.grown (World.grownBy_alloc w o none) (fun a _ => by simp)
theorem IsV.drewN {w : World} {ao : Option Addr} {cap n : Nat} {xs : List Value} (h : IsV w ao cap n xs) (q : Nat) : IsV (w.drewN q) ao cap n xs :=
  h.move (fun a _ v j hv => by rw [World.cell?_drewN]; exact hv)
/-- cells in a new block -/
theorem IsV.made (w : World) (cs : Array Value) (n t : Nat) (fr : Nat × Nat) : IsV (w.alloc (.cells cs t fr)) (Option.some ⟨w.heap.size, 0, Option.none⟩) n n cs.toList := by
  refine ⟨Nat.le_refl _, fun e => by simp at e, fun j u hj => ⟨_, rfl, ?_⟩⟩
  rw [Addr.add_lit, World.cell?_alloc_mark, Nat.zero_add]
  simpa using hj
/-- a piece of it, its elements of k cells each -/
theorem IsV.cut {w : World} {ao ao' : Option Addr} {cap n k : Nat} {xs : List Value} (h : IsV w ao cap n xs) (lo hi : Nat) (h1 : lo ≤ hi) (h2 : hi ≤ n)
    (e2 : cap ≠ lo → ao' = ao.map (·.add (lo * k))) : IsV w ao' (cap - lo) (hi - lo) ((xs.drop (lo * k)).take ((hi - lo) * k)) := by
  have hc := h.1
  refine ⟨by omega, fun hn => ?_, fun j u hj => ?_⟩
  · by_cases e : cap = lo
    · omega
    · have := e2 e
      rw [hn] at this
      have ho : ao = none := Option.map_eq_none_iff.1 this.symm
      have := h.2.1 ho; omega
  · rw [List.getElem?_take] at hj
    split at hj
    · rename_i hlt
      rw [List.getElem?_drop] at hj
      obtain ⟨a, e, hv⟩ := h.2.2 _ u hj
      have hne : cap ≠ lo := by
        intro e
        have hl : hi - lo = 0 := by omega
        rw [hl, Nat.zero_mul] at hlt; omega
      refine ⟨a.add (lo * k), by rw [e2 hne, e]; rfl, ?_⟩
      rw [Addr.add_add]; exact hv
    · simp at hj
/-- a slice that lies at the head of a block, from number base on, of the call's own: n elements of type t, k cells each -/
def OwnV (w : World) (base t k : Nat) (ao : Option Addr) (cap n : Nat) (xs : List Value) : Prop := w.ownsRow base t k (.slice ao n cap) n xs
theorem OwnV.nil (w : World) (base t k : Nat) : OwnV w base t k none 0 0 [] := World.ownsRow_nil _ _ _ _
theorem OwnV.of {w : World} {base t k n : Nat} {v : Value} {xs : List Value} (h : w.ownsRow base t k v n xs) : ∃ ao cap, v = .slice ao n cap ∧ OwnV w base t k ao cap n xs := by
  rcases h.2 with ⟨rfl, h0⟩ | ⟨g, cap, cur, rfl, _⟩
  · subst h0; exact ⟨none, 0, rfl, h⟩
  · exact ⟨_, _, rfl, h⟩
theorem OwnV.isV {w : World} {base t k : Nat} {ao : Option Addr} {cap n : Nat} {xs : List Value} (h : OwnV w base t k ao cap n xs) : IsV w ao cap n xs := by
  have hx := h.1
  rcases h.2 with ⟨e, h0⟩ | ⟨g, cap', cur, e, hg, hh, hn, hm, hs, ht⟩
  · injection e with e1 e2 e3
    subst e1; subst e3; subst h0
    rw [Nat.zero_mul] at hx
    rw [List.eq_nil_of_length_eq_zero hx]; exact IsV.nil w
  · injection e with e1 e2 e3
    subst e1; subst e3
    exact ⟨hn, fun e => by simp at e, fun j u hj => ⟨_, rfl, World.ownsRow.cells h (g := g) rfl j u hj⟩⟩
theorem OwnV.block {w : World} {base t k : Nat} {ao : Option Addr} {cap n : Nat} {xs : List Value} (h : OwnV w base t k ao cap n xs) (a : Addr) (e : ao = some a) : base ≤ a.block ∧ a.block < w.heap.size := by
  subst e
  exact World.ownsRow.lt h a.block rfl
theorem OwnV.kept {w w' : World} {base t k : Nat} {ao : Option Addr} {cap n : Nat} {xs : List Value} {row : Option Nat} (h : OwnV w base t k ao cap n xs) (hg : w.grownBy w' row) (ha : ∀ a, ao = some a → some a.block ≠ row) : OwnV w' base t k ao cap n xs := by
  refine World.ownsRow.kept h hg ?_
  cases ao with
  | none => exact Or.inl rfl
  | some a => exact Or.inr (ha a rfl)
theorem OwnV.below {w w' : World} {base t k : Nat} {ao : Option Addr} {cap n : Nat} {xs : List Value} {B : Nat} (h : OwnV w base t k ao cap n xs) (hb : Below B w w') (ha : ∀ a, ao = some a → a.block < B) : OwnV w' base t k ao cap n xs := by
  refine ⟨h.1, ?_⟩
  rcases h.2 with hn | ⟨g, cap', cur, e, hg, hh, r⟩
  · exact Or.inl hn
  · refine Or.inr ⟨g, cap', cur, e, hg, ?_, r⟩
    injection e with e1 e2 e3
    rw [hb.block g (ha _ e1)]; exact hh
/-- all that is below its world's own size stays -/
theorem OwnV.stay {w w' : World} {base t k : Nat} {ao : Option Addr} {cap n : Nat} {xs : List Value} (h : OwnV w base t k ao cap n xs) (hb : Below w.heap.size w w') : OwnV w' base t k ao cap n xs := h.below hb (fun a e => (h.block a e).2)
theorem OwnB.stay {w w' : World} {base t : Nat} {ao : Option Addr} {cap : Nat} {l : List UInt8} (h : OwnB w base t ao cap l) (hb : Below w.heap.size w w') : OwnB w' base t ao cap l := h.below hb (fun a e => (h.block a e).2)
theorem OwnV.mono {w : World} {base base' t k : Nat} {ao : Option Addr} {cap n : Nat} {xs : List Value} (h : OwnV w base t k ao cap n xs) (hb : base' ≤ base) : OwnV w base' t k ao cap n xs := by
  refine ⟨h.1, ?_⟩
  rcases h.2 with hn | ⟨g, cap', cur, e, hg, r⟩
  · exact Or.inl hn
  · exact Or.inr ⟨g, cap', cur, e, by omega, r⟩
theorem OwnV.alloc {w : World} {base t k : Nat} {ao : Option Addr} {cap n : Nat} {xs : List Value} (h : OwnV w base t k ao cap n xs) (o : Obj) : OwnV (w.alloc o) base t k ao cap n xs := World.ownsRow.alloc h o

/-- 'append(dst, src...)', dst the call's own, src whatever reads so; and where it lies behind it -/
theorem wpList_append_v {P : Program} {w : World} {ops : Array Oper} {rest : List Oper} {o : Oper} {a : Act} {Q : Exit → Act → World → Prop} (hgd : o.guard = none) (s x : Operand) (t : TypeId)
    (ho : o.op = .call { callee := .builtin .append, args := #[s, x], argTypes := #[t, t] })
    (base : Nat) (e : TypeId) (i : TypeInfo) (z : Value) (k bytes : Nat) (ht : P.underlying t = some (.slice e)) (hi : P.info? e = some i) (hz : i.zero = some z) (hz1 : i.size = k) (hz2 : i.bytes = bytes) (hzs : z.cells.size = k) (hk : 0 < k)
    {ao : Option Addr} {cap n : Nat} {xs : List Value} (hs : a.eval s = .slice ao n cap) (hown : OwnV w base e k ao cap n xs)
    {ao2 : Option Addr} {cap2 n2 : Nat} {ys : List Value} (hx : a.eval x = .slice ao2 n2 cap2) (hsrc : IsV w ao2 cap2 n2 ys) (hy : ys.length = n2 * k) (h1 : ∀ u ∈ ys, u.oneCell' = true)
    (hlen : n + n2 ≤ 9223372036854775807) (hby : (n + n2) * bytes ≤ 140737488355328) (hbase : base ≤ w.heap.size)
    (h : ∀ ao' cap' w', OwnV w' base e k ao' cap' (n + n2) (xs ++ ys) → w.grownBy w' (blockOf ao) → (blockOf ao' = blockOf ao ∨ blockOf ao' = some w.heap.size) → wpList P ops Q rest (a.put o.dst (.slice ao' (n + n2) cap')) w') : wpList P ops Q (o :: rest) a w := by
  cases ao2 with
  | none =>
    have hc := hsrc.2.1 rfl
    have hn := hsrc.1
    obtain rfl : n2 = 0 := by omega
    subst hc
    rw [Nat.zero_mul] at hy
    obtain rfl : ys = [] := List.eq_nil_of_length_eq_zero hy
    refine wpList_append_own_none hgd s x t ho base e i k ht hi _ n xs hs hown hx ?_
    have := h ao cap w (by rw [List.append_nil]; exact hown) ⟨rfl, rfl, rfl, Nat.le_refl _, fun _ _ _ => rfl⟩ (Or.inl rfl)
    simpa using this
  | some ad =>
    refine wpList_append_own_at w hgd s x t ho base e i z k bytes ht hi hz hz1 hz2 hzs hk _ n xs hs hown ad n2 cap2 ys hx hy (fun j u hu => hsrc.cell hu) h1 (by unfold maxLen; omega) hby hbase ?_
    intro v' w' hown' hg _ hat
    obtain ⟨ao', cap', rfl, hB⟩ := OwnV.of hown'
    rw [ownBlock_slice] at hg hat
    rw [ownBlock_slice] at hat
    exact h ao' cap' w' hB hg hat

/-- texts as the cells of a row -/
def strV (l : List ByteArray) : List Value := l.map Value.string
theorem strV_length (l : List ByteArray) : (strV l).length = l.length := by simp [strV]
theorem strV_append (a b : List ByteArray) : strV (a ++ b) = strV a ++ strV b := by simp [strV]
theorem strV_one (l : List ByteArray) : ∀ u ∈ strV l, u.oneCell' = true := by
  intro u hu
  obtain ⟨b, _, rfl⟩ := List.mem_map.1 hu
  rfl
theorem strV_at (l : List ByteArray) (j : Nat) (h : j < l.length) : (strV l)[j]? = some (.string l[j]) := by simp [strV, h]
/-- pairs of texts as the cells of a row -/
def pairV (l : List (ByteArray × ByteArray)) : List Value := l.flatMap fun p => [.string p.1, .string p.2]
theorem pairV_length (l : List (ByteArray × ByteArray)) : (pairV l).length = l.length * 2 := by
  induction l with
  | nil => rfl
  | cons p t ih => simp only [pairV, List.flatMap_cons, List.length_append, List.length_cons, List.length_nil] at ih ⊢; omega
theorem pairV_append (a b : List (ByteArray × ByteArray)) : pairV (a ++ b) = pairV a ++ pairV b := by simp [pairV]
theorem pairV_one (l : List (ByteArray × ByteArray)) : ∀ u ∈ pairV l, u.oneCell' = true := by
  intro u hu
  obtain ⟨p, _, hp⟩ := List.mem_flatMap.1 hu
  simp at hp
  rcases hp with rfl | rfl <;> rfl
theorem pairV_at (l : List (ByteArray × ByteArray)) : ∀ j (h : j < l.length), (pairV l)[j * 2]? = some (.string l[j].1) ∧ (pairV l)[j * 2 + 1]? = some (.string l[j].2) := by
  induction l with
  | nil => intro j h; simp at h
  | cons p t ih =>
    intro j h
    cases j with
    | zero => exact ⟨rfl, rfl⟩
    | succ j =>
      have := ih j (by simpa using h)
      have e : ∀ q, (pairV (p :: t))[(q + 2)]? = (pairV t)[q]? := fun q => rfl
      rw [show (j + 1) * 2 = j * 2 + 2 by omega, show j * 2 + 2 + 1 = (j * 2 + 1) + 2 by omega, e, e]
      simpa using this
end Go.Proofs.YtdclmpdjjkjfjaaGreatDoor

/- Events of a stream in memory, of whatever program: one that lies at a place, and a slice of them that is read. -/
namespace Go.Proofs.YtdclmpdjjkjfjaaGreatDoor
open Go.RowKit

/-- an event, as it is handed over -/
structure EvD where
  kind : Int
  method : ByteArray
  target : ByteArray
  minor : Int
  fields : List (ByteArray × ByteArray)
  length : Int
  bytes : List UInt8
  pname : ByteArray
  pfile : ByteArray
  ptype : ByteArray
  pbytes : List UInt8
  code : Int
/-- where an event's slices lie -/
structure EvS where
  fo : Option Addr
  fcap : Nat
  bo : Option Addr
  bcap : Nat
  po : Option Addr
  pcap : Nat
/-- its cells -/
def EvD.cells (e : EvD) (s : EvS) : List Value := [.int .i64 e.kind, .string e.method, .string e.target, .int .i64 e.minor, .slice s.fo e.fields.length s.fcap, .int .i64 e.length, .slice s.bo e.bytes.length s.bcap, .string e.pname, .string e.pfile, .string e.ptype, .slice s.po e.pbytes.length s.pcap, .int .i64 e.code]
/-- an event lies at a place of block b from o on -/
structure IsEv (w : World) (b o : Nat) (e : EvD) (s : EvS) : Prop where
  at_ : ∀ j u, (e.cells s)[j]? = some u → w.cell? ⟨b, o + j, none⟩ = some u
  fields : IsV w s.fo s.fcap e.fields.length (pairV e.fields)
  bytes : IsB w s.bo s.bcap e.bytes
  pbytes : IsB w s.po s.pcap e.pbytes
theorem IsEv.stay {w w' : World} {b o : Nat} {e : EvD} {s : EvS} (h : IsEv w b o e s) (hb : Below w.heap.size w w') : IsEv w' b o e s :=
  ⟨fun j u hj => by have := h.at_ j u hj; rw [hb.cell (World.block_lt_of_cell? w _ this)]; exact this, h.fields.stay hb, h.bytes.stay hb, h.pbytes.stay hb⟩
/-- a slice of events that reads as es: whoever's memory it is -/
def IsEs (w : World) (ao : Option Addr) (cap : Nat) (es : List EvD) : Prop :=
  es.length ≤ cap ∧ (ao = none → cap = 0) ∧ ∀ j (hj : j < es.length), ∃ b o s, ao = some ⟨b, o, none⟩ ∧ IsEv w b (o + j * 12) es[j] s
theorem IsEs.nil (w : World) : IsEs w none 0 [] := ⟨Nat.le_refl _, fun _ => rfl, fun j hj => by simp at hj⟩
theorem IsEs.stay {w w' : World} {ao : Option Addr} {cap : Nat} {es : List EvD} (h : IsEs w ao cap es) (hb : Below w.heap.size w w') : IsEs w' ao cap es := by
  refine ⟨h.1, h.2.1, fun j hj => ?_⟩
  obtain ⟨b, o, s, e, hE⟩ := h.2.2 j hj
  exact ⟨b, o, s, e, hE.stay hb⟩
/-- its address, written out -/
theorem IsEs.lit {w : World} {ao : Option Addr} {cap : Nat} {es : List EvD} (h : IsEs w ao cap es) (hl : 0 < es.length) : ∃ b o, ao = some ⟨b, o, none⟩ ∧ ∀ j (hj : j < es.length), ∃ s, IsEv w b (o + j * 12) es[j] s := by
  obtain ⟨b, o, _, rfl, _⟩ := h.2.2 0 hl
  refine ⟨b, o, rfl, fun j hj => ?_⟩
  obtain ⟨b', o', s, e, hE⟩ := h.2.2 j hj
  injection e with e
  injection e with e1 e2
  subst e1; subst e2
  exact ⟨s, hE⟩
end Go.Proofs.YtdclmpdjjkjfjaaGreatDoor

/- Plain laws of events as they lie in memory: what is joined. -/
namespace Go.Proofs.YtdclmpdjjkjfjaaGreatDoor

/-- bytes of a body, and nothing else -/
def bodyD (b : List UInt8) : EvD := ⟨2, ⟨#[]⟩, ⟨#[]⟩, 0, [], 0, b, ⟨#[]⟩, ⟨#[]⟩, ⟨#[]⟩, [], 0⟩
/-- does the last one bring bytes of a body? -/
def tailD (l : List EvD) : Bool :=
  match l.getLast? with
  | some x => decide (x.kind = 2)
  | none => false
/-- the bytes of the last one -/
def tailBytes (l : List EvD) : List UInt8 :=
  match l.getLast? with
  | some x => x.bytes
  | none => []
/-- one more behind them -/
def addD (l : List EvD) (e : EvD) : List EvD := if e.kind = 2 ∧ tailD l = true then l.dropLast ++ [bodyD (tailBytes l ++ e.bytes)] else l ++ [e]
def joinD (l : List EvD) : List EvD := l.foldl addD []
/-- how many bytes they bring -/
def sumD : List EvD → Nat
  | [] => 0
  | e :: r => e.bytes.length + sumD r
theorem tailD_snoc (l : List EvD) (e : EvD) : tailD (l ++ [e]) = decide (e.kind = 2) := by unfold tailD; rw [List.getLast?_append]; simp
theorem tailBytes_snoc (l : List EvD) (e : EvD) : tailBytes (l ++ [e]) = e.bytes := by unfold tailBytes; rw [List.getLast?_append]; simp
theorem tailD_split {l : List EvD} (h : tailD l = true) : ∃ q x, l = q ++ [x] ∧ x.kind = 2 := by
  rcases List.eq_nil_or_concat l with rfl | ⟨q, x, rfl⟩
  · cases h
  · rw [List.concat_eq_append, tailD_snoc] at h
    exact ⟨q, x, by rw [List.concat_eq_append], of_decide_eq_true h⟩
theorem addD_merge (q : List EvD) (x e : EvD) (hx : x.kind = 2) (he : e.kind = 2) : addD (q ++ [x]) e = q ++ [bodyD (x.bytes ++ e.bytes)] := by
  unfold addD
  rw [if_pos ⟨he, by rw [tailD_snoc]; exact decide_eq_true hx⟩, tailBytes_snoc, List.dropLast_concat]
theorem addD_plain (l : List EvD) (e : EvD) (h : e.kind = 2 → tailD l = false) : addD l e = l ++ [e] := by
  unfold addD
  rw [if_neg (fun k => by rw [h k.1] at k; cases k.2)]
theorem joinD_snoc (l : List EvD) (e : EvD) : joinD (l ++ [e]) = addD (joinD l) e := by unfold joinD; rw [List.foldl_append]; rfl
theorem addD_tail (l : List EvD) (e : EvD) : tailD (addD l e) = decide (e.kind = 2) := by
  unfold addD
  split
  · rename_i h
    rw [tailD_snoc, h.1]; rfl
  · exact tailD_snoc l e
/-- what is joined ends as what came -/
theorem joinD_tail (l : List EvD) : tailD (joinD l) = tailD l := by
  rcases List.eq_nil_or_concat l with rfl | ⟨q, x, rfl⟩
  · rfl
  · rw [List.concat_eq_append, joinD_snoc, addD_tail, tailD_snoc]
theorem sumD_append : ∀ a b : List EvD, sumD (a ++ b) = sumD a + sumD b
  | [], b => by simp [sumD]
  | x :: r, b => by rw [List.cons_append, sumD, sumD, sumD_append r b]; omega
theorem sumD_mem : ∀ (l : List EvD) (e : EvD), e ∈ l → e.bytes.length ≤ sumD l
  | x :: r, e, h => by
    rw [sumD]
    rcases List.mem_cons.1 h with rfl | h
    · omega
    · have := sumD_mem r e h; omega
theorem tailBytes_le (l : List EvD) : (tailBytes l).length ≤ sumD l := by
  rcases List.eq_nil_or_concat l with rfl | ⟨q, x, rfl⟩
  · exact Nat.zero_le _
  · rw [List.concat_eq_append, tailBytes_snoc]; exact sumD_mem _ x (by simp)
theorem addD_sum (l : List EvD) (e : EvD) : sumD (addD l e) = sumD l + e.bytes.length := by
  by_cases h : e.kind = 2 ∧ tailD l = true
  · obtain ⟨q, x, rfl, hx⟩ := tailD_split h.2
    rw [addD_merge q x e hx h.1, sumD_append, sumD_append]
    simp [sumD, bodyD]; omega
  · rw [addD_plain l e (fun k => by
      cases ht : tailD l
      · rfl
      · exact absurd ⟨k, ht⟩ h), sumD_append]
    simp [sumD]
theorem joinD_sum (l : List EvD) : sumD (joinD l) = sumD l := by
  have : ∀ (m : List EvD) (o : List EvD), sumD (m.foldl addD o) = sumD o + sumD m := by
    intro m
    induction m with
    | nil => intro o; simp [sumD]
    | cons e r ih => intro o; rw [List.foldl_cons, ih, addD_sum, sumD]; omega
  have h := this l []
  simpa [joinD, sumD] using h
theorem addD_length (l : List EvD) (e : EvD) : (addD l e).length ≤ l.length + 1 := by
  by_cases h : e.kind = 2 ∧ tailD l = true
  · obtain ⟨q, x, rfl, hx⟩ := tailD_split h.2
    rw [addD_merge q x e hx h.1]; simp
  · rw [addD_plain l e (fun k => by
      cases ht : tailD l
      · rfl
      · exact absurd ⟨k, ht⟩ h)]
    simp
theorem joinD_length (l : List EvD) : (joinD l).length ≤ l.length := by
  have : ∀ (m : List EvD) (o : List EvD), (m.foldl addD o).length ≤ o.length + m.length := by
    intro m
    induction m with
    | nil => intro o; simp
    | cons e r ih => intro o; rw [List.foldl_cons]; have h1 := ih (addD o e); have h2 := addD_length o e; simp only [List.length_cons]; omega
  have h := this l []
  simpa [joinD] using h
/-- what holds of each that came, and of bodies, holds of each that is joined -/
theorem joinD_all {p : EvD → Prop} (hb : ∀ b, p (bodyD b)) (l : List EvD) (h : ∀ e ∈ l, p e) : ∀ e ∈ joinD l, p e := by
  have : ∀ (m : List EvD) (o : List EvD), (∀ e ∈ o, p e) → (∀ e ∈ m, p e) → ∀ e ∈ m.foldl addD o, p e := by
    intro m
    induction m with
    | nil => intro o ho _ e he; exact ho e he
    | cons x r ih =>
      intro o ho hm
      rw [List.foldl_cons]
      refine ih (addD o x) (fun e he => ?_) (fun e he => hm e (List.mem_cons_of_mem _ he))
      unfold addD at he
      split at he
      · rcases List.mem_append.1 he with he | he
        · exact ho e (List.dropLast_subset o he)
        · rw [List.mem_singleton.1 he]; exact hb _
      · rcases List.mem_append.1 he with he | he
        · exact ho e he
        · rw [List.mem_singleton.1 he]; exact hm x (List.mem_cons_self ..)
  exact this l [] (fun e he => by cases he) h
end Go.Proofs.YtdclmpdjjkjfjaaGreatDoor

/- Requests about uploads in a row (a head and a body each), as they are read; of whatever program. -/
namespace Go.Proofs.YtdclmpdjjkjfjaaGreatDoor
open Go.RowKit

/-- a request -/
structure Aq where
  m : ByteArray
  t : ByteArray
  mi : Int
  ln : Int
  fl : List (ByteArray × ByteArray)
  body : List UInt8
/-- where its lists lie -/
structure AqS where
  fo : Option Addr
  fcap : Nat
  bo : Option Addr
  bcap : Nat
def aqC (q : Aq) (s : AqS) : List Value := [.string q.m, .string q.t, .int .i64 q.mi, .slice s.fo q.fl.length s.fcap, .int .i64 q.ln, .slice s.bo q.body.length s.bcap]
def aqV (l : List (Aq × AqS)) : List Value := l.flatMap fun q => aqC q.1 q.2
theorem aqV_length (l : List (Aq × AqS)) : (aqV l).length = l.length * 6 := by
  induction l with
  | nil => rfl
  | cons p t ih =>
    have : (aqC p.1 p.2).length = 6 := rfl
    simp only [aqV, List.flatMap_cons, List.length_append, List.length_cons] at ih ⊢
    omega
theorem aqV_at : ∀ (l : List (Aq × AqS)) (i : Nat) (hi : i < l.length) (j : Nat), j < 6 → (aqV l)[i * 6 + j]? = (aqC l[i].1 l[i].2)[j]?
  | p :: t, 0, _, j, hj => by
    show (aqC p.1 p.2 ++ aqV t)[0 * 6 + j]? = _
    rw [List.getElem?_append_left (by rw [show (aqC p.1 p.2).length = 6 from rfl]; omega), Nat.zero_mul, Nat.zero_add]
    rfl
  | p :: t, i + 1, hi, j, hj => by
    show (aqC p.1 p.2 ++ aqV t)[(i + 1) * 6 + j]? = _
    rw [List.getElem?_append_right (by rw [show (aqC p.1 p.2).length = 6 from rfl]; omega), show (aqC p.1 p.2).length = 6 from rfl, show (i + 1) * 6 + j - 6 = i * 6 + j by omega]
    exact aqV_at t i (by simpa using hi) j hj
/-- requests in a row, as they are read -/
def IsAqs (w : World) (ao : Option Addr) (cap : Nat) (l : List Aq) : Prop := ∃ qs : List (Aq × AqS), qs.map (·.1) = l ∧ IsV w ao cap l.length (aqV qs) ∧ ∀ q ∈ qs, IsV w q.2.fo q.2.fcap q.1.fl.length (pairV q.1.fl) ∧ IsB w q.2.bo q.2.bcap q.1.body
theorem IsAqs.stay {w w' : World} {ao : Option Addr} {cap : Nat} {l : List Aq} (h : IsAqs w ao cap l) (hb : Below w.heap.size w w') : IsAqs w' ao cap l := by
  obtain ⟨qs, h1, h2, h3⟩ := h
  exact ⟨qs, h1, h2.stay hb, fun q hq => ⟨(h3 q hq).1.stay hb, (h3 q hq).2.stay hb⟩⟩
theorem IsAqs.nil (w : World) : IsAqs w none 0 [] := ⟨[], rfl, IsV.nil w, fun q hq => by cases hq⟩
theorem IsAqs.cap_ {w : World} {ao : Option Addr} {cap : Nat} {l : List Aq} (h : IsAqs w ao cap l) : l.length ≤ cap := by
  obtain ⟨_, _, h2, _⟩ := h
  exact h2.1
/-- a request's cells -/
structure AqAt (w : World) (b o : Nat) (q : Aq) (s : AqS) : Prop where
  c0 : w.cell? ⟨b, o, none⟩ = some (.string q.m)
  c1 : w.cell? ⟨b, o + 1, none⟩ = some (.string q.t)
  c2 : w.cell? ⟨b, o + 2, none⟩ = some (.int .i64 q.mi)
  c3 : w.cell? ⟨b, o + 3, none⟩ = some (.slice s.fo q.fl.length s.fcap)
  c4 : w.cell? ⟨b, o + 4, none⟩ = some (.int .i64 q.ln)
  c5 : w.cell? ⟨b, o + 5, none⟩ = some (.slice s.bo q.body.length s.bcap)
  fl : IsV w s.fo s.fcap q.fl.length (pairV q.fl)
  body : IsB w s.bo s.bcap q.body
theorem AqAt.stay {w w' : World} {b o : Nat} {q : Aq} {s : AqS} (h : AqAt w b o q s) (hb : Below w.heap.size w w') : AqAt w' b o q s :=
  ⟨(hb.cell (World.block_lt_of_cell? w _ h.c0)).trans h.c0, (hb.cell (World.block_lt_of_cell? w _ h.c1)).trans h.c1, (hb.cell (World.block_lt_of_cell? w _ h.c2)).trans h.c2, (hb.cell (World.block_lt_of_cell? w _ h.c3)).trans h.c3, (hb.cell (World.block_lt_of_cell? w _ h.c4)).trans h.c4, (hb.cell (World.block_lt_of_cell? w _ h.c5)).trans h.c5, h.fl.stay hb, h.body.stay hb⟩
theorem IsAqs.at_ {w : World} {ao : Option Addr} {cap : Nat} {l : List Aq} (h : IsAqs w ao cap l) (k : Nat) (hk : k < l.length) : ∃ (b o : Nat) (s : AqS), ao = some ⟨b, o, none⟩ ∧ AqAt w b (o + k * 6) l[k] s := by
  obtain ⟨qs, rfl, hv, hb⟩ := h
  have hk' : k < qs.length := by simpa using hk
  obtain ⟨b, o, rfl, hc⟩ := hv.lit (by rw [aqV_length]; omega)
  have hq := hb _ (List.getElem_mem hk')
  have e := fun j hj => aqV_at qs k hk' j hj
  refine ⟨b, o, qs[k].2, rfl, ?_⟩
  rw [List.getElem_map]
  refine ⟨?_, ?_, ?_, ?_, ?_, ?_, hq.1, hq.2⟩
  · have := e 0 (by decide); rw [Nat.add_zero] at this; exact hc _ _ this
  · rw [Nat.add_assoc]; exact hc _ _ (e 1 (by decide))
  · rw [Nat.add_assoc]; exact hc _ _ (e 2 (by decide))
  · rw [Nat.add_assoc]; exact hc _ _ (e 3 (by decide))
  · rw [Nat.add_assoc]; exact hc _ _ (e 4 (by decide))
  · rw [Nat.add_assoc]; exact hc _ _ (e 5 (by decide))
end Go.Proofs.YtdclmpdjjkjfjaaGreatDoor

/- Lists of lists of bytes in memory, of whatever program: a slice of slices that is read. -/
namespace Go.Proofs.YtdclmpdjjkjfjaaGreatDoor
open Go.RowKit

/-- a slice of slices of bytes that reads as ls: whoever's memory it is -/
def IsL (w : World) (ao : Option Addr) (cap : Nat) (ls : List (List UInt8)) : Prop :=
  ls.length ≤ cap ∧ (ao = none → cap = 0) ∧ ∀ j (hj : j < ls.length), ∃ a bo c, ao = some a ∧ w.cell? (a.add j) = some (.slice bo ls[j].length c) ∧ IsB w bo c ls[j]
theorem IsL.nil (w : World) : IsL w none 0 [] := ⟨Nat.le_refl _, fun _ => rfl, fun j hj => by simp at hj⟩
theorem IsL.stay {w w' : World} {ao : Option Addr} {cap : Nat} {ls : List (List UInt8)} (h : IsL w ao cap ls) (hb : Below w.heap.size w w') : IsL w' ao cap ls := by
  refine ⟨h.1, h.2.1, fun j hj => ?_⟩
  obtain ⟨a, bo, c, e, hc, hI⟩ := h.2.2 j hj
  exact ⟨a, bo, c, e, by rw [hb.cell (World.block_lt_of_cell? w _ hc)]; exact hc, hI.stay hb⟩
/-- its address, written out -/
theorem IsL.lit {w : World} {ao : Option Addr} {cap : Nat} {ls : List (List UInt8)} (h : IsL w ao cap ls) (hl : 0 < ls.length) : ∃ b o, ao = Option.some ⟨b, o, Option.none⟩ ∧ ∀ j (hj : j < ls.length), ∃ bo c, w.cell? ⟨b, o + j, Option.none⟩ = Option.some (.slice bo ls[j].length c) ∧ IsB w bo c ls[j] := by
  obtain ⟨⟨b, o, sp⟩, _, _, rfl, h0, _⟩ := h.2.2 0 hl
  have hs : sp = Option.none := by simpa [Addr.add] using World.cell?_spot h0
  subst hs
  refine ⟨b, o, rfl, fun j hj => ?_⟩
  obtain ⟨a, bo, c, e, hc, hI⟩ := h.2.2 j hj
  injection e with e
  subst e
  rw [Addr.add_lit] at hc
  exact ⟨bo, c, hc, hI⟩
/-- element j, in every world that keeps what was there -/
theorem IsL.at_ {w : World} {b o cap : Nat} {ls : List (List UInt8)} (h : IsL w (Option.some ⟨b, o, Option.none⟩) cap ls) (j : Nat) (hj : j < ls.length) : ∃ bo c, ls[j].length ≤ c ∧ ∀ W, Below w.heap.size w W → W.cell? ⟨b, o + j, Option.none⟩ = Option.some (.slice bo ls[j].length c) ∧ IsB W bo c ls[j] := by
  obtain ⟨a, bo, c, e, hc, hI⟩ := h.2.2 j hj
  injection e with e
  subst e
  rw [Addr.add_lit] at hc
  exact ⟨bo, c, hI.1, fun W hb => ⟨by rw [hb.cell (World.block_lt_of_cell? w _ hc)]; exact hc, hI.stay hb⟩⟩
end Go.Proofs.YtdclmpdjjkjfjaaGreatDoor
