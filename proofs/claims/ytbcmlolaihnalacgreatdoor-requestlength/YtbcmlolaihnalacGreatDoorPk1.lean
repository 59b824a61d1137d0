/- Small texts, one behind the other: Mem, MemV, Foot, PlainA. -/
import Derived.WalkKit
import Derived.Laws.AppendOwnNone
import Derived.Maps.AppendAt
import Derived.Laws.IdiomStrings
import Derived.DataElems
import Derived.Deep.Draws
import Derived.Deep.OwnRows
import Derived.Lib.SlTrimSet
import Derived.Lib.IndexLaws
import Derived.Lib.Strings
import Derived.Below
/- Bytes in memory, of whatever program: a slice of bytes that is read, one that the call owns, what is cut out of it, its text, and what append makes of it. -/
namespace Go.Proofs.YtbcmlolaihnalacGreatDoor
open Go.RowKit

theorem below_drew (B : Nat) (w : World) : Below B w w.drew := ⟨rfl, rfl, rfl, Nat.le_refl _, fun _ _ => rfl⟩
/-- bytes as the cells of a row -/
def byteV (l : List UInt8) : List Value := l.map fun b => .int .u8 (b.toNat : Int)
theorem byteV_length (l : List UInt8) : (byteV l).length = l.length := by simp [byteV]
theorem byteV_append (a b : List UInt8) : byteV (a ++ b) = byteV a ++ byteV b := by simp [byteV]
theorem byteV_one (l : List UInt8) : ∀ u ∈ byteV l, u.oneCell' = true := by
  intro u hu
  obtain ⟨b, _, rfl⟩ := List.mem_map.1 hu
  rfl
theorem byteV_at (l : List UInt8) (j : Nat) (h : j < l.length) : (byteV l)[j]? = some (.int .u8 (l[j].toNat : Int)) := by
  simp [byteV, h]

/-- a slice of bytes that reads as l: whoever's memory it is -/
def IsB (w : World) (ao : Option Addr) (cap : Nat) (l : List UInt8) : Prop :=
  l.length ≤ cap ∧ (ao = none → cap = 0) ∧ ∀ j (hj : j < l.length), ∃ a, ao = some a ∧ w.cell? (a.add j) = some (.int .u8 (l[j].toNat : Int))
theorem IsB.cell {w : World} {a : Addr} {cap : Nat} {l : List UInt8} (h : IsB w (some a) cap l) (j : Nat) (hj : j < l.length) : w.cell? (a.add j) = some (.int .u8 (l[j].toNat : Int)) := by
  obtain ⟨a', e, hc⟩ := h.2.2 j hj
  injection e with e; subst e; exact hc
theorem IsB.some {w : World} {ao : Option Addr} {cap : Nat} {l : List UInt8} (h : IsB w ao cap l) (hl : 0 < l.length) : ∃ a, ao = some a := by
  obtain ⟨a, e, _⟩ := h.2.2 0 hl; exact ⟨a, e⟩
theorem IsB.nil (w : World) : IsB w none 0 [] := ⟨Nat.le_refl _, fun _ => rfl, fun j hj => by simp at hj⟩
theorem IsB.none_nil {w : World} {cap : Nat} {l : List UInt8} (h : IsB w none cap l) : l = [] ∧ cap = 0 := by
  have hc := h.2.1 rfl
  have h1 := h.1
  exact ⟨List.eq_nil_of_length_eq_zero (by omega), hc⟩
/-- its address, written out -/
theorem IsB.lit {w : World} {ao : Option Addr} {cap : Nat} {l : List UInt8} (h : IsB w ao cap l) (hl : 0 < l.length) : ∃ b o, ao = Option.some ⟨b, o, Option.none⟩ ∧ ∀ j (hj : j < l.length), w.cell? ⟨b, o + j, Option.none⟩ = Option.some (.int .u8 (l[j].toNat : Int)) := by
  obtain ⟨⟨b, o, sp⟩, rfl, h0⟩ := h.2.2 0 hl
  have hs : sp = Option.none := by simpa [Addr.add] using World.cell?_spot h0
  subst hs
  refine ⟨b, o, rfl, fun j hj => ?_⟩
  have := h.cell j hj
  rwa [Addr.add_lit] at this
/-- what reads so in one world reads so in another that has the same cells there -/
theorem IsB.move {w w' : World} {ao : Option Addr} {cap : Nat} {l : List UInt8} (h : IsB w ao cap l) (hc : ∀ a, ao = Option.some a → ∀ v j, w.cell? (a.add j) = Option.some v → w'.cell? (a.add j) = Option.some v) : IsB w' ao cap l := by
  refine ⟨h.1, h.2.1, fun j hj => ?_⟩
  obtain ⟨a, e, hv⟩ := h.2.2 j hj
  exact ⟨a, e, hc a e _ j hv⟩
theorem add_block (a : Addr) (j : Nat) : (a.add j).block = a.block := by unfold Addr.add; split <;> rfl
theorem IsB.below {w w' : World} {ao : Option Addr} {cap : Nat} {l : List UInt8} {B : Nat} (h : IsB w ao cap l) (hb : Below B w w') (ha : ∀ a, ao = Option.some a → a.block < B) : IsB w' ao cap l :=
  h.move fun a e v j hv => by rw [hb.cell (by rw [add_block]; exact ha a e)]; exact hv
theorem IsB.grown {w w' : World} {ao : Option Addr} {cap : Nat} {l : List UInt8} {row : Option Nat} (h : IsB w ao cap l) (hg : w.grownBy w' row) (ha : ∀ a, ao = Option.some a → Option.some a.block ≠ row) : IsB w' ao cap l :=
  h.move fun a e v j hv => hg.cell hv (by rw [add_block]; exact ha a e)
theorem IsB.stay {w w' : World} {ao : Option Addr} {cap : Nat} {l : List UInt8} (h : IsB w ao cap l) (hb : Below w.heap.size w w') : IsB w' ao cap l :=
  h.move fun a _ v j hv => by rw [hb.cell (World.block_lt_of_cell? w _ hv)]; exact hv
/-- a piece of it -/
theorem IsB.cut {w : World} {ao ao' : Option Addr} {cap : Nat} {l : List UInt8} (h : IsB w ao cap l) (lo hi : Nat) (h1 : lo ≤ hi) (h2 : hi ≤ l.length)
    (e2 : cap ≠ lo → ao' = ao.map (·.add lo)) : IsB w ao' (cap - lo) ((l.drop lo).take (hi - lo)) := by
  have hc := h.1
  have hlen : ((l.drop lo).take (hi - lo)).length = hi - lo := by rw [List.length_take, List.length_drop]; omega
  refine ⟨by omega, fun hn => ?_, fun j hj => ?_⟩
  · by_cases e : cap = lo
    · omega
    · have := e2 e
      rw [hn] at this
      have ho : ao = none := Option.map_eq_none_iff.1 this.symm
      have := h.2.1 ho; omega
  · rw [hlen] at hj
    obtain ⟨a, e, hv⟩ := h.2.2 (lo + j) (by omega)
    have hne : cap ≠ lo := by omega
    refine ⟨a.add lo, by rw [e2 hne, e]; rfl, ?_⟩
    rw [Addr.add_add, hv]
    simp
theorem IsB.drewN {w : World} {ao : Option Addr} {cap : Nat} {l : List UInt8} (h : IsB w ao cap l) (n : Nat) : IsB (w.drewN n) ao cap l :=
  h.move (fun a _ v j hv => by rw [World.cell?_drewN]; exact hv)
/-- its beginning -/
theorem IsB.first {w : World} {ao : Option Addr} {cap : Nat} {l : List UInt8} (h : IsB w ao cap l) (n : Nat) (hn : n ≤ l.length) : IsB w ao cap (l.take n) := by
  have := h.cut (ao' := ao) 0 n (Nat.zero_le _) hn (fun _ => by cases ao <;> simp [Addr.add])
  simpa using this
/-- its text -/
theorem IsB.str {P : Program} {w : World} {ao : Option Addr} {cap : Nat} {l : List UInt8} (h : IsB w ao cap l) (src dst e : TypeId) (hs : P.underlying src = Option.some (.slice e)) (he : P.underlying e = Option.some (.int .u8)) (hd : P.underlying dst = Option.some .string) :
    (convert src dst (.slice ao l.length cap)).run P w = .ok (.string ⟨l.toArray⟩) w := by
  cases ao with
  | none =>
    obtain ⟨rfl, rfl⟩ := h.none_nil
    rw [run_convert_bytes_string w src dst e none _ _ hs he hd]
    rfl
  | some a => exact run_convert_bytes_back w src dst e a cap l hs he hd (fun j hj => h.cell j hj)

/-- a slice of bytes that lies at the head of a block, from number base on, of the call's own -/
def OwnB (w : World) (base t : Nat) (ao : Option Addr) (cap : Nat) (l : List UInt8) : Prop := w.ownsRow base t 1 (.slice ao l.length cap) l.length (byteV l)
theorem OwnB.nil (w : World) (base t : Nat) : OwnB w base t none 0 [] := World.ownsRow_nil _ _ _ _
theorem OwnB.of {w : World} {base t : Nat} {v : Value} {l : List UInt8} {n : Nat} (hn : n = l.length) (h : w.ownsRow base t 1 v n (byteV l)) : ∃ ao cap, v = .slice ao l.length cap ∧ OwnB w base t ao cap l := by
  subst hn
  rcases h.2 with ⟨rfl, h0⟩ | ⟨g, cap, cur, rfl, _⟩
  · have e : l = [] := List.eq_nil_of_length_eq_zero h0
    subst e
    exact ⟨none, 0, rfl, h⟩
  · exact ⟨_, _, rfl, h⟩
theorem OwnB.isB {w : World} {base t : Nat} {ao : Option Addr} {cap : Nat} {l : List UInt8} (h : OwnB w base t ao cap l) : IsB w ao cap l := by
  rcases h.2 with ⟨e, h0⟩ | ⟨g, cap', cur, e, hg, hh, hn, hm, hs, ht⟩
  · injection e with e1 e2 e3
    subst e1; subst e3
    rw [List.eq_nil_of_length_eq_zero h0]; exact IsB.nil w
  · injection e with e1 e2 e3
    subst e1; subst e3
    refine ⟨hn, fun e => by simp at e, fun j hj => ⟨_, rfl, ?_⟩⟩
    exact World.ownsRow.cells h (g := g) rfl j _ (byteV_at l j hj)
theorem OwnB.block {w : World} {base t : Nat} {ao : Option Addr} {cap : Nat} {l : List UInt8} (h : OwnB w base t ao cap l) (a : Addr) (e : ao = some a) : base ≤ a.block ∧ a.block < w.heap.size := by
  subst e
  exact World.ownsRow.lt h a.block rfl
theorem OwnB.head {w : World} {base t : Nat} {ao : Option Addr} {cap : Nat} {l : List UInt8} (h : OwnB w base t ao cap l) (hl : 0 < l.length) : ∃ g, ao = some ⟨g, 0, none⟩ ∧ base ≤ g ∧ ∀ j (hj : j < l.length), w.cell? ⟨g, j, none⟩ = some (.int .u8 (l[j].toNat : Int)) := by
  rcases h.2 with ⟨e, h0⟩ | ⟨g, cap', cur, e, hg, hh, hn, hm, hs, ht⟩
  · omega
  · injection e with e1 e2 e3
    subst e1; subst e3
    refine ⟨g, rfl, hg, fun j hj => ?_⟩
    have := World.ownsRow.cells h (g := g) rfl j _ (byteV_at l j hj)
    rwa [Addr.add_lit, Nat.zero_add] at this
theorem OwnB.kept {w w' : World} {base t : Nat} {ao : Option Addr} {cap : Nat} {l : List UInt8} {row : Option Nat} (h : OwnB w base t ao cap l) (hg : w.grownBy w' row) (ha : ∀ a, ao = some a → some a.block ≠ row) : OwnB w' base t ao cap l := by
  refine World.ownsRow.kept h hg ?_
  cases ao with
  | none => exact Or.inl rfl
  | some a => exact Or.inr (ha a rfl)
theorem OwnB.below {w w' : World} {base t : Nat} {ao : Option Addr} {cap : Nat} {l : List UInt8} {B : Nat} (h : OwnB w base t ao cap l) (hb : Below B w w') (ha : ∀ a, ao = some a → a.block < B) : OwnB w' base t ao cap l := by
  refine ⟨h.1, ?_⟩
  rcases h.2 with hn | ⟨g, cap', cur, e, hg, hh, r⟩
  · exact Or.inl hn
  · refine Or.inr ⟨g, cap', cur, e, hg, ?_, r⟩
    injection e with e1 e2 e3
    rw [hb.block g (ha _ e1)]; exact hh
theorem OwnB.mono {w : World} {base base' t : Nat} {ao : Option Addr} {cap : Nat} {l : List UInt8} (h : OwnB w base t ao cap l) (hb : base' ≤ base) : OwnB w base' t ao cap l := by
  refine ⟨h.1, ?_⟩
  rcases h.2 with hn | ⟨g, cap', cur, e, hg, r⟩
  · exact Or.inl hn
  · exact Or.inr ⟨g, cap', cur, e, by omega, r⟩
theorem OwnB.alloc {w : World} {base t : Nat} {ao : Option Addr} {cap : Nat} {l : List UInt8} (h : OwnB w base t ao cap l) (o : Obj) : OwnB (w.alloc o) base t ao cap l := World.ownsRow.alloc h o
theorem IsB.alloc {w : World} {ao : Option Addr} {cap : Nat} {l : List UInt8} (h : IsB w ao cap l) (o : Obj) : IsB (w.alloc o) ao cap l := h.grown (World.grownBy_alloc w o none) (fun a _ => by simp)
/-- one byte in a new block -/
theorem IsB.one (w : World) (c : UInt8) (t : Nat) (fr : Nat × Nat) : IsB (w.alloc (.cells #[.int .u8 (c.toNat : Int)] t fr)) (Option.some ⟨w.heap.size, 0, Option.none⟩) 1 [c] := by
  refine ⟨Nat.le_refl _, fun e => by simp at e, fun j hj => ⟨_, rfl, ?_⟩⟩
  have e : j = 0 := by simp at hj; exact hj
  subst e
  rw [Addr.add_lit, World.cell?_alloc_mark]
  rfl
/-- a text's bytes in a new block -/
theorem IsB.ofRow (w : World) (s : ByteArray) (cap t : Nat) (fr : Nat × Nat) (hcap : s.size ≤ cap) : IsB (w.alloc (.cells (bytesRow s cap) t fr)) (Option.some ⟨w.heap.size, 0, Option.none⟩) cap s.data.toList := by
  refine ⟨by rw [Array.length_toList]; exact hcap, fun e => by simp at e, fun j hj => ⟨_, rfl, ?_⟩⟩
  rw [Array.length_toList] at hj
  rw [Addr.add_lit, World.cell?_alloc_mark, Nat.zero_add, bytesRow_at s cap j hj]
  simp
/-- '[]byte(s)' -/
theorem bytes_of {P : Program} (W : World) (s : ByteArray) (src dst e : TypeId) (hs : P.underlying src = some .string) (hd : P.underlying dst = some (.slice e)) (he : P.underlying e = some (.int .u8)) :
    ∃ cap w1, (convert src dst (.string s)).run P W = .ok (.slice (some ⟨W.heap.size, 0, none⟩) s.size cap) w1 ∧ Below W.heap.size W w1 ∧ w1.heap.size = W.heap.size + 1 ∧ IsB w1 (some ⟨W.heap.size, 0, none⟩) cap s.data.toList := by
  refine ⟨_, _, run_bytes_of_string (P := P) W src dst e s hs hd he, ((below_drew _ W).alloc (Nat.le_refl _) _), by simp, IsB.ofRow W.drew s _ _ _ (grownCap_ge W s.size 0 e)⟩
/-- the block of a slice's address -/
def blockOf : Option Addr → Option Nat
  | some a => some a.block
  | none => none
theorem ownBlock_slice (ao : Option Addr) (n cap : Nat) : (Value.slice ao n cap).ownBlock = blockOf ao := by cases ao <;> rfl

theorem grown_trans {a b c : World} {row : Option Nat} (h : a.grownBy b row) (k : b.grownBy c row) : a.grownBy c row :=
  ⟨k.os.trans h.os, k.tape.trans h.tape, k.output.trans h.output, Nat.le_trans h.size k.size, fun i hi hne => (k.block i (Nat.lt_of_lt_of_le hi h.size) hne).trans (h.block i hi hne)⟩
theorem grown_below {a b : World} (row : Option Nat) (h : Below a.heap.size a b) : a.grownBy b row := ⟨h.os, h.tape, h.output, h.size, fun i hi _ => h.block i hi⟩
theorem grown_drew (w : World) (row : Option Nat) : w.grownBy w.drew row := ⟨rfl, rfl, rfl, Nat.le_refl _, fun _ _ _ => rfl⟩
/-- 'append(dst, src...)', dst the call's own, src whatever reads as bytes; and where it lies behind it -/
theorem wpList_append_at {P : Program} {w : World} {ops : Array Oper} {rest : List Oper} {o : Oper} {a : Act} {Q : Exit → Act → World → Prop} (hgd : o.guard = none) (s x : Operand) (t : TypeId)
    (ho : o.op = .call { callee := .builtin .append, args := #[s, x], argTypes := #[t, t] })
    (base : Nat) (e : TypeId) (i : TypeInfo) (ht : P.underlying t = some (.slice e)) (hi : P.info? e = some i) (hz : i.zero = some (.int .u8 0)) (hz1 : i.size = 1) (hz2 : i.bytes = 1)
    {ao : Option Addr} {cap n : Nat} {l : List UInt8} (hs : a.eval s = .slice ao n cap) (hn : l.length = n) (hown : OwnB w base e ao cap l)
    {ao2 : Option Addr} {cap2 n2 : Nat} {l2 : List UInt8} (hx : a.eval x = .slice ao2 n2 cap2) (hn2 : l2.length = n2) (hsrc : IsB w ao2 cap2 l2)
    (hlen : n + n2 ≤ 140737488355328) (hbase : base ≤ w.heap.size)
    (h : ∀ ao' cap' w', OwnB w' base e ao' cap' (l ++ l2) → w.grownBy w' (blockOf ao) → (blockOf ao' = blockOf ao ∨ blockOf ao' = some w.heap.size) → wpList P ops Q rest (a.put o.dst (.slice ao' (n + n2) cap')) w') : wpList P ops Q (o :: rest) a w := by
  subst hn; subst hn2
  cases ao2 with
  | none =>
    obtain ⟨rfl, rfl⟩ := hsrc.none_nil
    refine wpList_append_own_none hgd s x t ho base e i 1 ht hi _ l.length (byteV l) hs hown hx ?_
    have := h ao cap w (by rw [List.append_nil]; exact hown) ⟨rfl, rfl, rfl, Nat.le_refl _, fun _ _ _ => rfl⟩ (Or.inl rfl)
    simpa using this
  | some ad =>
    refine wpList_append_own_at w hgd s x t ho base e i (.int .u8 0) 1 1 ht hi hz hz1 hz2 rfl (by decide) _ l.length (byteV l) hs hown ad l2.length cap2 (byteV l2) hx (by rw [byteV_length]; omega) (fun j u hu => ?_) (byteV_one l2) (by unfold maxLen; omega) (by omega) hbase ?_
    · have hj : j < l2.length := by
        have := (List.getElem?_eq_some_iff.1 hu).1
        rwa [byteV_length] at this
      rw [byteV_at l2 j hj] at hu
      injection hu with hu; subst hu
      exact hsrc.cell j hj
    · intro v' w' hown' hg _ hat
      rw [← byteV_append] at hown'
      obtain ⟨ao', cap', rfl, hB⟩ := OwnB.of (by simp) hown'
      rw [ownBlock_slice] at hg hat
      rw [ownBlock_slice] at hat
      have := h ao' cap' w' hB hg hat
      simpa using this
/-- 'append(dst, src...)', dst the call's own, src whatever reads as bytes -/
theorem wpList_append_b {P : Program} {w : World} {ops : Array Oper} {rest : List Oper} {o : Oper} {a : Act} {Q : Exit → Act → World → Prop} (hgd : o.guard = none) (s x : Operand) (t : TypeId)
    (ho : o.op = .call { callee := .builtin .append, args := #[s, x], argTypes := #[t, t] })
    (base : Nat) (e : TypeId) (i : TypeInfo) (ht : P.underlying t = some (.slice e)) (hi : P.info? e = some i) (hz : i.zero = some (.int .u8 0)) (hz1 : i.size = 1) (hz2 : i.bytes = 1)
    {ao : Option Addr} {cap n : Nat} {l : List UInt8} (hs : a.eval s = .slice ao n cap) (hn : l.length = n) (hown : OwnB w base e ao cap l)
    {ao2 : Option Addr} {cap2 n2 : Nat} {l2 : List UInt8} (hx : a.eval x = .slice ao2 n2 cap2) (hn2 : l2.length = n2) (hsrc : IsB w ao2 cap2 l2)
    (hlen : n + n2 ≤ 140737488355328) (hbase : base ≤ w.heap.size)
    (h : ∀ ao' cap' w', OwnB w' base e ao' cap' (l ++ l2) → w.grownBy w' (blockOf ao) → wpList P ops Q rest (a.put o.dst (.slice ao' (n + n2) cap')) w') : wpList P ops Q (o :: rest) a w :=
  wpList_append_at hgd s x t ho base e i ht hi hz hz1 hz2 hs hn hown hx hn2 hsrc hlen hbase (fun ao' cap' w' h1 h2 _ => h ao' cap' w' h1 h2)
end Go.Proofs.YtbcmlolaihnalacGreatDoor

/- Slices of whatever elements in memory, of whatever program: one that is read, one that the call owns, what is cut out of it, and what append makes of it. Elements go by their cells, one behind the other. -/
namespace Go.Proofs.YtbcmlolaihnalacGreatDoor
open Go.RowKit

/-- a slice of n elements that reads as the cells xs: whoever's memory it is -/
def IsV (w : World) (ao : Option Addr) (cap n : Nat) (xs : List Value) : Prop :=
  n ≤ cap ∧ (ao = none → cap = 0) ∧ ∀ j u, xs[j]? = some u → ∃ a, ao = some a ∧ w.cell? (a.add j) = some u
theorem IsV.cell {w : World} {a : Addr} {cap n : Nat} {xs : List Value} (h : IsV w (some a) cap n xs) {j : Nat} {u : Value} (hj : xs[j]? = some u) : w.cell? (a.add j) = some u := by
  obtain ⟨a', e, hc⟩ := h.2.2 j u hj
  injection e with e; subst e; exact hc
/-- its address, written out -/
theorem IsV.lit {w : World} {ao : Option Addr} {cap n : Nat} {xs : List Value} (h : IsV w ao cap n xs) (hl : 0 < xs.length) : ∃ b o, ao = Option.some ⟨b, o, Option.none⟩ ∧ ∀ j u, xs[j]? = Option.some u → w.cell? ⟨b, o + j, Option.none⟩ = Option.some u := by
  obtain ⟨⟨b, o, sp⟩, rfl, h0⟩ := h.2.2 0 xs[0] (List.getElem?_eq_getElem hl)
  have hs : sp = Option.none := by simpa [Addr.add] using World.cell?_spot h0
  subst hs
  refine ⟨b, o, rfl, fun j u hj => ?_⟩
  have := h.cell hj
  rwa [Addr.add_lit] at this
theorem IsV.nil (w : World) : IsV w none 0 0 [] := ⟨Nat.le_refl _, fun _ => rfl, fun j u hj => by simp at hj⟩
theorem IsV.move {w w' : World} {ao : Option Addr} {cap n : Nat} {xs : List Value} (h : IsV w ao cap n xs) (hc : ∀ a, ao = Option.some a → ∀ v j, w.cell? (a.add j) = Option.some v → w'.cell? (a.add j) = Option.some v) : IsV w' ao cap n xs := by
  refine ⟨h.1, h.2.1, fun j u hj => ?_⟩
  obtain ⟨a, e, hv⟩ := h.2.2 j u hj
  exact ⟨a, e, hc a e _ j hv⟩
theorem IsV.stay {w w' : World} {ao : Option Addr} {cap n : Nat} {xs : List Value} (h : IsV w ao cap n xs) (hb : Below w.heap.size w w') : IsV w' ao cap n xs :=
  h.move fun a _ v j hv => by rw [hb.cell (World.block_lt_of_cell? w _ hv)]; exact hv
theorem IsV.below {w w' : World} {ao : Option Addr} {cap n : Nat} {xs : List Value} {B : Nat} (h : IsV w ao cap n xs) (hb : Below B w w') (ha : ∀ a, ao = Option.some a → a.block < B) : IsV w' ao cap n xs :=
  h.move fun a e v j hv => by rw [hb.cell (by rw [add_block]; exact ha a e)]; exact hv
theorem IsV.grown {w w' : World} {ao : Option Addr} {cap n : Nat} {xs : List Value} {row : Option Nat} (h : IsV w ao cap n xs) (hg : w.grownBy w' row) (ha : ∀ a, ao = Option.some a → Option.some a.block ≠ row) : IsV w' ao cap n xs :=
  h.move fun a e v j hv => hg.cell hv (by rw [add_block]; exact ha a e)
theorem IsV.alloc {w : World} {ao : Option Addr} {cap n : Nat} {xs : List Value} (h : IsV w ao cap n xs) (o : Obj) : IsV (w.alloc o) ao cap n xs := h.grown (World.grownBy_alloc w o none) (fun a _ => by simp)
theorem IsV.drewN {w : World} {ao : Option Addr} {cap n : Nat} {xs : List Value} (h : IsV w ao cap n xs) (q : Nat) : IsV (w.drewN q) ao cap n xs :=
  h.move (fun a _ v j hv => by rw [World.cell?_drewN]; exact hv)
/-- cells in a new block -/
theorem IsV.made (w : World) (cs : Array Value) (n t : Nat) (fr : Nat × Nat) : IsV (w.alloc (.cells cs t fr)) (Option.some ⟨w.heap.size, 0, Option.none⟩) n n cs.toList := by
  refine ⟨Nat.le_refl _, fun e => by simp at e, fun j u hj => ⟨_, rfl, ?_⟩⟩
  rw [Addr.add_lit, World.cell?_alloc_mark, Nat.zero_add]
  simpa using hj
/-- a piece of it, its elements of k cells each -/
theorem IsV.cut {w : World} {ao ao' : Option Addr} {cap n k : Nat} {xs : List Value} (h : IsV w ao cap n xs) (lo hi : Nat) (h1 : lo ≤ hi) (h2 : hi ≤ n)
    (e2 : cap ≠ lo → ao' = ao.map (·.add (lo * k))) : IsV w ao' (cap - lo) (hi - lo) ((xs.drop (lo * k)).take ((hi - lo) * k)) := by
  have hc := h.1
  refine ⟨by omega, fun hn => ?_, fun j u hj => ?_⟩
  · by_cases e : cap = lo
    · omega
    · have := e2 e
      rw [hn] at this
      have ho : ao = none := Option.map_eq_none_iff.1 this.symm
      have := h.2.1 ho; omega
  · rw [List.getElem?_take] at hj
    split at hj
    · rename_i hlt
      rw [List.getElem?_drop] at hj
      obtain ⟨a, e, hv⟩ := h.2.2 _ u hj
      have hne : cap ≠ lo := by
        intro e
        have hl : hi - lo = 0 := by omega
        rw [hl, Nat.zero_mul] at hlt; omega
      refine ⟨a.add (lo * k), by rw [e2 hne, e]; rfl, ?_⟩
      rw [Addr.add_add]; exact hv
    · simp at hj
/-- a slice that lies at the head of a block, from number base on, of the call's own: n elements of type t, k cells each -/
def OwnV (w : World) (base t k : Nat) (ao : Option Addr) (cap n : Nat) (xs : List Value) : Prop := w.ownsRow base t k (.slice ao n cap) n xs
theorem OwnV.nil (w : World) (base t k : Nat) : OwnV w base t k none 0 0 [] := World.ownsRow_nil _ _ _ _
theorem OwnV.of {w : World} {base t k n : Nat} {v : Value} {xs : List Value} (h : w.ownsRow base t k v n xs) : ∃ ao cap, v = .slice ao n cap ∧ OwnV w base t k ao cap n xs := by
  rcases h.2 with ⟨rfl, h0⟩ | ⟨g, cap, cur, rfl, _⟩
  · subst h0; exact ⟨none, 0, rfl, h⟩
  · exact ⟨_, _, rfl, h⟩
theorem OwnV.isV {w : World} {base t k : Nat} {ao : Option Addr} {cap n : Nat} {xs : List Value} (h : OwnV w base t k ao cap n xs) : IsV w ao cap n xs := by
  have hx := h.1
  rcases h.2 with ⟨e, h0⟩ | ⟨g, cap', cur, e, hg, hh, hn, hm, hs, ht⟩
  · injection e with e1 e2 e3
    subst e1; subst e3; subst h0
    rw [Nat.zero_mul] at hx
    rw [List.eq_nil_of_length_eq_zero hx]; exact IsV.nil w
  · injection e with e1 e2 e3
    subst e1; subst e3
    exact ⟨hn, fun e => by simp at e, fun j u hj => ⟨_, rfl, World.ownsRow.cells h (g := g) rfl j u hj⟩⟩
theorem OwnV.block {w : World} {base t k : Nat} {ao : Option Addr} {cap n : Nat} {xs : List Value} (h : OwnV w base t k ao cap n xs) (a : Addr) (e : ao = some a) : base ≤ a.block ∧ a.block < w.heap.size := by
  subst e
  exact World.ownsRow.lt h a.block rfl
theorem OwnV.kept {w w' : World} {base t k : Nat} {ao : Option Addr} {cap n : Nat} {xs : List Value} {row : Option Nat} (h : OwnV w base t k ao cap n xs) (hg : w.grownBy w' row) (ha : ∀ a, ao = some a → some a.block ≠ row) : OwnV w' base t k ao cap n xs := by
  refine World.ownsRow.kept h hg ?_
  cases ao with
  | none => exact Or.inl rfl
  | some a => exact Or.inr (ha a rfl)
theorem OwnV.below {w w' : World} {base t k : Nat} {ao : Option Addr} {cap n : Nat} {xs : List Value} {B : Nat} (h : OwnV w base t k ao cap n xs) (hb : Below B w w') (ha : ∀ a, ao = some a → a.block < B) : OwnV w' base t k ao cap n xs := by
  refine ⟨h.1, ?_⟩
  rcases h.2 with hn | ⟨g, cap', cur, e, hg, hh, r⟩
  · exact Or.inl hn
  · refine Or.inr ⟨g, cap', cur, e, hg, ?_, r⟩
    injection e with e1 e2 e3
    rw [hb.block g (ha _ e1)]; exact hh
/-- all that is below its world's own size stays -/
theorem OwnV.stay {w w' : World} {base t k : Nat} {ao : Option Addr} {cap n : Nat} {xs : List Value} (h : OwnV w base t k ao cap n xs) (hb : Below w.heap.size w w') : OwnV w' base t k ao cap n xs := h.below hb (fun a e => (h.block a e).2)
theorem OwnB.stay {w w' : World} {base t : Nat} {ao : Option Addr} {cap : Nat} {l : List UInt8} (h : OwnB w base t ao cap l) (hb : Below w.heap.size w w') : OwnB w' base t ao cap l := h.below hb (fun a e => (h.block a e).2)
theorem OwnV.mono {w : World} {base base' t k : Nat} {ao : Option Addr} {cap n : Nat} {xs : List Value} (h : OwnV w base t k ao cap n xs) (hb : base' ≤ base) : OwnV w base' t k ao cap n xs := by
  refine ⟨h.1, ?_⟩
  rcases h.2 with hn | ⟨g, cap', cur, e, hg, r⟩
  · exact Or.inl hn
  · exact Or.inr ⟨g, cap', cur, e, by omega, r⟩
theorem OwnV.alloc {w : World} {base t k : Nat} {ao : Option Addr} {cap n : Nat} {xs : List Value} (h : OwnV w base t k ao cap n xs) (o : Obj) : OwnV (w.alloc o) base t k ao cap n xs := World.ownsRow.alloc h o

/-- 'append(dst, src...)', dst the call's own, src whatever reads so; and where it lies behind it -/
theorem wpList_append_v {P : Program} {w : World} {ops : Array Oper} {rest : List Oper} {o : Oper} {a : Act} {Q : Exit → Act → World → Prop} (hgd : o.guard = none) (s x : Operand) (t : TypeId)
    (ho : o.op = .call { callee := .builtin .append, args := #[s, x], argTypes := #[t, t] })
    (base : Nat) (e : TypeId) (i : TypeInfo) (z : Value) (k bytes : Nat) (ht : P.underlying t = some (.slice e)) (hi : P.info? e = some i) (hz : i.zero = some z) (hz1 : i.size = k) (hz2 : i.bytes = bytes) (hzs : z.cells.size = k) (hk : 0 < k)
    {ao : Option Addr} {cap n : Nat} {xs : List Value} (hs : a.eval s = .slice ao n cap) (hown : OwnV w base e k ao cap n xs)
    {ao2 : Option Addr} {cap2 n2 : Nat} {ys : List Value} (hx : a.eval x = .slice ao2 n2 cap2) (hsrc : IsV w ao2 cap2 n2 ys) (hy : ys.length = n2 * k) (h1 : ∀ u ∈ ys, u.oneCell' = true)
    (hlen : n + n2 ≤ 9223372036854775807) (hby : (n + n2) * bytes ≤ 140737488355328) (hbase : base ≤ w.heap.size)
    (h : ∀ ao' cap' w', OwnV w' base e k ao' cap' (n + n2) (xs ++ ys) → w.grownBy w' (blockOf ao) → (blockOf ao' = blockOf ao ∨ blockOf ao' = some w.heap.size) → wpList P ops Q rest (a.put o.dst (.slice ao' (n + n2) cap')) w') : wpList P ops Q (o :: rest) a w := by
  cases ao2 with
  | none =>
    have hc := hsrc.2.1 rfl
    have hn := hsrc.1
    obtain rfl : n2 = 0 := by omega
    subst hc
    rw [Nat.zero_mul] at hy
    obtain rfl : ys = [] := List.eq_nil_of_length_eq_zero hy
    refine wpList_append_own_none hgd s x t ho base e i k ht hi _ n xs hs hown hx ?_
    have := h ao cap w (by rw [List.append_nil]; exact hown) ⟨rfl, rfl, rfl, Nat.le_refl _, fun _ _ _ => rfl⟩ (Or.inl rfl)
    simpa using this
  | some ad =>
    refine wpList_append_own_at w hgd s x t ho base e i z k bytes ht hi hz hz1 hz2 hzs hk _ n xs hs hown ad n2 cap2 ys hx hy (fun j u hu => hsrc.cell hu) h1 (by unfold maxLen; omega) hby hbase ?_
    intro v' w' hown' hg _ hat
    obtain ⟨ao', cap', rfl, hB⟩ := OwnV.of hown'
    rw [ownBlock_slice] at hg hat
    rw [ownBlock_slice] at hat
    exact h ao' cap' w' hB hg hat

/-- texts as the cells of a row -/
def strV (l : List ByteArray) : List Value := l.map Value.string
theorem strV_length (l : List ByteArray) : (strV l).length = l.length := by simp [strV]
theorem strV_append (a b : List ByteArray) : strV (a ++ b) = strV a ++ strV b := by simp [strV]
theorem strV_one (l : List ByteArray) : ∀ u ∈ strV l, u.oneCell' = true := by
  intro u hu
  obtain ⟨b, _, rfl⟩ := List.mem_map.1 hu
  rfl
theorem strV_at (l : List ByteArray) (j : Nat) (h : j < l.length) : (strV l)[j]? = some (.string l[j]) := by simp [strV, h]
/-- pairs of texts as the cells of a row -/
def pairV (l : List (ByteArray × ByteArray)) : List Value := l.flatMap fun p => [.string p.1, .string p.2]
theorem pairV_length (l : List (ByteArray × ByteArray)) : (pairV l).length = l.length * 2 := by
  induction l with
  | nil => rfl
  | cons p t ih => simp only [pairV, List.flatMap_cons, List.length_append, List.length_cons, List.length_nil] at ih ⊢; omega
theorem pairV_append (a b : List (ByteArray × ByteArray)) : pairV (a ++ b) = pairV a ++ pairV b := by simp [pairV]
theorem pairV_one (l : List (ByteArray × ByteArray)) : ∀ u ∈ pairV l, u.oneCell' = true := by
  intro u hu
  obtain ⟨p, _, hp⟩ := List.mem_flatMap.1 hu
  simp at hp
  rcases hp with rfl | rfl <;> rfl
theorem pairV_at (l : List (ByteArray × ByteArray)) : ∀ j (h : j < l.length), (pairV l)[j * 2]? = some (.string l[j].1) ∧ (pairV l)[j * 2 + 1]? = some (.string l[j].2) := by
  induction l with
  | nil => intro j h; simp at h
  | cons p t ih =>
    intro j h
    cases j with
    | zero => exact ⟨rfl, rfl⟩
    | succ j =>
      have := ih j (by simpa using h)
      have e : ∀ q, (pairV (p :: t))[(q + 2)]? = (pairV t)[q]? := fun q => rfl
      rw [show (j + 1) * 2 = j * 2 + 2 by omega, show j * 2 + 2 + 1 = (j * 2 + 1) + 2 by omega, e, e]
      simpa using this
end Go.Proofs.YtbcmlolaihnalacGreatDoor

/- What of memory a call may turn: a set of blocks; and what stays by it. -/
namespace Go.Proofs.YtbcmlolaihnalacGreatDoor
open Go.RowKit

/-- blocks of elements of different types differ -/
theorem row_ne {w : World} {g : Nat} {cs : Array Value} {t : Nat} {fr : Nat × Nat} {base e size : Nat} {v : Value} {n : Nat} {xs : List Value} (hg : w.heap[g]? = some (.cells cs t fr)) (h : w.ownsRow base e size v n xs) (hne : t ≠ e) : v.ownBlock ≠ some g := by
  rcases h.2 with ⟨rfl, _⟩ | ⟨g', cap, cur, rfl, _, hg', _⟩
  · simp [Value.ownBlock]
  · intro e
    simp [Value.ownBlock] at e
    subst e
    rw [hg] at hg'
    injection hg' with hg'
    injection hg' with _ e _
    exact hne e
theorem row_is_ne {w : World} {g b : Nat} {cs : Array Value} {t e : Nat} {fr : Nat × Nat} {n : Nat} {f : Nat → Value} (hg : w.heap[g]? = some (.cells cs t fr)) (h : w.rowIs b e n f) (hne : t ≠ e) : b ≠ g := by
  rintro rfl
  obtain ⟨c, hc, _⟩ := h
  rw [hg] at hc
  injection hc with hc
  injection hc with _ e' _
  exact hne e'
/-- all that is outside of the blocks S stays; new blocks may come -/
structure Turns (S : Nat → Prop) (w w' : World) : Prop where
  os : w'.os = w.os
  tape : w'.tape = w.tape
  output : w'.output = w.output
  size : w.heap.size ≤ w'.heap.size
  block : ∀ k, k < w.heap.size → ¬ S k → w'.heap[k]? = w.heap[k]?
/-- S, and all that is new -/
def orNew (S : Nat → Prop) (w : World) : Nat → Prop := fun k => S k ∨ w.heap.size ≤ k
section
variable {S S' : Nat → Prop} {w w1 w' : World}
theorem Turns.refl (S : Nat → Prop) (w : World) : Turns S w w := ⟨rfl, rfl, rfl, Nat.le_refl _, fun _ _ _ => rfl⟩
theorem Turns.mono (h : Turns S w w') (hs : ∀ k, S k → S' k) : Turns S' w w' := ⟨h.os, h.tape, h.output, h.size, fun k hk hn => h.block k hk (fun e => hn (hs k e))⟩
/-- one behind the other -/
theorem Turns.trans (h : Turns S w w1) (k : Turns S' w1 w') (hs : ∀ i, S' i → i < w.heap.size → S i) : Turns S w w' :=
  ⟨k.os.trans h.os, k.tape.trans h.tape, k.output.trans h.output, Nat.le_trans h.size k.size, fun i hi hn => (k.block i (Nat.lt_of_lt_of_le hi h.size) (fun e => hn (hs i e hi))).trans (h.block i hi hn)⟩
theorem Turns.then_ (h : Turns S w w1) (k : Turns (orNew S w) w1 w') : Turns S w w' := h.trans k (fun i e hi => by
  rcases e with e | e
  · exact e
  · omega)
theorem Turns.of_grown {row : Option Nat} (h : w.grownBy w' row) (hr : ∀ k, row = some k → S k) : Turns S w w' := ⟨h.os, h.tape, h.output, h.size, fun k hk hn => h.block k hk (fun e => hn (hr k e.symm))⟩
theorem Turns.of_below (h : Below w.heap.size w w') : Turns S w w' := ⟨h.os, h.tape, h.output, h.size, fun k hk _ => h.block k hk⟩
theorem Turns.drewN (S : Nat → Prop) (w : World) (n : Nat) : Turns S w (w.drewN n) := ⟨rfl, rfl, rfl, Nat.le_refl _, fun _ _ _ => rfl⟩
theorem Turns.setCell (S : Nat → Prop) (w : World) (a : Addr) (v : Value) (h : S a.block) : Turns S w (w.setCell a v) := ⟨rfl, rfl, rfl, by simp [World.setCell], fun k _ hn => heap_setCell_other w a k v (fun e => hn (by rw [e]; exact h))⟩
theorem Turns.below {B : Nat} (h : Turns S w w') (hs : ∀ k, S k → B ≤ k) (hB : B ≤ w.heap.size) : Below B w w' := ⟨h.os, h.tape, h.output, h.size, fun k hk => h.block k (by omega) (fun e => by have := hs k e; omega)⟩
theorem Turns.row (h : Turns S w w') {k : Nat} {o : Obj} (hk : w.heap[k]? = some o) (hn : ¬ S k) : w'.heap[k]? = some o := (h.block k (Array.getElem?_eq_some_iff.1 hk).1 hn).trans hk
theorem OwnB.turns {base t : Nat} {ao : Option Addr} {cap : Nat} {l : List UInt8} (h : OwnB w base t ao cap l) (ht : Turns S w w') (ha : ∀ a, ao = some a → ¬ S a.block) : OwnB w' base t ao cap l := by
  refine ⟨h.1, ?_⟩
  rcases h.2 with hn | ⟨g, cap', cur, e, hg, hh, r⟩
  · exact Or.inl hn
  · refine Or.inr ⟨g, cap', cur, e, hg, ?_, r⟩
    injection e with e1 e2 e3
    exact ht.row hh (ha _ e1)
theorem OwnV.turns {base t k : Nat} {ao : Option Addr} {cap n : Nat} {xs : List Value} (h : OwnV w base t k ao cap n xs) (ht : Turns S w w') (ha : ∀ a, ao = some a → ¬ S a.block) : OwnV w' base t k ao cap n xs := by
  refine ⟨h.1, ?_⟩
  rcases h.2 with hn | ⟨g, cap', cur, e, hg, hh, r⟩
  · exact Or.inl hn
  · refine Or.inr ⟨g, cap', cur, e, hg, ?_, r⟩
    injection e with e1 e2 e3
    exact ht.row hh (ha _ e1)
theorem IsB.turns {ao : Option Addr} {cap : Nat} {l : List UInt8} (h : IsB w ao cap l) (ht : Turns S w w') (ha : ∀ a, ao = Option.some a → ¬ S a.block) : IsB w' ao cap l :=
  h.move fun a e v j hv => by
    have hb := ht.block (a.add j).block (World.block_lt_of_cell? w _ hv) (by rw [add_block]; exact ha a e)
    rw [World.cell?_of_block hb]; exact hv
theorem IsV.turns {ao : Option Addr} {cap n : Nat} {xs : List Value} (h : IsV w ao cap n xs) (ht : Turns S w w') (ha : ∀ a, ao = Option.some a → ¬ S a.block) : IsV w' ao cap n xs :=
  h.move fun a e v j hv => by
    have hb := ht.block (a.add j).block (World.block_lt_of_cell? w _ hv) (by rw [add_block]; exact ha a e)
    rw [World.cell?_of_block hb]; exact hv
end
end Go.Proofs.YtbcmlolaihnalacGreatDoor

/- Plain functions on bytes and texts, with no program in them: what package chars and the document's own answer come to. -/
namespace Go.Proofs.YtbcmlolaihnalacGreatDoor.Ch

def digit (c : Int) : Bool := decide (48 ≤ c) && decide (c ≤ 57)
def capital (c : Int) : Bool := decide (65 ≤ c) && decide (c ≤ 90)
def letter (c : Int) : Bool := (decide (97 ≤ c) && decide (c ≤ 122)) || capital c
def visible (c : Int) : Bool := c == 9 || (decide (32 ≤ c) && c != 127)
/-- the marks that may stand in a token beside digits and letters -/
def marks : List UInt8 := [33, 35, 36, 37, 38, 39, 42, 43, 45, 46, 94, 95, 96, 124, 126]
def token (c : Int) : Bool := digit c || letter c || decide (0 ≤ Lib.indexByte marks c.toNat.toUInt8)
def oneOf (c : Int) (l : List UInt8) : Bool := l.any fun b => (b.toNat : Int) == c
def hex (c : Int) : Int := if digit c then c - 48 else if decide (97 ≤ c) && decide (c ≤ 102) then c - 87 else if decide (65 ≤ c) && decide (c ≤ 70) then c - 55 else -1

theorem byteAll {p : Int → Bool} (h : (List.range 256).all (fun n => p (n : Int)) = true) (c : Int) (h0 : 0 ≤ c) (h1 : c ≤ 255) : p c = true := by
  obtain ⟨n, rfl⟩ := Int.eq_ofNat_of_zero_le h0
  exact List.all_eq_true.1 h n (List.mem_range.2 (by omega))

/-- all bytes that may stand in a token, as the document's own answer lists them -/
def tokens : List UInt8 := [48, 49, 50, 51, 52, 53, 54, 55, 56, 57, 65, 66, 67, 68, 69, 70, 71, 72, 73, 74, 75, 76, 77, 78, 79, 80, 81, 82, 83, 84, 85, 86, 87, 88, 89, 90, 97, 98, 99, 100, 101, 102, 103, 104, 105, 106, 107, 108, 109, 110, 111, 112, 113, 114, 115, 116, 117, 118, 119, 120, 121, 122, 33, 35, 36, 37, 38, 39, 42, 43, 45, 46, 94, 95, 96, 124, 126]
theorem oneOf_tokens (c : Int) (h0 : 0 ≤ c) (h1 : c ≤ 255) : oneOf c tokens = token c := by
  have := byteAll (p := fun c => oneOf c tokens == token c) (by decide +kernel) c h0 h1
  simpa using this
def isToken (l : List UInt8) : Bool := !l.isEmpty && l.all fun b => token b.toNat
def allToken (l : List UInt8) : Bool := l.all fun b => token b.toNat
def isVisible (l : List UInt8) : Bool := l.all fun b => visible b.toNat

theorem hex_range (c : Int) (h0 : 0 ≤ c) (h1 : c ≤ 255) : -1 ≤ hex c ∧ hex c ≤ 15 := by
  have := byteAll (p := fun c => decide (-1 ≤ hex c ∧ hex c ≤ 15)) (by decide +kernel) c h0 h1
  simpa using this

theorem oneOf_snoc (c : Int) (l : List UInt8) (b : UInt8) : oneOf c (l ++ [b]) = (oneOf c l || ((b.toNat : Int) == c)) := by
  simp [oneOf]

theorem take_snoc (s : ByteArray) (k : Nat) (h : k < s.size) : s.data.toList.take (k + 1) = s.data.toList.take k ++ [s[k]] := by
  rw [List.take_succ_eq_append_getElem (by simpa using h)]; rfl

theorem take_all (s : ByteArray) (k : Nat) (h : s.size ≤ k) : s.data.toList.take k = s.data.toList :=
  List.take_of_length_le (by simpa using h)

/-- is there one, once it was met -/
theorem any_of_take (p : UInt8 → Bool) (s : ByteArray) (k : Nat) (h : k < s.size) (hp : p s[k] = true) : s.data.toList.any p = true := by
  rw [List.any_eq_true]
  exact ⟨s[k], by
    have : s[k] = s.data.toList[k]'(by simpa using h) := rfl
    rw [this]; exact List.getElem_mem _, hp⟩

theorem all_of_take (p : UInt8 → Bool) (s : ByteArray) (k : Nat) (h : k < s.size) (hp : p s[k] = false) : s.data.toList.all p = false := by
  rw [Bool.eq_false_iff, Ne, List.all_eq_true]
  intro hall
  have := hall s[k] (by
    have : s[k] = s.data.toList[k]'(by simpa using h) := rfl
    rw [this]; exact List.getElem_mem _)
  rw [this] at hp; cases hp

/-- a digit to a base -/
def dig (base : Int) (b : UInt8) : Bool := decide (0 ≤ hex b.toNat) && decide (hex b.toNat < base)
def numOf (base : Int) (l : List UInt8) : Int := l.foldl (fun n b => n * base + hex b.toNat) 0
def number (base most : Int) (l : List UInt8) : Int × Bool :=
  if l = [] ∨ most < l.length then (0, false) else if l.all (dig base) then (numOf base l, true) else (0, false)

theorem numOf_snoc (base : Int) (l : List UInt8) (b : UInt8) : numOf base (l ++ [b]) = numOf base l * base + hex b.toNat := by
  simp [numOf]

theorem hex_byte (b : UInt8) : -1 ≤ hex b.toNat ∧ hex b.toNat ≤ 15 := hex_range _ (by omega) (by have := b.toNat_lt; omega)

theorem numOf_aux (base : Int) (hb0 : 0 ≤ base) (hb1 : base ≤ 16) : ∀ (l : List UInt8) (n : Int) (B : Nat), 0 ≤ n → n < 16 ^ B → l.all (dig base) = true →
    0 ≤ l.foldl (fun n b => n * base + hex b.toNat) n ∧ l.foldl (fun n b => n * base + hex b.toNat) n < 16 ^ (B + l.length)
  | [], n, B, h0, h1, _ => ⟨h0, h1⟩
  | b :: l, n, B, h0, h1, hl => by
    rw [List.all_cons, Bool.and_eq_true] at hl
    have hx := hex_byte b
    have hd : 0 ≤ hex b.toNat := by
      have := hl.1; unfold dig at this; rw [Bool.and_eq_true] at this; exact of_decide_eq_true this.1
    have p0 : 0 ≤ n * base := Int.mul_nonneg h0 hb0
    have p1 : n * base ≤ n * 16 := Int.mul_le_mul_of_nonneg_left hb1 h0
    have e : (16 : Int) ^ (B + 1) = 16 ^ B * 16 := Int.pow_succ ..
    have := numOf_aux base hb0 hb1 l (n * base + hex b.toNat) (B + 1) (by omega) (by omega) hl.2
    rw [List.foldl_cons, List.length_cons, show B + (l.length + 1) = B + 1 + l.length by omega]
    exact this

theorem numOf_bound (base : Int) (hb0 : 0 ≤ base) (hb1 : base ≤ 16) (l : List UInt8) (hl : l.all (dig base) = true) (h9 : l.length ≤ 9) : 0 ≤ numOf base l ∧ numOf base l < 68719476736 := by
  have h := numOf_aux base hb0 hb1 l 0 0 (Int.le_refl _) (by decide) hl
  have : (16 : Int) ^ (0 + l.length) ≤ 16 ^ 9 := by
    have : (16 : Nat) ^ (0 + l.length) ≤ 16 ^ 9 := Nat.pow_le_pow_right (by decide) (by omega)
    exact_mod_cast this
  have e : (16 : Int) ^ 9 = 68719476736 := by decide
  exact ⟨h.1, by have := h.2; unfold numOf; omega⟩

theorem all_snoc (p : UInt8 → Bool) (l : List UInt8) (b : UInt8) : (l ++ [b]).all p = (l.all p && p b) := by simp

theorem number_short (base most : Int) (l : List UInt8) (h : l = [] ∨ most < l.length) : number base most l = (0, false) := by unfold number; rw [if_pos h]
theorem number_no (base most : Int) (l : List UInt8) (h : l.all (dig base) = false) : number base most l = (0, false) := by
  unfold number; split
  · rfl
  · rw [h]; rfl
theorem number_yes (base most : Int) (l : List UInt8) (h1 : l ≠ []) (h2 : ¬ most < l.length) (h : l.all (dig base) = true) : number base most l = (numOf base l, true) := by
  unfold number; rw [if_neg (by simp [h1, h2]), h]; rfl

theorem len_list (s : ByteArray) : s.data.toList.length = s.size := by simp
theorem ne_nil (s : ByteArray) (h : 0 < s.size) : s.data.toList ≠ [] := by
  intro e; have := len_list s; rw [e] at this; simp at this; omega
theorem empty_eq (s : ByteArray) (h : s.size = 0) : s = ⟨#[]⟩ := by
  apply ByteArray.ext; exact Array.eq_empty_of_size_eq_zero h
theorem isEmpty_false (s : ByteArray) (h : 0 < s.size) : s.toList.isEmpty = false := by
  rw [Lib.toList_data]
  cases h' : s.data.toList with
  | nil => exact absurd h' (ne_nil s h)
  | cons _ _ => rfl

/-- a byte in small letters; as far as the first j capitals are looked at -/
def lowTo (b : UInt8) (j : Nat) : UInt8 := if 65 ≤ b.toNat ∧ b.toNat < 65 + j then b + 32 else b
def lowB (b : UInt8) : UInt8 := lowTo b 26
def lower (l : List UInt8) : List UInt8 := l.map lowB

theorem caps_at (j : Nat) (h : j < 26) : ((⟨#[65, 66, 67, 68, 69, 70, 71, 72, 73, 74, 75, 76, 77, 78, 79, 80, 81, 82, 83, 84, 85, 86, 87, 88, 89, 90]⟩ : ByteArray)[j]'h).toNat = 65 + j :=
  (show ∀ j : Fin 26, ((⟨#[65, 66, 67, 68, 69, 70, 71, 72, 73, 74, 75, 76, 77, 78, 79, 80, 81, 82, 83, 84, 85, 86, 87, 88, 89, 90]⟩ : ByteArray)[j.val]'j.isLt).toNat = 65 + j.val by decide +kernel) ⟨j, h⟩
theorem lits_at (j : Nat) (h : j < 26) : ((⟨#[97, 98, 99, 100, 101, 102, 103, 104, 105, 106, 107, 108, 109, 110, 111, 112, 113, 114, 115, 116, 117, 118, 119, 120, 121, 122]⟩ : ByteArray).extract j (j + 1)).data.toList = [((97 + j).toUInt8)] :=
  (show ∀ j : Fin 26, ((⟨#[97, 98, 99, 100, 101, 102, 103, 104, 105, 106, 107, 108, 109, 110, 111, 112, 113, 114, 115, 116, 117, 118, 119, 120, 121, 122]⟩ : ByteArray).extract j.val (j.val + 1)).data.toList = [((97 + j.val).toUInt8)] by decide +kernel) ⟨j, h⟩
theorem lowTo_hit (b : UInt8) (j : Nat) (h : j < 26) (he : (((((⟨#[65, 66, 67, 68, 69, 70, 71, 72, 73, 74, 75, 76, 77, 78, 79, 80, 81, 82, 83, 84, 85, 86, 87, 88, 89, 90]⟩ : ByteArray)[j]'h).toNat : Nat) : Int) == (b.toNat : Int)) = true) :
    ((⟨#[97, 98, 99, 100, 101, 102, 103, 104, 105, 106, 107, 108, 109, 110, 111, 112, 113, 114, 115, 116, 117, 118, 119, 120, 121, 122]⟩ : ByteArray).extract j (j + 1)).data.toList = [lowTo b (j + 1)] := by
  rw [caps_at j h] at he
  have hb : b.toNat = 65 + j := by have := beq_iff_eq.1 he; omega
  rw [lits_at j h]
  unfold lowTo
  rw [if_pos (by omega)]
  have : (97 + j).toUInt8 = b + 32 := by
    apply UInt8.toNat_inj.1
    rw [UInt8.toNat_add, hb]
    simp
    omega
  rw [this]
theorem lowTo_miss (b : UInt8) (j : Nat) (h : j < 26) (he : (((((⟨#[65, 66, 67, 68, 69, 70, 71, 72, 73, 74, 75, 76, 77, 78, 79, 80, 81, 82, 83, 84, 85, 86, 87, 88, 89, 90]⟩ : ByteArray)[j]'h).toNat : Nat) : Int) == (b.toNat : Int)) = false) :
    lowTo b (j + 1) = lowTo b j := by
  rw [caps_at j h] at he
  have hb : ¬ b.toNat = 65 + j := by have := beq_eq_false_iff_ne.1 he; omega
  unfold lowTo
  by_cases hc : 65 ≤ b.toNat ∧ b.toNat < 65 + j
  · rw [if_pos hc, if_pos (by omega)]
  · rw [if_neg hc, if_neg (by omega)]
theorem lowTo_zero (b : UInt8) : lowTo b 0 = b := by unfold lowTo; rw [if_neg (by omega)]
theorem one_at (s : ByteArray) (k : Nat) (h : k < s.size) : (s.extract k (k + 1)).data.toList = [s[k]] := by
  rw [Lib.extract_data, show k + 1 - k = 1 by omega, List.drop_eq_getElem_cons (by simpa using h)]
  rfl
theorem lower_snoc (l : List UInt8) (b : UInt8) : lower (l ++ [b]) = lower l ++ [lowB b] := by simp [lower]
theorem lower_length (l : List UInt8) : (lower l).length = l.length := by simp [lower]
theorem data_append (a b : ByteArray) : (a ++ b).data.toList = a.data.toList ++ b.data.toList := by simp
theorem str_eq {x : ByteArray} {l : List UInt8} (h : x.data.toList = l) : x = ⟨l.toArray⟩ := by
  obtain ⟨⟨m⟩⟩ := x
  simp only at h
  rw [h]
theorem size_of_list {x : ByteArray} {l : List UInt8} (h : x.data.toList = l) : x.size = l.length := by rw [← h, len_list]

/-- the digits to the base 16 -/
def hexs : List UInt8 := [48, 49, 50, 51, 52, 53, 54, 55, 56, 57, 97, 98, 99, 100, 101, 102]
theorem hexs_at (j : Nat) (h : j < 16) : ((⟨#[48, 49, 50, 51, 52, 53, 54, 55, 56, 57, 97, 98, 99, 100, 101, 102]⟩ : ByteArray).extract j (j + 1)).data.toList = [hexs.getD j 0] :=
  (show ∀ j : Fin 16, ((⟨#[48, 49, 50, 51, 52, 53, 54, 55, 56, 57, 97, 98, 99, 100, 101, 102]⟩ : ByteArray).extract j.val (j.val + 1)).data.toList = [hexs.getD j.val 0] by decide +kernel) ⟨j, h⟩
theorem hexs_hit (b : UInt8) (j : Nat) (h : j < 16) (he : lowB b = hexs.getD j 0) : hex b.toNat = j := by
  have hb := b.toNat_lt
  have := (show ∀ (n : Fin 256) (j : Fin 16), lowB n.val.toUInt8 = hexs.getD j.val 0 → hex ((n.val.toUInt8).toNat : Int) = (j.val : Int) by decide +kernel) ⟨b.toNat, hb⟩ ⟨j, h⟩
  have e : b.toNat.toUInt8 = b := by simp
  simp only [e] at this
  exact this he
theorem hexs_miss (b : UInt8) (he : ∀ j, j < 16 → lowB b ≠ hexs.getD j 0) : hex b.toNat = -1 := by
  have hb := b.toNat_lt
  have := (show ∀ (n : Fin 256), (∀ j : Fin 16, lowB n.val.toUInt8 ≠ hexs.getD j.val 0) → hex ((n.val.toUInt8).toNat : Int) = -1 by decide +kernel) ⟨b.toNat, hb⟩
  have e : b.toNat.toUInt8 = b := by simp
  simp only [e] at this
  exact this fun j => he j.val j.isLt
theorem piece_eq (b : UInt8) (j : Nat) (h : j < 16) : ([lowB b] == ((⟨#[48, 49, 50, 51, 52, 53, 54, 55, 56, 57, 97, 98, 99, 100, 101, 102]⟩ : ByteArray).extract j (j + 1)).toList) = decide (lowB b = hexs.getD j 0) := by
  rw [Lib.toList_data, hexs_at j h]
  by_cases e : lowB b = hexs.getD j 0
  · rw [e]; simp
  · rw [decide_eq_false e]; exact beq_eq_false_iff_ne.2 (fun h => e (by simpa using h))
theorem lower_one (b : UInt8) : (⟨(lower [b]).toArray⟩ : ByteArray) = ⟨#[lowB b]⟩ := rfl
theorem digits_one (c : Int) : oneOf c [48, 49, 50, 51, 52, 53, 54, 55, 56, 57] = digit c := by
  unfold oneOf digit
  simp only [List.any_cons, List.any_nil, Bool.or_false]
  by_cases h : 48 ≤ c ∧ c ≤ 57
  · rw [decide_eq_true h.1, decide_eq_true h.2]
    have : c = 48 ∨ c = 49 ∨ c = 50 ∨ c = 51 ∨ c = 52 ∨ c = 53 ∨ c = 54 ∨ c = 55 ∨ c = 56 ∨ c = 57 := by omega
    rcases this with rfl | rfl | rfl | rfl | rfl | rfl | rfl | rfl | rfl | rfl <;> decide
  · have e : (decide (48 ≤ c) && decide (c ≤ 57)) = false := by
      by_cases h1 : 48 ≤ c
      · rw [decide_eq_false (show ¬ c ≤ 57 from fun h2 => h ⟨h1, h2⟩)]; simp
      · rw [decide_eq_false h1]; rfl
    rw [e]
    have hn : ∀ n : Nat, 48 ≤ n → n ≤ 57 → ((n : Int) == c) = false := fun n a b => beq_eq_false_iff_ne.2 (by omega)
    simp only [Bool.or_eq_false_iff]
    refine ⟨?_, ?_, ?_, ?_, ?_, ?_, ?_, ?_, ?_, ?_⟩ <;> exact hn _ (by decide) (by decide)
theorem dig10 (b : UInt8) : dig 10 b = digit b.toNat := by
  have hb := b.toNat_lt
  have := byteAll (p := fun c => (decide (0 ≤ hex c) && decide (hex c < 10)) == digit c) (by decide +kernel) b.toNat (by omega) (by omega)
  exact beq_iff_eq.1 this
theorem dig16 (b : UInt8) : dig 16 b = decide (0 ≤ hex b.toNat) := by
  have := hex_byte b
  unfold dig
  rw [decide_eq_true (show hex b.toNat < 16 by omega)]; simp

end Go.Proofs.YtbcmlolaihnalacGreatDoor.Ch
