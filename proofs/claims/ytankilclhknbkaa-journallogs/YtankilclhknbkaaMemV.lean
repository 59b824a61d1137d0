/- Slices of whatever elements in memory, of whatever program: one that is read, one that the call owns, what is cut out of it, and what append makes of it. Elements go by their cells, one behind the other. -/
import Derived.Test.YtankilclhknbkaaMem
namespace Go.Proofs.Ytankilclhknbkaa
open Go.RowKit

/-- a slice of n elements that reads as the cells xs: whoever's memory it is -/
def IsV (w : World) (ao : Option Addr) (cap n : Nat) (xs : List Value) : Prop :=
  n ≤ cap ∧ (ao = none → cap = 0) ∧ ∀ j u, xs[j]? = some u → ∃ a, ao = some a ∧ w.cell? (a.add j) = some u
theorem IsV.cell {w : World} {a : Addr} {cap n : Nat} {xs : List Value} (h : IsV w (some a) cap n xs) {j : Nat} {u : Value} (hj : xs[j]? = some u) : w.cell? (a.add j) = some u := by
  obtain ⟨a', e, hc⟩ := h.2.2 j u hj
  injection e with e; subst e; exact hc
/-- its address, written out -/
theorem IsV.lit {w : World} {ao : Option Addr} {cap n : Nat} {xs : List Value} (h : IsV w ao cap n xs) (hl : 0 < xs.length) : ∃ b o, ao = Option.some ⟨b, o, Option.none⟩ ∧ ∀ j u, xs[j]? = Option.some u → w.cell? ⟨b, o + j, Option.none⟩ = Option.some u := by
  obtain ⟨⟨b, o, sp⟩, rfl, h0⟩ := h.2.2 0 xs[0] (List.getElem?_eq_getElem hl)
  have hs : sp = Option.none := by simpa [Addr.add] using World.cell?_spot h0
  subst hs
  refine ⟨b, o, rfl, fun j u hj => ?_⟩
  have := h.cell hj
  rwa [Addr.add_lit] at this
theorem IsV.nil (w : World) : IsV w none 0 0 [] := ⟨Nat.le_refl _, fun _ => rfl, fun j u hj => by simp at hj⟩
theorem IsV.move {w w' : World} {ao : Option Addr} {cap n : Nat} {xs : List Value} (h : IsV w ao cap n xs) (hc : ∀ a, ao = Option.some a → ∀ v j, w.cell? (a.add j) = Option.some v → w'.cell? (a.add j) = Option.some v) : IsV w' ao cap n xs := by
  refine ⟨h.1, h.2.1, fun j u hj => ?_⟩
  obtain ⟨a, e, hv⟩ := h.2.2 j u hj
  exact ⟨a, e, hc a e _ j hv⟩
theorem IsV.stay {w w' : World} {ao : Option Addr} {cap n : Nat} {xs : List Value} (h : IsV w ao cap n xs) (hb : Below w.heap.size w w') : IsV w' ao cap n xs :=
  h.move fun a _ v j hv => by rw [hb.cell (World.block_lt_of_cell? w _ hv)]; exact hv
theorem IsV.below {w w' : World} {ao : Option Addr} {cap n : Nat} {xs : List Value} {B : Nat} (h : IsV w ao cap n xs) (hb : Below B w w') (ha : ∀ a, ao = Option.some a → a.block < B) : IsV w' ao cap n xs :=
  h.move fun a e v j hv => by rw [hb.cell (by rw [add_block]; exact ha a e)]; exact hv
theorem IsV.grown {w w' : World} {ao : Option Addr} {cap n : Nat} {xs : List Value} {row : Option Nat} (h : IsV w ao cap n xs) (hg : w.grownBy w' row) (ha : ∀ a, ao = Option.some a → Option.some a.block ≠ row) : IsV w' ao cap n xs :=
  h.move fun a e v j hv => hg.cell hv (by rw [add_block]; exact ha a e)
theorem IsV.alloc {w : World} {ao : Option Addr} {cap n : Nat} {xs : List Value} (h : IsV w ao cap n xs) (o : Obj) : IsV (w.alloc o) ao cap n xs := h.grown (World.grownBy_alloc w o none) (fun a _ => by simp)
theorem IsV.drewN {w : World} {ao : Option Addr} {cap n : Nat} {xs : List Value} (h : IsV w ao cap n xs) (q : Nat) : IsV (w.drewN q) ao cap n xs :=
  h.move (fun a _ v j hv => by rw [World.cell?_drewN]; exact hv)
/-- cells in a new block -/
theorem IsV.made (w : World) (cs : Array Value) (n t : Nat) (fr : Nat × Nat) : IsV (w.alloc (.cells cs t fr)) (Option.some ⟨w.heap.size, 0, Option.none⟩) n n cs.toList := by
  refine ⟨Nat.le_refl _, fun e => by simp at e, fun j u hj => ⟨_, rfl, ?_⟩⟩
  rw [Addr.add_lit, World.cell?_alloc_mark, Nat.zero_add]
  simpa using hj
/-- a piece of it, its elements of k cells each -/
theorem IsV.cut {w : World} {ao ao' : Option Addr} {cap n k : Nat} {xs : List Value} (h : IsV w ao cap n xs) (lo hi : Nat) (h1 : lo ≤ hi) (h2 : hi ≤ n)
    (e2 : cap ≠ lo → ao' = ao.map (·.add (lo * k))) : IsV w ao' (cap - lo) (hi - lo) ((xs.drop (lo * k)).take ((hi - lo) * k)) := by
  have hc := h.1
  refine ⟨by omega, fun hn => ?_, fun j u hj => ?_⟩
  · by_cases e : cap = lo
    · omega
    · have := e2 e
      rw [hn] at this
      have ho : ao = none := Option.map_eq_none_iff.1 this.symm
      have := h.2.1 ho; omega
  · rw [List.getElem?_take] at hj
    split at hj
    · rename_i hlt
      rw [List.getElem?_drop] at hj
      obtain ⟨a, e, hv⟩ := h.2.2 _ u hj
      have hne : cap ≠ lo := by
        intro e
        have hl : hi - lo = 0 := by omega
        rw [hl, Nat.zero_mul] at hlt; omega
      refine ⟨a.add (lo * k), by rw [e2 hne, e]; rfl, ?_⟩
      rw [Addr.add_add]; exact hv
    · simp at hj
/-- a slice that lies at the head of a block, from number base on, of the call's own: n elements of type t, k cells each -/
def OwnV (w : World) (base t k : Nat) (ao : Option Addr) (cap n : Nat) (xs : List Value) : Prop := w.ownsRow base t k (.slice ao n cap) n xs
theorem OwnV.nil (w : World) (base t k : Nat) : OwnV w base t k none 0 0 [] := World.ownsRow_nil _ _ _ _
theorem OwnV.of {w : World} {base t k n : Nat} {v : Value} {xs : List Value} (h : w.ownsRow base t k v n xs) : ∃ ao cap, v = .slice ao n cap ∧ OwnV w base t k ao cap n xs := by
  rcases h.2 with ⟨rfl, h0⟩ | ⟨g, cap, cur, rfl, _⟩
  · subst h0; exact ⟨none, 0, rfl, h⟩
  · exact ⟨_, _, rfl, h⟩
theorem OwnV.isV {w : World} {base t k : Nat} {ao : Option Addr} {cap n : Nat} {xs : List Value} (h : OwnV w base t k ao cap n xs) : IsV w ao cap n xs := by
  have hx := h.1
  rcases h.2 with ⟨e, h0⟩ | ⟨g, cap', cur, e, hg, hh, hn, hm, hs, ht⟩
  · injection e with e1 e2 e3
    subst e1; subst e3; subst h0
    rw [Nat.zero_mul] at hx
    rw [List.eq_nil_of_length_eq_zero hx]; exact IsV.nil w
  · injection e with e1 e2 e3
    subst e1; subst e3
    exact ⟨hn, fun e => by simp at e, fun j u hj => ⟨_, rfl, World.ownsRow.cells h (g := g) rfl j u hj⟩⟩
theorem OwnV.block {w : World} {base t k : Nat} {ao : Option Addr} {cap n : Nat} {xs : List Value} (h : OwnV w base t k ao cap n xs) (a : Addr) (e : ao = some a) : base ≤ a.block ∧ a.block < w.heap.size := by
  subst e
  exact World.ownsRow.lt h a.block rfl
theorem OwnV.kept {w w' : World} {base t k : Nat} {ao : Option Addr} {cap n : Nat} {xs : List Value} {row : Option Nat} (h : OwnV w base t k ao cap n xs) (hg : w.grownBy w' row) (ha : ∀ a, ao = some a → some a.block ≠ row) : OwnV w' base t k ao cap n xs := by
  refine World.ownsRow.kept h hg ?_
  cases ao with
  | none => exact Or.inl rfl
  | some a => exact Or.inr (ha a rfl)
theorem OwnV.below {w w' : World} {base t k : Nat} {ao : Option Addr} {cap n : Nat} {xs : List Value} {B : Nat} (h : OwnV w base t k ao cap n xs) (hb : Below B w w') (ha : ∀ a, ao = some a → a.block < B) : OwnV w' base t k ao cap n xs := by
  refine ⟨h.1, ?_⟩
  rcases h.2 with hn | ⟨g, cap', cur, e, hg, hh, r⟩
  · exact Or.inl hn
  · refine Or.inr ⟨g, cap', cur, e, hg, ?_, r⟩
    injection e with e1 e2 e3
    rw [hb.block g (ha _ e1)]; exact hh
/-- all that is below its world's own size stays -/
theorem OwnV.stay {w w' : World} {base t k : Nat} {ao : Option Addr} {cap n : Nat} {xs : List Value} (h : OwnV w base t k ao cap n xs) (hb : Below w.heap.size w w') : OwnV w' base t k ao cap n xs := h.below hb (fun a e => (h.block a e).2)
theorem OwnB.stay {w w' : World} {base t : Nat} {ao : Option Addr} {cap : Nat} {l : List UInt8} (h : OwnB w base t ao cap l) (hb : Below w.heap.size w w') : OwnB w' base t ao cap l := h.below hb (fun a e => (h.block a e).2)
theorem OwnV.mono {w : World} {base base' t k : Nat} {ao : Option Addr} {cap n : Nat} {xs : List Value} (h : OwnV w base t k ao cap n xs) (hb : base' ≤ base) : OwnV w base' t k ao cap n xs := by
  refine ⟨h.1, ?_⟩
  rcases h.2 with hn | ⟨g, cap', cur, e, hg, r⟩
  · exact Or.inl hn
  · exact Or.inr ⟨g, cap', cur, e, by omega, r⟩
theorem OwnV.alloc {w : World} {base t k : Nat} {ao : Option Addr} {cap n : Nat} {xs : List Value} (h : OwnV w base t k ao cap n xs) (o : Obj) : OwnV (w.alloc o) base t k ao cap n xs := World.ownsRow.alloc h o

/-- 'append(dst, src...)', dst the call's own, src whatever reads so; and where it lies behind it -/
theorem wpList_append_v {P : Program} {w : World} {ops : Array Oper} {rest : List Oper} {o : Oper} {a : Act} {Q : Exit → Act → World → Prop} (hgd : o.guard = none) (s x : Operand) (t : TypeId)
    (ho : o.op = .call { callee := .builtin .append, args := #[s, x], argTypes := #[t, t] })
    (base : Nat) (e : TypeId) (i : TypeInfo) (z : Value) (k bytes : Nat) (ht : P.underlying t = some (.slice e)) (hi : P.info? e = some i) (hz : i.zero = some z) (hz1 : i.size = k) (hz2 : i.bytes = bytes) (hzs : z.cells.size = k) (hk : 0 < k)
    {ao : Option Addr} {cap n : Nat} {xs : List Value} (hs : a.eval s = .slice ao n cap) (hown : OwnV w base e k ao cap n xs)
    {ao2 : Option Addr} {cap2 n2 : Nat} {ys : List Value} (hx : a.eval x = .slice ao2 n2 cap2) (hsrc : IsV w ao2 cap2 n2 ys) (hy : ys.length = n2 * k) (h1 : ∀ u ∈ ys, u.oneCell' = true)
    (hlen : n + n2 ≤ 9223372036854775807) (hby : (n + n2) * bytes ≤ 140737488355328) (hbase : base ≤ w.heap.size)
    (h : ∀ ao' cap' w', OwnV w' base e k ao' cap' (n + n2) (xs ++ ys) → w.grownBy w' (blockOf ao) → (blockOf ao' = blockOf ao ∨ blockOf ao' = some w.heap.size) → wpList P ops Q rest (a.put o.dst (.slice ao' (n + n2) cap')) w') : wpList P ops Q (o :: rest) a w := by
  cases ao2 with
  | none =>
    have hc := hsrc.2.1 rfl
    have hn := hsrc.1
    obtain rfl : n2 = 0 := by omega
    subst hc
    rw [Nat.zero_mul] at hy
    obtain rfl : ys = [] := List.eq_nil_of_length_eq_zero hy
    refine wpList_append_own_none hgd s x t ho base e i k ht hi _ n xs hs hown hx ?_
    have := h ao cap w (by rw [List.append_nil]; exact hown) ⟨rfl, rfl, rfl, Nat.le_refl _, fun _ _ _ => rfl⟩ (Or.inl rfl)
    simpa using this
  | some ad =>
    refine wpList_append_own_at w hgd s x t ho base e i z k bytes ht hi hz hz1 hz2 hzs hk _ n xs hs hown ad n2 cap2 ys hx hy (fun j u hu => hsrc.cell hu) h1 (by unfold maxLen; omega) hby hbase ?_
    intro v' w' hown' hg _ hat
    obtain ⟨ao', cap', rfl, hB⟩ := OwnV.of hown'
    rw [ownBlock_slice] at hg hat
    rw [ownBlock_slice] at hat
    exact h ao' cap' w' hB hg hat

/-- texts as the cells of a row -/
def strV (l : List ByteArray) : List Value := l.map Value.string
theorem strV_length (l : List ByteArray) : (strV l).length = l.length := by simp [strV]
theorem strV_append (a b : List ByteArray) : strV (a ++ b) = strV a ++ strV b := by simp [strV]
theorem strV_one (l : List ByteArray) : ∀ u ∈ strV l, u.oneCell' = true := by
  intro u hu
  obtain ⟨b, _, rfl⟩ := List.mem_map.1 hu
  rfl
theorem strV_at (l : List ByteArray) (j : Nat) (h : j < l.length) : (strV l)[j]? = some (.string l[j]) := by simp [strV, h]
/-- pairs of texts as the cells of a row -/
def pairV (l : List (ByteArray × ByteArray)) : List Value := l.flatMap fun p => [.string p.1, .string p.2]
theorem pairV_length (l : List (ByteArray × ByteArray)) : (pairV l).length = l.length * 2 := by
  induction l with
  | nil => rfl
  | cons p t ih => simp only [pairV, List.flatMap_cons, List.length_append, List.length_cons, List.length_nil] at ih ⊢; omega
theorem pairV_append (a b : List (ByteArray × ByteArray)) : pairV (a ++ b) = pairV a ++ pairV b := by simp [pairV]
theorem pairV_one (l : List (ByteArray × ByteArray)) : ∀ u ∈ pairV l, u.oneCell' = true := by
  intro u hu
  obtain ⟨p, _, hp⟩ := List.mem_flatMap.1 hu
  simp at hp
  rcases hp with rfl | rfl <;> rfl
theorem pairV_at (l : List (ByteArray × ByteArray)) : ∀ j (h : j < l.length), (pairV l)[j * 2]? = some (.string l[j].1) ∧ (pairV l)[j * 2 + 1]? = some (.string l[j].2) := by
  induction l with
  | nil => intro j h; simp at h
  | cons p t ih =>
    intro j h
    cases j with
    | zero => exact ⟨rfl, rfl⟩
    | succ j =>
      have := ih j (by simpa using h)
      have e : ∀ q, (pairV (p :: t))[(q + 2)]? = (pairV t)[q]? := fun q => rfl
      rw [show (j + 1) * 2 = j * 2 + 2 by omega, show j * 2 + 2 + 1 = (j * 2 + 1) + 2 by omega, e, e]
      simpa using this
end Go.Proofs.Ytankilclhknbkaa
