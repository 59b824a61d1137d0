/- Small texts, one behind the other: MemG, MemVA, MemPr. -/
import Derived.Test.YtjhbiipbmlpgoaaDoorPk5
import Derived.Test.YtjhbiipbmlpgoaaDoorPk6
import Derived.Deep.AppendLies
/- What append makes of bytes that may grow (of the call's own, or none and no room) and of whatever bytes, none too; of whatever program. -/
namespace Go.Proofs.YtjhbiipbmlpgoaaDoor
open Go.RowKit

/-- the block of bytes that there are -/
def blkB (l : List UInt8) (bo : Option Addr) : Option Nat := if l = [] then none else blockOf bo
section
variable {P : Program} (w : World)
/-- nothing is appended -/
theorem run_append_nothing (t ty e : TypeId) (i : TypeInfo) (ht : P.underlying t = some (.slice e)) (hi : P.info? e = some i) (bo bo2 : Option Addr) (n cap cap2 : Nat) (hn : n ≤ cap) :
    (Builtin.append_ #[t, t] ty #[.slice bo n cap, .slice bo2 0 cap2]).run P w = .ok (.slice bo n cap) w := by
  cases bo <;> cases bo2 <;> simp [Builtin.append_, run_underlying ht, sizeOf, typeInfo, hi, Builtin.lenOf, Builtin.firstCells, loadCells, loadCellsFrom, storeCells, hn]
theorem run_append_grown (t ty e : TypeId) (i : TypeInfo) (ht : P.underlying t = some (.slice e)) (hi : P.info? e = some i) (hz : i.zero = some (.int .u8 0)) (hz1 : i.size = 1) (hz2 : i.bytes = 1)
    {S : Nat → Prop} {bo bo2 : Option Addr} {bcap cap2 n n2 : Nat} {l l2 : List UInt8} (h : GrowB w S e bo bcap l) (hn : l.length = n) (hs : IsB w bo2 cap2 l2) (hn2 : l2.length = n2) (hlen : n + n2 ≤ 140737488355328) :
    ∃ bo' cap' w', (Builtin.append_ #[t, t] ty #[.slice bo n bcap, .slice bo2 n2 cap2]).run P w = .ok (.slice bo' (n + n2) cap') w' ∧
      GrowB w' (fun k => blkB l bo = some k ∨ w.heap.size ≤ k) e bo' cap' (l ++ l2) ∧ Turns (fun k => blkB l bo = some k) w w' := by
  subst hn; subst hn2
  by_cases h2 : l2 = []
  · subst h2
    refine ⟨bo, bcap, w, ?_, ?_, Turns.refl _ _⟩
    · have hc : l.length ≤ bcap := h.isB.1
      exact run_append_nothing w t ty e i ht hi bo bo2 l.length bcap cap2 hc
    · rw [List.append_nil]
      rcases h with ⟨h1, h2, _⟩ | h
      · exact Or.inl ⟨h1, h2, fun a e => Or.inl (by unfold blkB; rw [if_neg h1, e]; rfl)⟩
      · exact Or.inr h
  · have hpos : 0 < l2.length := List.length_pos_iff.2 h2
    obtain ⟨a2, rfl⟩ := hs.some hpos
    have hcell : ∀ j u, (byteV l2)[j]? = some u → w.cell? (a2.add j) = some u := fun j u hu => by
      have hj : j < l2.length := by
        have := (List.getElem?_eq_some_iff.1 hu).1
        rwa [byteV_length] at this
      rw [byteV_at l2 j hj] at hu
      injection hu with hu; subst hu
      exact hs.cell j hj
    rcases h with ⟨h1, hown, hm⟩ | ⟨rfl, rfl⟩
    · obtain ⟨g, cap', w', hr, hO, hG, hat, _⟩ := run_append_lies (P := P) w t ty 0 e i (.int .u8 0) 1 1 ht hi hz hz1 hz2 rfl (by decide) (.slice bo l.length bcap) l.length (byteV l) hown a2 l2.length cap2 (byteV l2) (by rw [byteV_length]; omega) hcell (byteV_one l2) hpos (by unfold maxLen; omega) (by omega) (Nat.zero_le _) w.heap.size rfl
      rw [ownBlock_slice] at hG hat
      have eB : blkB l bo = blockOf bo := by unfold blkB; rw [if_neg h1]
      refine ⟨_, cap', w', hr, Or.inl ⟨by simp [h1], ?_, fun a e => ?_⟩, Turns.of_grown hG (fun k e => by rw [eB]; exact e)⟩
      · unfold OwnB; rw [byteV_append, List.length_append]; exact hO
      · injection e with e; subst e
        rcases hat with hat | hat
        · exact Or.inl (by rw [eB]; exact hat)
        · exact Or.inr (by show w.heap.size ≤ g; omega)
    · have hold : (Builtin.firstCells i.size 0 (.slice bo 0 0)).run P w.drew = .ok ([] : List Value).toArray w.drew := by
        cases bo <;> simp [Builtin.firstCells, loadCells, loadCellsFrom]
      have hr := run_append_grow_src (P := P) w t t ty e i (.int .u8 0) ht hi hz bo 0 0 [] hold (.slice (some a2) l2.length cap2) l2.length (byteV l2) (by rw [hz1]; exact Src.ofSlice _ ht a2 _ cap2 _ (by rw [byteV_length]; omega) hcell (byteV_one l2)) (by omega) (by omega) (by rw [hz2]; exact growslice_fits (by omega) (by omega))
      have hge := grownCap_ge w (0 + l2.length) 0 e
      have hle := grownCap_le_maxLen w (0 + l2.length) 0 e (by unfold maxLen; omega)
      generalize grownCap w (0 + l2.length) 0 e = cap' at hr hge hle
      refine ⟨_, cap', _, hr, Or.inl ⟨by simpa using h2, ?_, fun a e => ?_⟩, ⟨rfl, rfl, rfl, by simp, fun k hk _ => Below.heap_alloc w.drew _ k hk⟩⟩
      · rw [List.nil_append]
        have hzc : (Value.int IntKind.u8 0).cells.size = 1 := rfl
        have hge' : l2.length ≤ cap' := by omega
        refine ⟨by rw [byteV_length]; omega, .inr ⟨w.heap.size, cap', _, by simp, Nat.zero_le _, heap_alloc_new w.drew _, hge', hle, ?_, ?_⟩⟩
        · simp only [Array.size_append, List.size_toArray, byteV_length, size_zeroCells, hzc]; omega
        · simp only [Array.toList_append, List.nil_append, Nat.mul_one]
          rw [← byteV_length l2]
          exact List.take_left
      · injection e with e; subst e
        exact Or.inr (Nat.le_refl _)
end
section
variable {P : Program} {w : World}
theorem wp_append_grown {o : Oper} {a : Act} {K : Act → World → Prop} {Q : Exit → Act → World → Prop} (s x : Operand) (t : TypeId)
    (ho : o.op = .call { callee := .builtin .append, args := #[s, x], argTypes := #[t, t] })
    (e : TypeId) (i : TypeInfo) (ht : P.underlying t = some (.slice e)) (hi : P.info? e = some i) (hz : i.zero = some (.int .u8 0)) (hz1 : i.size = 1) (hz2 : i.bytes = 1)
    {S : Nat → Prop} {bo bo2 : Option Addr} {bcap cap2 n n2 : Nat} {l l2 : List UInt8} (hs : a.eval s = .slice bo n bcap) (hx : a.eval x = .slice bo2 n2 cap2) (hg : GrowB w S e bo bcap l) (hn : l.length = n) (hb : IsB w bo2 cap2 l2) (hn2 : l2.length = n2) (hlen : n + n2 ≤ 140737488355328)
    (h : ∀ bo' cap' w', GrowB w' (fun k => blkB l bo = some k ∨ w.heap.size ≤ k) e bo' cap' (l ++ l2) → Turns (fun k => blkB l bo = some k) w w' → K (a.put o.dst (.slice bo' (n + n2) cap')) w') : o.wp P a w K Q := by
  obtain ⟨bo', cap', w', hr, h2, h3⟩ := run_append_grown (P := P) w t o.type e i ht hi hz hz1 hz2 hg hn hb hn2 hlen
  unfold Oper.wp execOp
  simp only [ho, resolve, invoke, builtin, Sem.run_bind, Sem.run_pure, Result.andThen_ok, List.map_toArray, List.map_cons, List.map_nil, hs, hx, hr]
  exact h bo' cap' w' h2 h3
theorem wpList_append_grown {ops : Array Oper} {rest : List Oper} {o : Oper} {a : Act} {Q : Exit → Act → World → Prop} (hgd : o.guard = none) (s x : Operand) (t : TypeId)
    (ho : o.op = .call { callee := .builtin .append, args := #[s, x], argTypes := #[t, t] })
    (e : TypeId) (i : TypeInfo) (ht : P.underlying t = some (.slice e)) (hi : P.info? e = some i) (hz : i.zero = some (.int .u8 0)) (hz1 : i.size = 1) (hz2 : i.bytes = 1)
    {S : Nat → Prop} {bo bo2 : Option Addr} {bcap cap2 n n2 : Nat} {l l2 : List UInt8} (hs : a.eval s = .slice bo n bcap) (hx : a.eval x = .slice bo2 n2 cap2) (hg : GrowB w S e bo bcap l) (hn : l.length = n) (hb : IsB w bo2 cap2 l2) (hn2 : l2.length = n2) (hlen : n + n2 ≤ 140737488355328)
    (h : ∀ bo' cap' w', GrowB w' (fun k => blkB l bo = some k ∨ w.heap.size ≤ k) e bo' cap' (l ++ l2) → Turns (fun k => blkB l bo = some k) w w' → wpList P ops Q rest (a.put o.dst (.slice bo' (n + n2) cap')) w') : wpList P ops Q (o :: rest) a w :=
  wpList_plain hgd fun _ hK => wp_append_grown s x t ho e i ht hi hz hz1 hz2 hs hx hg hn hb hn2 hlen fun bo' cap' w' h2 h3 => hK _ _ (h bo' cap' w' h2 h3)
theorem step_append_grown {ops : Array Oper} {o : Oper} {a : Act} {K : Act → World → Prop} {Q : Exit → Act → World → Prop} {E : Prop} (hgd : o.guard = none) (s x : Operand) (t : TypeId)
    (ho : o.op = .call { callee := .builtin .append, args := #[s, x], argTypes := #[t, t] })
    (e : TypeId) (i : TypeInfo) (ht : P.underlying t = some (.slice e)) (hi : P.info? e = some i) (hz : i.zero = some (.int .u8 0)) (hz1 : i.size = 1) (hz2 : i.bytes = 1)
    {S : Nat → Prop} {bo bo2 : Option Addr} {bcap cap2 n n2 : Nat} {l l2 : List UInt8} (hs : a.eval s = .slice bo n bcap) (hx : a.eval x = .slice bo2 n2 cap2) (hg : GrowB w S e bo bcap l) (hn : l.length = n) (hb : IsB w bo2 cap2 l2) (hn2 : l2.length = n2) (hlen : n + n2 ≤ 140737488355328)
    (h : ∀ bo' cap' w', GrowB w' (fun k => blkB l bo = some k ∨ w.heap.size ≤ k) e bo' cap' (l ++ l2) → Turns (fun k => blkB l bo = some k) w w' → K (a.put o.dst (.slice bo' (n + n2) cap')) w') :
    if Region.wanted o (yielded ops a.tmps) = true then Oper.wp P o a w K Q else E := by
  have hw : Region.wanted o (yielded ops a.tmps) = true := by simp [Region.wanted, hgd]
  rw [if_pos hw]
  exact wp_append_grown s x t ho e i ht hi hz hz1 hz2 hs hx hg hn hb hn2 hlen h
end
end Go.Proofs.YtjhbiipbmlpgoaaDoor

/- What append makes of elements of the call's own and of whatever elements, none too, at a step of a region that draws its order; of whatever program. -/
namespace Go.Proofs.YtjhbiipbmlpgoaaDoor
open Go.RowKit

theorem run_append_v {P : Program} (w : World) (t ty e : TypeId) (i : TypeInfo) (z : Value) (k bytes : Nat) (ht : P.underlying t = some (.slice e)) (hi : P.info? e = some i) (hz : i.zero = some z) (hz1 : i.size = k) (hz2 : i.bytes = bytes) (hzs : z.cells.size = k) (hk : 0 < k)
    {ao : Option Addr} {cap n : Nat} {xs : List Value} (hown : OwnV w 0 e k ao cap n xs) {ao2 : Option Addr} {cap2 n2 : Nat} {ys : List Value} (hsrc : IsV w ao2 cap2 n2 ys) (hy : ys.length = n2 * k) (h1 : ∀ u ∈ ys, u.oneCell' = true)
    (hlen : n + n2 ≤ 9223372036854775807) (hby : (n + n2) * bytes ≤ 140737488355328) :
    ∃ ao' cap' w', (Builtin.append_ #[t, t] ty #[.slice ao n cap, .slice ao2 n2 cap2]).run P w = .ok (.slice ao' (n + n2) cap') w' ∧ OwnV w' 0 e k ao' cap' (n + n2) (xs ++ ys) ∧ w.grownBy w' (blockOf ao) ∧ (∀ j, blockOf ao' = some j → blockOf ao = some j ∨ w.heap.size ≤ j) := by
  by_cases h0 : n2 = 0
  · subst h0
    rw [Nat.zero_mul] at hy
    obtain rfl : ys = [] := List.eq_nil_of_length_eq_zero hy
    refine ⟨ao, cap, w, run_append_nothing w t ty e i ht hi ao ao2 n cap cap2 hown.isV.1, by rw [List.append_nil]; exact hown, ⟨rfl, rfl, rfl, Nat.le_refl _, fun _ _ _ => rfl⟩, fun j e => Or.inl e⟩
  · have hpos : 0 < n2 := by omega
    obtain ⟨a2, rfl⟩ : ∃ a, ao2 = some a := by
      cases ao2 with
      | none => have := hsrc.2.1 rfl; have := hsrc.1; omega
      | some a => exact ⟨a, rfl⟩
    obtain ⟨g, cap', w', hr, hO, hG, hat, _⟩ := run_append_lies (P := P) w t ty 0 e i z k bytes ht hi hz hz1 hz2 hzs hk (.slice ao n cap) n xs hown a2 n2 cap2 ys hy (fun j u hu => hsrc.cell hu) h1 hpos (by unfold maxLen; omega) hby (Nat.zero_le _) w.heap.size rfl
    rw [ownBlock_slice] at hG hat
    refine ⟨_, cap', w', hr, hO, hG, fun j e => ?_⟩
    injection e with e; subst e
    rcases hat with hat | hat
    · exact Or.inl hat
    · exact Or.inr (by show w.heap.size ≤ g; omega)
theorem step_append_v {P : Program} {w : World} {ops : Array Oper} {o : Oper} {a : Act} {K : Act → World → Prop} {Q : Exit → Act → World → Prop} {E : Prop} (hgd : o.guard = none) (s x : Operand) (t : TypeId)
    (ho : o.op = .call { callee := .builtin .append, args := #[s, x], argTypes := #[t, t] })
    (e : TypeId) (i : TypeInfo) (z : Value) (k bytes : Nat) (ht : P.underlying t = some (.slice e)) (hi : P.info? e = some i) (hz : i.zero = some z) (hz1 : i.size = k) (hz2 : i.bytes = bytes) (hzs : z.cells.size = k) (hk : 0 < k)
    {ao : Option Addr} {cap n : Nat} {xs : List Value} (hs : a.eval s = .slice ao n cap) (hown : OwnV w 0 e k ao cap n xs)
    {ao2 : Option Addr} {cap2 n2 : Nat} {ys : List Value} (hx : a.eval x = .slice ao2 n2 cap2) (hsrc : IsV w ao2 cap2 n2 ys) (hy : ys.length = n2 * k) (h1 : ∀ u ∈ ys, u.oneCell' = true)
    (hlen : n + n2 ≤ 9223372036854775807) (hby : (n + n2) * bytes ≤ 140737488355328)
    (h : ∀ ao' cap' w', OwnV w' 0 e k ao' cap' (n + n2) (xs ++ ys) → w.grownBy w' (blockOf ao) → (∀ j, blockOf ao' = some j → blockOf ao = some j ∨ w.heap.size ≤ j) → K (a.put o.dst (.slice ao' (n + n2) cap')) w') :
    if Region.wanted o (yielded ops a.tmps) = true then Oper.wp P o a w K Q else E := by
  have hw : Region.wanted o (yielded ops a.tmps) = true := by simp [Region.wanted, hgd]
  rw [if_pos hw]
  obtain ⟨ao', cap', w', hr, h2, h3, h4⟩ := run_append_v (P := P) w t o.type e i z k bytes ht hi hz hz1 hz2 hzs hk hown hsrc hy h1 hlen hby
  unfold Oper.wp execOp
  simp only [ho, resolve, invoke, builtin, Sem.run_bind, Sem.run_pure, Result.andThen_ok, List.map_toArray, List.map_cons, List.map_nil, hs, hx, hr]
  exact h ao' cap' w' h2 h3 h4
end Go.Proofs.YtjhbiipbmlpgoaaDoor

/- A pair of texts in a row of its own, and what a clone and an append leave; of whatever program. -/
namespace Go.Proofs.YtjhbiipbmlpgoaaDoor
open Go.RowKit

theorem prOnes (x y : ByteArray) : ∀ u ∈ ([.string x, .string y] : List Value), u.oneCell' = true := fun u hu => by simp at hu; rcases hu with rfl | rfl <;> rfl
theorem prNew (W : World) (x y : ByteArray) (t : Nat) {k : Nat} (hk : W.heap.size = k) : ∀ j u, ([.string x, .string y] : List Value)[j]? = some u → (W.alloc (.cells #[.string x, .string y] t)).cell? (Addr.add ⟨k, 0, none⟩ j) = some u := fun j u hu => by
  rw [Addr.add_lit, Nat.zero_add, World.cell?_alloc_at _ _ _ _ hk.symm, List.getElem?_toArray]; exact hu
theorem prOld {wb w5 : World} {x y : ByteArray} {t : Nat} (h : Below (wb.alloc (.cells #[.string x, .string y] t)).drew.heap.size (wb.alloc (.cells #[.string x, .string y] t)).drew w5) : ∀ j u, ([.string x, .string y] : List Value)[j]? = some u → w5.cell? (Addr.add ⟨wb.heap.size, 0, none⟩ j) = some u := fun j u hu => by
  have h1 := prNew wb x y t rfl j u hu
  have h2 : (wb.alloc (.cells #[.string x, .string y] t)).drew.cell? (Addr.add ⟨wb.heap.size, 0, none⟩ j) = some u := h1
  exact (h.cell (World.block_lt_of_cell? _ _ h2)).trans h2
theorem prGrown {wb W w6 : World} {base t : Nat} {ao : Option Addr} {cap n : Nat} {xs : List Value} {w5 : World} (hB : Below wb.heap.size wb W) (hO : OwnV w5 base t 2 ao cap n xs) (hG : W.grownBy w6 (Value.slice ao n cap).ownBlock) (hz : wb.heap.size ≤ base) : Below wb.heap.size wb w6 :=
  hB.grown hG hB.size (fun q e => by
    rw [ownBlock_slice] at e
    cases ao with
    | none => cases e
    | some a => injection e with e; subst e; have := (hO.block a rfl).1; omega)
theorem prBody {w wr w7 : World} {bo : Option Addr} {bcap g : Nat} {body : List UInt8} (h0 : IsB w bo bcap body) (h : IsB wr bo bcap body) (hT : Turns (fun k => k = g) wr w7) (hg : w.heap.size ≤ g) : IsB w7 bo bcap body := by
  by_cases hbn : body = []
  · subst hbn; exact IsB.empty _ h
  · refine h.turns hT (fun a e e2 => ?_)
    subst e
    have h3 := World.block_lt_of_cell? w _ (h0.cell 0 (List.length_pos_iff.2 hbn))
    rw [add_block] at h3
    omega
end Go.Proofs.YtjhbiipbmlpgoaaDoor
