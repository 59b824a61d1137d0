/- Small texts, one behind the other: MemG, MemVA, MemPr, MemUC, MemUD, MemUE, MemBx. -/
import Derived.Test.YtdclmpdjjkjfjaaGreatDoorPk5
import Derived.Test.YtdclmpdjjkjfjaaGreatDoorPk8
import Derived.Deep.AppendLies
import Derived.Test.YtdclmpdjjkjfjaaGreatDoorPk7
import Derived.Laws.IdiomCopy
/- What append makes of bytes that may grow (of the call's own, or none and no room) and of whatever bytes, none too; of whatever program. -/
namespace Go.Proofs.YtdclmpdjjkjfjaaGreatDoor
open Go.RowKit

/-- the block of bytes that there are -/
def blkB (l : List UInt8) (bo : Option Addr) : Option Nat := if l = [] then none else blockOf bo
section
variable {P : Program} (w : World)
/-- nothing is appended -/
theorem run_append_nothing (t ty e : TypeId) (i : TypeInfo) (ht : P.underlying t = some (.slice e)) (hi : P.info? e = some i) (bo bo2 : Option Addr) (n cap cap2 : Nat) (hn : n ≤ cap) :
    (Builtin.append_ #[t, t] ty #[.slice bo n cap, .slice bo2 0 cap2]).run P w = .ok (.slice bo n cap) w := by
  cases bo <;> cases bo2 <;> simp [Builtin.append_, run_underlying ht, sizeOf, typeInfo, hi, Builtin.lenOf, Builtin.firstCells, loadCells, loadCellsFrom, storeCells, hn]
theorem run_append_grown (t ty e : TypeId) (i : TypeInfo) (ht : P.underlying t = some (.slice e)) (hi : P.info? e = some i) (hz : i.zero = some (.int .u8 0)) (hz1 : i.size = 1) (hz2 : i.bytes = 1)
    {S : Nat → Prop} {bo bo2 : Option Addr} {bcap cap2 n n2 : Nat} {l l2 : List UInt8} (h : GrowB w S e bo bcap l) (hn : l.length = n) (hs : IsB w bo2 cap2 l2) (hn2 : l2.length = n2) (hlen : n + n2 ≤ 140737488355328) :
    ∃ bo' cap' w', (Builtin.append_ #[t, t] ty #[.slice bo n bcap, .slice bo2 n2 cap2]).run P w = .ok (.slice bo' (n + n2) cap') w' ∧
      GrowB w' (fun k => blkB l bo = some k ∨ w.heap.size ≤ k) e bo' cap' (l ++ l2) ∧ Turns (fun k => blkB l bo = some k) w w' := by
  subst hn; subst hn2
  by_cases h2 : l2 = []
  · subst h2
    refine ⟨bo, bcap, w, ?_, ?_, Turns.refl _ _⟩
    · have hc : l.length ≤ bcap := h.isB.1
      exact run_append_nothing w t ty e i ht hi bo bo2 l.length bcap cap2 hc
    · rw [List.append_nil]
      rcases h with ⟨h1, h2, _⟩ | h
      · exact Or.inl ⟨h1, h2, fun a e => Or.inl (by unfold blkB; rw [if_neg h1, e]; rfl)⟩
      · exact Or.inr h
  · have hpos : 0 < l2.length := List.length_pos_iff.2 h2
    obtain ⟨a2, rfl⟩ := hs.some hpos
    have hcell : ∀ j u, (byteV l2)[j]? = some u → w.cell? (a2.add j) = some u := fun j u hu => by
      have hj : j < l2.length := by
        have := (List.getElem?_eq_some_iff.1 hu).1
        rwa [byteV_length] at this
      rw [byteV_at l2 j hj] at hu
      injection hu with hu; subst hu
      exact hs.cell j hj
    rcases h with ⟨h1, hown, hm⟩ | ⟨rfl, rfl⟩
    · obtain ⟨g, cap', w', hr, hO, hG, hat, _⟩ := run_append_lies (P := P) w t ty 0 e i (.int .u8 0) 1 1 ht hi hz hz1 hz2 rfl (by decide) (.slice bo l.length bcap) l.length (byteV l) hown a2 l2.length cap2 (byteV l2) (by rw [byteV_length]; omega) hcell (byteV_one l2) hpos (by unfold maxLen; omega) (by omega) (Nat.zero_le _) w.heap.size rfl
      rw [ownBlock_slice] at hG hat
      have eB : blkB l bo = blockOf bo := by unfold blkB; rw [if_neg h1]
      refine ⟨_, cap', w', hr, Or.inl ⟨by simp [h1], ?_, fun a e => ?_⟩, Turns.of_grown hG (fun k e => by rw [eB]; exact e)⟩
      · unfold OwnB; rw [byteV_append, List.length_append]; exact hO
      · injection e with e; subst e
        rcases hat with hat | hat
        · exact Or.inl (by rw [eB]; exact hat)
        · exact Or.inr (by show w.heap.size ≤ g; omega)
    · have hold : (Builtin.firstCells i.size 0 (.slice bo 0 0)).run P w.drew = .ok ([] : List Value).toArray w.drew := by
        cases bo <;> simp [Builtin.firstCells, loadCells, loadCellsFrom]
      have hr := run_append_grow_src (P := P) w t t ty e i (.int .u8 0) ht hi hz bo 0 0 [] hold (.slice (some a2) l2.length cap2) l2.length (byteV l2) (by rw [hz1]; exact Src.ofSlice _ ht a2 _ cap2 _ (by rw [byteV_length]; omega) hcell (byteV_one l2)) (by omega) (by omega) (by rw [hz2]; exact growslice_fits (by omega) (by omega))
      have hge := grownCap_ge w (0 + l2.length) 0 e
      have hle := grownCap_le_maxLen w (0 + l2.length) 0 e (by unfold maxLen; omega)
      generalize grownCap w (0 + l2.length) 0 e = cap' at hr hge hle
      refine ⟨_, cap', _, hr, Or.inl ⟨by simpa using h2, ?_, fun a e => ?_⟩, ⟨rfl, rfl, rfl, by simp, fun k hk _ => Below.heap_alloc w.drew _ k hk⟩⟩
      · rw [List.nil_append]
        have hzc : (Value.int IntKind.u8 0).cells.size = 1 := rfl
        have hge' : l2.length ≤ cap' := by omega
        refine ⟨by rw [byteV_length]; omega, .inr ⟨w.heap.size, cap', _, by simp, Nat.zero_le _, heap_alloc_new w.drew _, hge', hle, ?_, ?_⟩⟩
        · simp only [Array.size_append, List.size_toArray, byteV_length, size_zeroCells, hzc]; omega
        · simp only [Array.toList_append, List.nil_append, Nat.mul_one]
          rw [← byteV_length l2]
          exact List.take_left
      · injection e with e; subst e
        exact Or.inr (Nat.le_refl _)
end
section
variable {P : Program} {w : World}
theorem wp_append_grown {o : Oper} {a : Act} {K : Act → World → Prop} {Q : Exit → Act → World → Prop} (s x : Operand) (t : TypeId)
    (ho : o.op = .call { callee := .builtin .append, args := #[s, x], argTypes := #[t, t] })
    (e : TypeId) (i : TypeInfo) (ht : P.underlying t = some (.slice e)) (hi : P.info? e = some i) (hz : i.zero = some (.int .u8 0)) (hz1 : i.size = 1) (hz2 : i.bytes = 1)
    {S : Nat → Prop} {bo bo2 : Option Addr} {bcap cap2 n n2 : Nat} {l l2 : List UInt8} (hs : a.eval s = .slice bo n bcap) (hx : a.eval x = .slice bo2 n2 cap2) (hg : GrowB w S e bo bcap l) (hn : l.length = n) (hb : IsB w bo2 cap2 l2) (hn2 : l2.length = n2) (hlen : n + n2 ≤ 140737488355328)
    (h : ∀ bo' cap' w', GrowB w' (fun k => blkB l bo = some k ∨ w.heap.size ≤ k) e bo' cap' (l ++ l2) → Turns (fun k => blkB l bo = some k) w w' → K (a.put o.dst (.slice bo' (n + n2) cap')) w') : o.wp P a w K Q := by
  obtain ⟨bo', cap', w', hr, h2, h3⟩ := run_append_grown (P := P) w t o.type e i ht hi hz hz1 hz2 hg hn hb hn2 hlen
  unfold Oper.wp execOp
  simp only [ho, resolve, invoke, builtin, Sem.run_bind, Sem.run_pure, Result.andThen_ok, List.map_toArray, List.map_cons, List.map_nil, hs, hx, hr]
  exact h bo' cap' w' h2 h3
theorem wpList_append_grown {ops : Array Oper} {rest : List Oper} {o : Oper} {a : Act} {Q : Exit → Act → World → Prop} (hgd : o.guard = none) (s x : Operand) (t : TypeId)
    (ho : o.op = .call { callee := .builtin .append, args := #[s, x], argTypes := #[t, t] })
    (e : TypeId) (i : TypeInfo) (ht : P.underlying t = some (.slice e)) (hi : P.info? e = some i) (hz : i.zero = some (.int .u8 0)) (hz1 : i.size = 1) (hz2 : i.bytes = 1)
    {S : Nat → Prop} {bo bo2 : Option Addr} {bcap cap2 n n2 : Nat} {l l2 : List UInt8} (hs : a.eval s = .slice bo n bcap) (hx : a.eval x = .slice bo2 n2 cap2) (hg : GrowB w S e bo bcap l) (hn : l.length = n) (hb : IsB w bo2 cap2 l2) (hn2 : l2.length = n2) (hlen : n + n2 ≤ 140737488355328)
    (h : ∀ bo' cap' w', GrowB w' (fun k => blkB l bo = some k ∨ w.heap.size ≤ k) e bo' cap' (l ++ l2) → Turns (fun k => blkB l bo = some k) w w' → wpList P ops Q rest (a.put o.dst (.slice bo' (n + n2) cap')) w') : wpList P ops Q (o :: rest) a w :=
  wpList_plain hgd fun _ hK => wp_append_grown s x t ho e i ht hi hz hz1 hz2 hs hx hg hn hb hn2 hlen fun bo' cap' w' h2 h3 => hK _ _ (h bo' cap' w' h2 h3)
theorem step_append_grown {ops : Array Oper} {o : Oper} {a : Act} {K : Act → World → Prop} {Q : Exit → Act → World → Prop} {E : Prop} (hgd : o.guard = none) (s x : Operand) (t : TypeId)
    (ho : o.op = .call { callee := .builtin .append, args := #[s, x], argTypes := #[t, t] })
    (e : TypeId) (i : TypeInfo) (ht : P.underlying t = some (.slice e)) (hi : P.info? e = some i) (hz : i.zero = some (.int .u8 0)) (hz1 : i.size = 1) (hz2 : i.bytes = 1)
    {S : Nat → Prop} {bo bo2 : Option Addr} {bcap cap2 n n2 : Nat} {l l2 : List UInt8} (hs : a.eval s = .slice bo n bcap) (hx : a.eval x = .slice bo2 n2 cap2) (hg : GrowB w S e bo bcap l) (hn : l.length = n) (hb : IsB w bo2 cap2 l2) (hn2 : l2.length = n2) (hlen : n + n2 ≤ 140737488355328)
    (h : ∀ bo' cap' w', GrowB w' (fun k => blkB l bo = some k ∨ w.heap.size ≤ k) e bo' cap' (l ++ l2) → Turns (fun k => blkB l bo = some k) w w' → K (a.put o.dst (.slice bo' (n + n2) cap')) w') :
    if Region.wanted o (yielded ops a.tmps) = true then Oper.wp P o a w K Q else E := by
  have hw : Region.wanted o (yielded ops a.tmps) = true := by simp [Region.wanted, hgd]
  rw [if_pos hw]
  exact wp_append_grown s x t ho e i ht hi hz hz1 hz2 hs hx hg hn hb hn2 hlen h
end
end Go.Proofs.YtdclmpdjjkjfjaaGreatDoor

/- What append makes of elements of the call's own and of whatever elements, none too, at a step of a region that draws its order; of whatever program. -/
namespace Go.Proofs.YtdclmpdjjkjfjaaGreatDoor
open Go.RowKit

theorem run_append_v {P : Program} (w : World) (t ty e : TypeId) (i : TypeInfo) (z : Value) (k bytes : Nat) (ht : P.underlying t = some (.slice e)) (hi : P.info? e = some i) (hz : i.zero = some z) (hz1 : i.size = k) (hz2 : i.bytes = bytes) (hzs : z.cells.size = k) (hk : 0 < k)
    {ao : Option Addr} {cap n : Nat} {xs : List Value} (hown : OwnV w 0 e k ao cap n xs) {ao2 : Option Addr} {cap2 n2 : Nat} {ys : List Value} (hsrc : IsV w ao2 cap2 n2 ys) (hy : ys.length = n2 * k) (h1 : ∀ u ∈ ys, u.oneCell' = true)
    (hlen : n + n2 ≤ 9223372036854775807) (hby : (n + n2) * bytes ≤ 140737488355328) :
    ∃ ao' cap' w', (Builtin.append_ #[t, t] ty #[.slice ao n cap, .slice ao2 n2 cap2]).run P w = .ok (.slice ao' (n + n2) cap') w' ∧ OwnV w' 0 e k ao' cap' (n + n2) (xs ++ ys) ∧ w.grownBy w' (blockOf ao) ∧ (∀ j, blockOf ao' = some j → blockOf ao = some j ∨ w.heap.size ≤ j) := by
  by_cases h0 : n2 = 0
  · subst h0
    rw [Nat.zero_mul] at hy
    obtain rfl : ys = [] := List.eq_nil_of_length_eq_zero hy
    refine ⟨ao, cap, w, run_append_nothing w t ty e i ht hi ao ao2 n cap cap2 hown.isV.1, by rw [List.append_nil]; exact hown, ⟨rfl, rfl, rfl, Nat.le_refl _, fun _ _ _ => rfl⟩, fun j e => Or.inl e⟩
  · have hpos : 0 < n2 := by omega
    obtain ⟨a2, rfl⟩ : ∃ a, ao2 = some a := by
      cases ao2 with
      | none => have := hsrc.2.1 rfl; have := hsrc.1; omega
      | some a => exact ⟨a, rfl⟩
    obtain ⟨g, cap', w', hr, hO, hG, hat, _⟩ := run_append_lies (P := P) w t ty 0 e i z k bytes ht hi hz hz1 hz2 hzs hk (.slice ao n cap) n xs hown a2 n2 cap2 ys hy (fun j u hu => hsrc.cell hu) h1 hpos (by unfold maxLen; omega) hby (Nat.zero_le _) w.heap.size rfl
    rw [ownBlock_slice] at hG hat
    refine ⟨_, cap', w', hr, hO, hG, fun j e => ?_⟩
    injection e with e; subst e
    rcases hat with hat | hat
    · exact Or.inl hat
    · exact Or.inr (by show w.heap.size ≤ g; omega)
theorem step_append_v {P : Program} {w : World} {ops : Array Oper} {o : Oper} {a : Act} {K : Act → World → Prop} {Q : Exit → Act → World → Prop} {E : Prop} (hgd : o.guard = none) (s x : Operand) (t : TypeId)
    (ho : o.op = .call { callee := .builtin .append, args := #[s, x], argTypes := #[t, t] })
    (e : TypeId) (i : TypeInfo) (z : Value) (k bytes : Nat) (ht : P.underlying t = some (.slice e)) (hi : P.info? e = some i) (hz : i.zero = some z) (hz1 : i.size = k) (hz2 : i.bytes = bytes) (hzs : z.cells.size = k) (hk : 0 < k)
    {ao : Option Addr} {cap n : Nat} {xs : List Value} (hs : a.eval s = .slice ao n cap) (hown : OwnV w 0 e k ao cap n xs)
    {ao2 : Option Addr} {cap2 n2 : Nat} {ys : List Value} (hx : a.eval x = .slice ao2 n2 cap2) (hsrc : IsV w ao2 cap2 n2 ys) (hy : ys.length = n2 * k) (h1 : ∀ u ∈ ys, u.oneCell' = true)
    (hlen : n + n2 ≤ 9223372036854775807) (hby : (n + n2) * bytes ≤ 140737488355328)
    (h : ∀ ao' cap' w', OwnV w' 0 e k ao' cap' (n + n2) (xs ++ ys) → w.grownBy w' (blockOf ao) → (∀ j, blockOf ao' = some j → blockOf ao = some j ∨ w.heap.size ≤ j) → K (a.put o.dst (.slice ao' (n + n2) cap')) w') :
    if Region.wanted o (yielded ops a.tmps) = true then Oper.wp P o a w K Q else E := by
  have hw : Region.wanted o (yielded ops a.tmps) = true := by simp [Region.wanted, hgd]
  rw [if_pos hw]
  obtain ⟨ao', cap', w', hr, h2, h3, h4⟩ := run_append_v (P := P) w t o.type e i z k bytes ht hi hz hz1 hz2 hzs hk hown hsrc hy h1 hlen hby
  unfold Oper.wp execOp
  simp only [ho, resolve, invoke, builtin, Sem.run_bind, Sem.run_pure, Result.andThen_ok, List.map_toArray, List.map_cons, List.map_nil, hs, hx, hr]
  exact h ao' cap' w' h2 h3 h4
end Go.Proofs.YtdclmpdjjkjfjaaGreatDoor

/- A pair of texts in a row of its own, and what a clone and an append leave; of whatever program. -/
namespace Go.Proofs.YtdclmpdjjkjfjaaGreatDoor
open Go.RowKit

theorem prOnes (x y : ByteArray) : ∀ u ∈ ([.string x, .string y] : List Value), u.oneCell' = true := fun u hu => by simp at hu; rcases hu with rfl | rfl <;> rfl
theorem prNew (W : World) (x y : ByteArray) (t : Nat) {k : Nat} (hk : W.heap.size = k) : ∀ j u, ([.string x, .string y] : List Value)[j]? = some u → (W.alloc (.cells #[.string x, .string y] t)).cell? (Addr.add ⟨k, 0, none⟩ j) = some u := fun j u hu => by
  rw [Addr.add_lit, Nat.zero_add, World.cell?_alloc_at _ _ _ _ hk.symm, List.getElem?_toArray]; exact hu
theorem prOld {wb w5 : World} {x y : ByteArray} {t : Nat} (h : Below (wb.alloc (.cells #[.string x, .string y] t)).drew.heap.size (wb.alloc (.cells #[.string x, .string y] t)).drew w5) : ∀ j u, ([.string x, .string y] : List Value)[j]? = some u → w5.cell? (Addr.add ⟨wb.heap.size, 0, none⟩ j) = some u := fun j u hu => by
  have h1 := prNew wb x y t rfl j u hu
  have h2 : (wb.alloc (.cells #[.string x, .string y] t)).drew.cell? (Addr.add ⟨wb.heap.size, 0, none⟩ j) = some u := h1
  exact (h.cell (World.block_lt_of_cell? _ _ h2)).trans h2
theorem prGrown {wb W w6 : World} {base t : Nat} {ao : Option Addr} {cap n : Nat} {xs : List Value} {w5 : World} (hB : Below wb.heap.size wb W) (hO : OwnV w5 base t 2 ao cap n xs) (hG : W.grownBy w6 (Value.slice ao n cap).ownBlock) (hz : wb.heap.size ≤ base) : Below wb.heap.size wb w6 :=
  hB.grown hG hB.size (fun q e => by
    rw [ownBlock_slice] at e
    cases ao with
    | none => cases e
    | some a => injection e with e; subst e; have := (hO.block a rfl).1; omega)
theorem prBody {w wr w7 : World} {bo : Option Addr} {bcap g : Nat} {body : List UInt8} (h0 : IsB w bo bcap body) (h : IsB wr bo bcap body) (hT : Turns (fun k => k = g) wr w7) (hg : w.heap.size ≤ g) : IsB w7 bo bcap body := by
  by_cases hbn : body = []
  · subst hbn; exact IsB.empty _ h
  · refine h.turns hT (fun a e e2 => ?_)
    subst e
    have h3 := World.block_lt_of_cell? w _ (h0.cell 0 (List.length_pos_iff.2 hbn))
    rw [add_block] at h3
    omega
end Go.Proofs.YtdclmpdjjkjfjaaGreatDoor

/- Uploads in memory that an object holds and may turn: a row of its own, each upload's bytes apart from all else; of whatever program. -/
namespace Go.Proofs.YtdclmpdjjkjfjaaGreatDoor
open Go.RowKit

section
variable {w w' : World} {S S' T : Nat → Prop} {t : Nat} {ao : Option Addr} {cap : Nat} {l : List UInt8}
theorem GrowB.blk (h : GrowB w S t ao cap l) {k : Nat} (e : blkB l ao = some k) : S k ∧ k < w.heap.size := by
  unfold blkB at e
  split at e
  · cases e
  · rename_i hl
    rcases h with ⟨_, h2, h3⟩ | ⟨h1, _⟩
    · cases ao with
      | none => cases e
      | some a => injection e with e; subst e; exact ⟨h3 a rfl, (h2.block a rfl).2⟩
    · exact absurd h1 hl
theorem GrowB.over (h : GrowB w S t ao cap l) (ht : Turns T w w') (hn : ∀ k, S k → blkB l ao = some k → k < w.heap.size → ¬ T k ∧ S' k) : GrowB w' S' t ao cap l := by
  rcases h with ⟨h1, h2, h3⟩ | h
  · have hb : ∀ a, ao = some a → ¬ T a.block ∧ S' a.block := fun a e => hn _ (h3 a e) (by unfold blkB; rw [if_neg h1, e]; rfl) (h2.block a e).2
    exact Or.inl ⟨h1, h2.turns ht (fun a e => (hb a e).1), fun a e => (hb a e).2⟩
  · exact Or.inr h
theorem GrowB.to (h : GrowB w S t ao cap l) (hn : ∀ k, S k → blkB l ao = some k → k < w.heap.size → S' k) : GrowB w S' t ao cap l := h.over (Turns.refl (fun _ => False) w) (fun k a b c => ⟨fun e => e, hn k a b c⟩)
end
/-- the block of an upload's bytes, if there are some -/
def upBlk (x : Sp.Up × UpS) : Option Nat := blkB x.1.bytes x.2.bo
/-- no two uploads' bytes lie in one block -/
def Apart (us : List (Sp.Up × UpS)) : Prop := ∀ (i j : Nat) (x y : Sp.Up × UpS), us[i]? = some x → us[j]? = some y → i ≠ j → ∀ k, upBlk x = some k → upBlk y ≠ some k
theorem one_at {α : Type} {x b : α} {n : Nat} (h : [x][n]? = some b) : n = 0 ∧ b = x := by
  cases n with
  | zero => exact ⟨rfl, by simpa using h.symm⟩
  | succ n => simp at h
theorem Apart.nil : Apart [] := fun i j x y h => by simp at h
theorem Apart.push {us : List (Sp.Up × UpS)} {x : Sp.Up × UpS} (h : Apart us) (hx : ∀ y ∈ us, ∀ k, upBlk y = some k → upBlk x ≠ some k) : Apart (us ++ [x]) := by
  intro i j a b ha hb hij k ka kb
  rcases Nat.lt_or_ge i us.length with hi | hi
  · rw [List.getElem?_append_left hi] at ha
    rcases Nat.lt_or_ge j us.length with hj | hj
    · rw [List.getElem?_append_left hj] at hb
      exact h i j a b ha hb hij k ka kb
    · rw [List.getElem?_append_right hj] at hb
      obtain ⟨_, rfl⟩ := one_at hb
      exact hx a (List.mem_of_getElem? ha) k ka kb
  · rw [List.getElem?_append_right hi] at ha
    obtain ⟨e1, rfl⟩ := one_at ha
    rcases Nat.lt_or_ge j us.length with hj | hj
    · rw [List.getElem?_append_left hj] at hb
      exact hx b (List.mem_of_getElem? hb) k kb ka
    · rw [List.getElem?_append_right hj] at hb
      obtain ⟨e2, _⟩ := one_at hb
      omega
theorem Apart.set {us : List (Sp.Up × UpS)} {x : Sp.Up × UpS} (h : Apart us) (i : Nat) (hx : ∀ j y, us[j]? = some y → j ≠ i → ∀ k, upBlk y = some k → upBlk x ≠ some k) : Apart (us.set i x) := by
  intro a b p q ha hb hab k kp kq
  rw [List.getElem?_set] at ha hb
  split at ha
  · rename_i e1
    split at hb
    · rename_i e2; omega
    · rename_i e2
      split at ha
      · injection ha with ha; subst ha
        exact hx b q hb (fun e => e2 e.symm) k kq kp
      · cases ha
  · rename_i e1
    split at hb
    · split at hb
      · injection hb with hb; subst hb
        exact hx a p ha (fun e => e1 e.symm) k kp kq
      · cases hb
    · exact h a b p q ha hb hab k kp kq
theorem Apart.erase {us : List (Sp.Up × UpS)} (h : Apart us) (i : Nat) : Apart (us.eraseIdx i) := by
  intro a b p q ha hb hab k kp kq
  rw [List.getElem?_eraseIdx] at ha hb
  split at ha <;> split at hb
  · exact h a b p q ha hb hab k kp kq
  · exact h a (b + 1) p q ha hb (by omega) k kp kq
  · exact h (a + 1) b p q ha hb (by omega) k kp kq
  · exact h (a + 1) (b + 1) p q ha hb (by omega) k kp kq
/-- uploads in a row of an object's own, each one's bytes apart, all of it among the blocks S -/
def UpO (w : World) (S : Nat → Prop) (tU tB : Nat) (ao : Option Addr) (cap : Nat) (l : List Sp.Up) : Prop :=
  ∃ us : List (Sp.Up × UpS), us.map (·.1) = l ∧ OwnV w 0 tU 5 ao cap l.length (upV us) ∧ (∀ a, ao = some a → S a.block) ∧ (∀ x ∈ us, GrowB w (fun k => S k ∧ blockOf ao ≠ some k) tB x.2.bo x.2.bcap x.1.bytes) ∧ Apart us
section
variable {w w' w1 : World} {S S' N : Nat → Prop} {tU tB : Nat} {ao : Option Addr} {cap : Nat} {l : List Sp.Up}
theorem UpO.nil (w : World) (S : Nat → Prop) (tU tB : Nat) : UpO w S tU tB none 0 [] := ⟨[], rfl, OwnV.nil _ _ _ _, fun a e => (by cases e), fun p hp => (by cases hp), Apart.nil⟩
theorem UpO.at_ (h : UpO w S tU tB ao cap l) : UpsAt w S tU ao cap l := by
  obtain ⟨us, h1, h2, h3, h4, _⟩ := h
  exact ⟨us, h1, h2, h3, fun x hx => (h4 x hx).isBS⟩
theorem UpO.isUps (h : UpO w S tU tB ao cap l) : IsUps w ao cap l := h.at_.isUps
theorem UpO.cap_ (h : UpO w S tU tB ao cap l) : l.length ≤ cap := by
  obtain ⟨us, h1, h2, h3, h4, _⟩ := h
  exact h2.isV.1
theorem UpO.turns (h : UpO w S tU tB ao cap l) (ht : Turns S' w w') (hs : ∀ k, S k → ¬ S' k) : UpO w' S tU tB ao cap l := by
  obtain ⟨us, h1, h2, h3, h4, h5⟩ := h
  exact ⟨us, h1, h2.turns ht (fun a e => hs _ (h3 a e)), h3, fun x hx => (h4 x hx).turns ht (fun k e => hs k e.1), h5⟩
theorem UpO.mono (h : UpO w S tU tB ao cap l) (hs : ∀ k, k < w.heap.size → S k → S' k) : UpO w S' tU tB ao cap l := by
  obtain ⟨us, h1, h2, h3, h4, h5⟩ := h
  exact ⟨us, h1, h2, fun a e => hs _ (h2.block a e).2 (h3 a e), fun x hx => (h4 x hx).mono (fun k hk e => ⟨hs k hk e.1, e.2⟩), h5⟩
theorem UpO.stay (h : UpO w S tU tB ao cap l) (hb : Below w.heap.size w w') : UpO w' S tU tB ao cap l := h.turns (Turns.of_below (S := fun _ => False) hb) (fun _ _ e => e)
theorem blockOf_mem {S : Nat → Prop} (h3 : ∀ a, ao = some a → S a.block) : ∀ k, blockOf ao = some k → S k := fun k e => by
  cases ao with
  | none => cases e
  | some a => injection e with e; subst e; exact h3 a rfl
/-- one upload more, its cells in a block just made -/
theorem UpO.push {W : World} (h : UpO W S tU tB ao cap l) (ob : Obj) : ∃ xs, OwnV (W.alloc ob) 0 tU 5 ao cap l.length xs ∧
    ∀ ao' cap' w' (u : Sp.Up) (s : UpS) (N : Nat → Prop), GrowB W N tB s.bo s.bcap u.bytes → (∀ k, S k → ¬ N k) → OwnV w' 0 tU 5 ao' cap' (l.length + 1) (xs ++ upC u s) → (W.alloc ob).grownBy w' (blockOf ao) → (blockOf ao' = blockOf ao ∨ blockOf ao' = some (W.alloc ob).heap.size) → UpO w' (fun k => S k ∨ N k ∨ W.heap.size ≤ k) tU tB ao' cap' (l ++ [u]) ∧ Turns S W w' := by
  obtain ⟨us, h1, h2, h3, h4, h5⟩ := h
  have hb : Below W.heap.size W (W.alloc ob) := (Below.refl _ _).alloc (Nat.le_refl _) _
  have hBS := blockOf_mem h3
  refine ⟨upV us, h2.stay hb, fun ao' cap' w' u s N hB hN hO' hG hat => ?_⟩
  have hT : Turns (fun k => blockOf ao = some k) W w' := (Turns.of_below hb).trans (Turns.of_grown hG (fun k e => e)) (fun _ e _ => e)
  have hne : ∀ k, k < W.heap.size → blockOf ao ≠ some k → blockOf ao' ≠ some k := fun k hk h e => by
    rcases hat with g | g
    · rw [g] at e; exact h e
    · rw [g, World.size_alloc] at e; injection e with e; omega
  refine ⟨⟨us ++ [(u, s)], by simp [h1], by rw [upV_append, upV_one, List.length_append]; exact hO', fun a e => ?_, fun x hx => ?_, h5.push fun y hy k ky kx => hN k ((h4 y hy).blk ky).1.1 (hB.blk kx).1⟩, hT.mono (fun k e => hBS k e)⟩
  · subst e
    rcases hat with g | g
    · exact Or.inl (hBS _ (g.symm.trans rfl))
    · rw [World.size_alloc] at g; injection g with g; exact Or.inr (Or.inr (by omega))
  · rcases List.mem_append.1 hx with hx | hx
    · exact (h4 x hx).over hT (fun k e _ hk => ⟨e.2, Or.inl e.1, hne k hk e.2⟩)
    · rw [List.mem_singleton.1 hx]
      have hno : ∀ k, N k → blockOf ao ≠ some k := fun k hk e => hN k (hBS k e) hk
      exact hB.over hT (fun k e _ hk => ⟨hno k e, Or.inr (Or.inl e), hne k hk (hno k e)⟩)
/-- a field that is not its bytes -/
theorem UpO.put {g i j : Nat} {v : Value} {u : Sp.Up} (h : UpO w S tU tB (some ⟨g, 0, none⟩) cap l) (hi : i < l.length) (hj : j < 5) (hv : ∀ s, (upC l[i] s).set j v = upC u s) (hb : u.bytes = l[i].bytes) : UpO (w.setCell ⟨g, i * 5 + j, none⟩ v) S tU tB (some ⟨g, 0, none⟩) cap (l.set i u) ∧ Turns (fun k => k = g) w (w.setCell ⟨g, i * 5 + j, none⟩ v) := by
  obtain ⟨us, rfl, h2, h3, h4, h5⟩ := h
  have hi' : i < us.length := by simpa using hi
  have hS : Turns (fun k => k = g) w (w.setCell ⟨g, i * 5 + j, none⟩ v) := Turns.setCell (fun k => k = g) w _ _ rfl
  have hb' : u.bytes = us[i].1.bytes := by rw [hb, List.getElem_map]
  have hblk : upBlk (u, us[i].2) = upBlk us[i] := by unfold upBlk; simp only; rw [hb']
  refine ⟨⟨us.set i (u, us[i].2), by rw [List.map_set], ?_, h3, fun x hx => ?_, h5.set i fun j y hy hj k ky kx => ?_⟩, hS⟩
  · have own2 := (World.ownsRow.stored h2 (i * 5 + j) v).1
    rw [upV_sets us i hi' j v (u, us[i].2) hj (by have := hv us[i].2; rw [List.getElem_map] at this; exact this)] at own2
    rw [List.length_set]; exact own2
  · have ht : ∀ y : Sp.Up × UpS, GrowB w (fun k => S k ∧ blockOf (some ⟨g, 0, none⟩) ≠ some k) tB y.2.bo y.2.bcap y.1.bytes → GrowB (w.setCell ⟨g, i * 5 + j, none⟩ v) (fun k => S k ∧ blockOf (some ⟨g, 0, none⟩) ≠ some k) tB y.2.bo y.2.bcap y.1.bytes := fun y hy => hy.turns hS (fun k e e2 => e.2 (by subst e2; rfl))
    rcases List.mem_or_eq_of_mem_set hx with hx | hx
    · exact ht x (h4 x hx)
    · subst hx
      have := ht us[i] (h4 us[i] (List.getElem_mem hi'))
      show GrowB _ _ _ us[i].2.bo us[i].2.bcap u.bytes
      rw [hb']; exact this
  · rw [hblk] at kx
    exact h5 j i y us[i] hy (List.getElem?_eq_getElem hi') hj k ky kx
/-- an upload as it lies: its cells, and what becomes of all when its bytes are turned -/
theorem UpO.lies (h : UpO w S tU tB ao cap l) (i : Nat) (hi : i < l.length) : ∃ (g : Nat) (s : UpS), ao = some ⟨g, 0, none⟩ ∧ S g ∧ g < w.heap.size ∧ w.cell? ⟨g, i * 5, none⟩ = some (.int .i64 l[i].id) ∧ w.cell? ⟨g, i * 5 + 1, none⟩ = some (.int .i64 l[i].size) ∧ w.cell? ⟨g, i * 5 + 2, none⟩ = some (.string l[i].note) ∧ w.cell? ⟨g, i * 5 + 3, none⟩ = some (.slice s.bo l[i].bytes.length s.bcap) ∧ w.cell? ⟨g, i * 5 + 4, none⟩ = some (.int .i64 l[i].sent) ∧ (∀ j, w.frozen? ⟨g, j, none⟩ = false) ∧ GrowB w (fun k => S k ∧ k ≠ g) tB s.bo s.bcap l[i].bytes ∧
    ∀ w1 bo' bcap' bs n, GrowB w1 (fun k => blkB l[i].bytes s.bo = some k ∨ w.heap.size ≤ k) tB bo' bcap' bs → Turns (fun k => blkB l[i].bytes s.bo = some k) w w1 → n = bs.length → UpO (w1.setCell ⟨g, i * 5 + 3, none⟩ (.slice bo' n bcap')) (orNew S w) tU tB (some ⟨g, 0, none⟩) cap (l.set i { l[i] with bytes := bs }) ∧ Turns S w (w1.setCell ⟨g, i * 5 + 3, none⟩ (.slice bo' n bcap')) := by
  have hU := h.isUps.at_ i hi
  obtain ⟨g, hg, hSg, _, _⟩ := h.at_.row i hi
  subst hg
  obtain ⟨us, rfl, h2, h3, h4, h5⟩ := h
  have hi' : i < us.length := by simpa using hi
  have hc : ∀ j, j < 5 → w.cell? ⟨g, i * 5 + j, none⟩ = (upC us[i].1 us[i].2)[j]? := fun j hj => by
    rw [World.ownsRow.cellAt h2 (i * 5 + j) (by omega), upV_at us i hi' j hj]
  have hx := h4 _ (List.getElem_mem hi')
  have hxg : GrowB w (fun k => S k ∧ k ≠ g) tB us[i].2.bo us[i].2.bcap us[i].1.bytes := hx.to (fun k e _ _ => ⟨e.1, fun e2 => e.2 (by subst e2; rfl)⟩)
  simp only [List.getElem_map]
  refine ⟨g, us[i].2, rfl, hSg, (h2.block _ rfl).2, hc 0 (by decide), hc 1 (by decide), hc 2 (by decide), hc 3 (by decide), hc 4 (by decide), fun j => World.ownsRow.frozenAt h2 j, hxg, fun w1 bo' bcap' bs n hB hT hn => ?_⟩
  subst hn
  have hlast : ∀ k, blkB us[i].1.bytes us[i].2.bo = some k → S k ∧ k ≠ g := fun k e => (hxg.blk e).1
  have hgl : g < w.heap.size := (h2.block _ rfl).2
  have hT2 : Turns S w (w1.setCell ⟨g, i * 5 + 3, none⟩ (.slice bo' bs.length bcap')) := (hT.mono (fun k e => (hlast k e).1)).trans (Turns.setCell S w1 _ _ hSg) (fun _ e _ => e)
  have hS : Turns (fun k => k = g) w1 (w1.setCell ⟨g, i * 5 + 3, none⟩ (.slice bo' bs.length bcap')) := Turns.setCell (fun k => k = g) w1 _ _ rfl
  have own1 : OwnV w1 0 tU 5 (some ⟨g, 0, none⟩) cap (us.map (·.1)).length (upV us) := h2.turns hT (fun a e h => by injection e with e; subst e; exact (hlast _ h).2 rfl)
  refine ⟨⟨us.set i ({ us[i].1 with bytes := bs }, ⟨bo', bcap'⟩), by rw [List.map_set], ?_, fun a e => Or.inl (h3 a e), fun x hx2 => ?_, h5.set i fun j y hy hj k ky kx => ?_⟩, hT2⟩
  · have own2 := (World.ownsRow.stored own1 (i * 5 + 3) (.slice bo' bs.length bcap')).1
    rw [upV_sets us i hi' 3 _ ({ us[i].1 with bytes := bs }, ⟨bo', bcap'⟩) (by decide) rfl] at own2
    rw [List.length_set]; exact own2
  · obtain ⟨j, hj⟩ := List.getElem?_of_mem hx2
    rw [List.getElem?_set] at hj
    split at hj
    · rename_i e
      first | rw [if_pos hi'] at hj | skip
      injection hj with hj; subst hj
      refine (hB.to (S' := fun k => orNew S w k ∧ k ≠ g) (fun k h _ _ => ?_)).over hS (fun k e _ _ => ⟨e.2, e.1, fun e2 => e.2 (by injection e2 with e2; exact e2.symm)⟩)
      rcases h with h | h
      · exact ⟨Or.inl (hlast k h).1, (hlast k h).2⟩
      · exact ⟨Or.inr h, by omega⟩
    · rename_i e
      have hm := List.mem_of_getElem? hj
      have hg1 : GrowB w1 (fun k => S k ∧ k ≠ g) tB x.2.bo x.2.bcap x.1.bytes := (h4 x hm).over hT (fun k e1 e2 _ => ⟨fun e3 => h5 j i x us[i] hj (List.getElem?_eq_getElem hi') (fun e4 => e e4.symm) k e2 e3, e1.1, fun e5 => e1.2 (by subst e5; rfl)⟩)
      exact hg1.over hS (fun k e _ _ => ⟨e.2, Or.inl e.1, fun e2 => e.2 (by injection e2 with e2; exact e2.symm)⟩)
  · rcases (hB.blk kx).1 with e | e
    · exact h5 j i y us[i] hy (List.getElem?_eq_getElem hi') hj k ky e
    · have := ((h4 y (List.mem_of_getElem? hy)).blk ky).2
      omega
theorem upV_erase (us : List (Sp.Up × UpS)) (i : Nat) : upV (us.eraseIdx i) = upV (us.take i) ++ upV (us.drop (i + 1)) := by rw [List.eraseIdx_eq_take_drop_succ, upV_append]
/-- one upload goes: its row is laid anew, here or elsewhere -/
theorem UpO.drop (h : UpO w S tU tB ao cap l) (i : Nat) (hi : i < l.length) : ∃ us : List (Sp.Up × UpS), us.length = l.length ∧ OwnV w 0 tU 5 ao cap l.length (upV us) ∧
    ∀ w' ao' cap', OwnV w' 0 tU 5 ao' cap' (l.length - 1) (upV (us.eraseIdx i)) → Turns (fun k => blockOf ao = some k) w w' → (∀ k, blockOf ao' = some k → blockOf ao = some k ∨ w.heap.size ≤ k) → UpO w' (orNew S w) tU tB ao' cap' (l.eraseIdx i) ∧ Turns S w w' := by
  obtain ⟨us, rfl, h2, h3, h4, h5⟩ := h
  have hBS := blockOf_mem h3
  refine ⟨us, by simp, h2, fun w' ao' cap' hO hT hat => ⟨⟨us.eraseIdx i, by simp [List.eraseIdx_eq_take_drop_succ, List.map_take, List.map_drop], ?_, fun a e => ?_, fun x hx => ?_, h5.erase i⟩, hT.mono hBS⟩⟩
  · rw [List.length_eraseIdx_of_lt hi]; exact hO
  · subst e
    rcases hat _ rfl with g | g
    · exact Or.inl (hBS _ g)
    · exact Or.inr g
  · refine (h4 x (List.mem_of_mem_eraseIdx hx)).over hT (fun k e _ hk => ⟨e.2, Or.inl e.1, fun e2 => ?_⟩)
    rcases hat k e2 with g | g
    · exact e.2 g
    · omega
end
end Go.Proofs.YtdclmpdjjkjfjaaGreatDoor

/- Uploads in memory, of whatever program: a row out of which one goes in its place; an object that is uploads and a number. -/
namespace Go.Proofs.YtdclmpdjjkjfjaaGreatDoor
open Go.RowKit

def layAt : List Value → Nat → List Value → List Value
  | xs, _, [] => xs
  | xs, o, v :: vs => layAt (xs.set o v) (o + 1) vs
theorem layAt_at : ∀ (vs xs : List Value) (o j : Nat), (layAt xs o vs)[j]? = if o ≤ j ∧ j < o + vs.length ∧ j < xs.length then vs[j - o]? else xs[j]?
  | [], xs, o, j => by
    rw [layAt, if_neg]
    simp only [List.length_nil]; omega
  | v :: vs, xs, o, j => by
    rw [layAt, layAt_at vs (xs.set o v) (o + 1) j, List.length_set, List.length_cons]
    by_cases hj : j = o
    · subst hj
      rw [if_neg (by omega), List.getElem?_set, if_pos rfl]
      by_cases hl : j < xs.length
      · rw [if_pos hl, if_pos (by omega), Nat.sub_self]; rfl
      · rw [if_neg hl, if_neg (by omega), List.getElem?_eq_none (by omega)]
    · have hjo : ¬ o = j := fun e => hj e.symm
      rw [List.getElem?_set, if_neg hjo]
      by_cases hc : o + 1 ≤ j ∧ j < o + 1 + vs.length ∧ j < xs.length
      · rw [if_pos hc, if_pos (by omega), show j - o = (j - (o + 1)) + 1 by omega, List.getElem?_cons_succ]
      · rw [if_neg hc, if_neg (by omega)]
theorem layAt_length : ∀ (vs xs : List Value) (o : Nat), (layAt xs o vs).length = xs.length
  | [], _, _ => rfl
  | v :: vs, xs, o => by rw [layAt, layAt_length vs, List.length_set]
section
variable {w w' : World} {S S' : Nat → Prop} {t k g cap n : Nat} {xs : List Value}
theorem OwnV.lays : ∀ (vs : List Value) (o : Nat) {xs : List Value} {w : World}, OwnV w 0 t k (some ⟨g, 0, none⟩) cap n xs → OwnV (w.setCells g o vs) 0 t k (some ⟨g, 0, none⟩) cap n (layAt xs o vs)
  | [], _, _, _, h => h
  | v :: vs, o, xs, w, h => by rw [World.setCells, layAt]; exact OwnV.lays vs (o + 1) (World.ownsRow.stored h o v).1
theorem turns_setCells (g : Nat) : ∀ (vs : List Value) (o : Nat) (w : World), Turns (fun k => k = g) w (w.setCells g o vs)
  | [], _, w => Turns.refl _ w
  | v :: vs, o, w => by rw [World.setCells]; exact (Turns.setCell (fun k => k = g) w _ _ rfl).trans (turns_setCells g vs (o + 1) _) (fun _ e _ => e)
theorem OwnV.less (h : OwnV w 0 t k (some ⟨g, 0, none⟩) cap n xs) (m : Nat) (hm : m ≤ n) : OwnV w 0 t k (some ⟨g, 0, none⟩) cap m (xs.take (m * k)) := by
  have hl := h.1
  have hmk : m * k ≤ n * k := Nat.mul_le_mul_right k hm
  refine ⟨by rw [List.length_take]; omega, ?_⟩
  rcases h.2 with ⟨e, _⟩ | ⟨g', cap', cur, e, hg, hh, hn, hc, hs, ht⟩
  · simp at e
  · injection e with e1 e2 e3
    injection e1 with e1; injection e1 with e1
    subst e1; subst e3
    exact Or.inr ⟨g, cap, cur, rfl, hg, hh, by omega, hc, hs, by rw [← ht, List.take_take, Nat.min_eq_left hmk]⟩
/-- one goes in its place: what stands behind it is moved, and what stood last is cleared -/
theorem OwnV.gone (h : OwnV w 0 t k (some ⟨g, 0, none⟩) cap n xs) (i : Nat) (hi : i < n) (zs : List Value) : OwnV ((w.setCells g (i * k) (xs.drop ((i + 1) * k))).setCells g ((n - 1) * k) zs) 0 t k (some ⟨g, 0, none⟩) cap (n - 1) (xs.take (i * k) ++ xs.drop ((i + 1) * k)) := by
  have hl := h.1
  have h1 := ((h.lays (xs.drop ((i + 1) * k)) (i * k)).lays zs ((n - 1) * k)).less (n - 1) (by omega)
  have hik : (i + 1) * k = i * k + k := Nat.succ_mul i k
  have hnk : n * k = (n - 1) * k + k := by rw [← Nat.succ_mul, show (n - 1).succ = n by omega]
  have hin : i * k ≤ (n - 1) * k := Nat.mul_le_mul_right k (by omega)
  refine (congrArg (OwnV _ 0 t k (some ⟨g, 0, none⟩) cap (n - 1)) ?_).mp h1
  refine List.ext_getElem? fun j => ?_
  rw [List.getElem?_take, List.getElem?_append, List.length_take, List.getElem?_take, List.getElem?_drop]
  by_cases hj : j < (n - 1) * k
  · rw [if_pos hj, layAt_at, if_neg (by omega), layAt_at, List.length_drop]
    by_cases hji : j < i * k
    · rw [if_neg (by omega), if_pos (by omega), if_pos hji]
    · rw [if_pos (by omega), if_neg (by omega), List.getElem?_drop, Nat.min_eq_left (by omega)]
  · rw [if_neg hj, if_neg (by omega), List.getElem?_eq_none (by omega)]
end
/-- 'clear(s)', s a slice of one element of several cells -/
theorem run_clear_one {P : Program} (w : World) (t e ty : TypeId) (z : Value) (ht : P.underlying t = some (.slice e)) (hv : ∀ w, (zeroValue e).run P w = .ok z w) (h1 : ∀ v ∈ z.cells.toList, v.oneCell' = true) (b o c : Nat)
    (hc : ∀ j, j < z.cells.size → (w.cell? ⟨b, o + j, none⟩).isSome = true) (hf : ∀ j, j < z.cells.size → w.frozen? ⟨b, o + j, none⟩ = false) :
    (Builtin.clear_ #[t] ty #[.slice (some ⟨b, o, none⟩) 1 c]).run P w = .ok (.tuple #[]) (w.setCells b o z.cells.toList) := by
  have hzc : Builtin.zeroCells z.cells 1 = z.cells := by
    apply Array.ext
    · simp [Builtin.zeroCells]
    · intro i h1 h2
      simp [Builtin.zeroCells, Nat.mod_eq_of_lt h2]
      exact getElem!_pos z.cells i h2
  have hst := run_storeCells_cells (P := P) b o z.cells.toList 0 w (by simpa using hc) (by simpa using hf) h1
  simp only [Nat.add_zero] at hst
  simp [Builtin.clear_, run_underlying ht, hv, hzc, hst]
/-- an object at block g: uploads, and a number -/
def SpAt (w : World) (S : Nat → Prop) (tO tU tB g : Nat) (s : Sp.St) : Prop := ∃ ao cap, w.heap[g]? = some (.cells #[.slice ao s.l.length cap, .int .i64 s.last] tO (0, 0)) ∧ S g ∧ UpO w (fun k => S k ∧ k ≠ g) tU tB ao cap s.l
section
variable {w w' w1 : World} {S S' N : Nat → Prop} {tO tU tB g : Nat} {s : Sp.St}
theorem SpAt.turns (h : SpAt w S tO tU tB g s) (ht : Turns S' w w') (hs : ∀ k, S k → ¬ S' k) : SpAt w' S tO tU tB g s := by
  obtain ⟨ao, cap, h1, h2, h3⟩ := h
  exact ⟨ao, cap, ht.row h1 (hs g h2), h2, h3.turns ht (fun k e => hs k e.1)⟩
theorem SpAt.lt (h : SpAt w S tO tU tB g s) : g < w.heap.size := by
  obtain ⟨ao, cap, h1, h2, h3⟩ := h
  exact (Array.getElem?_eq_some_iff.1 h1).1
theorem SpAt.mono (h : SpAt w S tO tU tB g s) (hs : ∀ k, k < w.heap.size → S k → S' k) : SpAt w S' tO tU tB g s := by
  have hl := h.lt
  obtain ⟨ao, cap, h1, h2, h3⟩ := h
  exact ⟨ao, cap, h1, hs g hl h2, h3.mono (fun k hk e => ⟨hs k hk e.1, e.2⟩)⟩
theorem SpAt.stay (h : SpAt w S tO tU tB g s) (hb : Below w.heap.size w w') : SpAt w' S tO tU tB g s := h.turns (Turns.of_below (S := fun _ => False) hb) (fun _ _ e => e)
/-- its uploads laid anew -/
theorem SpAt.lay {v : Value} {last : Int} {l' : List Sp.Up} {ao : Option Addr} {cap n : Nat} (hg : w1.heap[g]? = some (.cells #[v, .int .i64 last] tO (0, 0))) (hS : S g) (hU : UpO w1 (fun k => S k ∧ k ≠ g) tU tB ao cap l') (hn : n = l'.length) : SpAt (w1.setCell ⟨g, 0, none⟩ (.slice ao n cap)) S tO tU tB g ⟨l', last⟩ ∧ Turns (fun k => k = g) w1 (w1.setCell ⟨g, 0, none⟩ (.slice ao n cap)) := by
  subst hn
  have hT : Turns (fun k => k = g) w1 (w1.setCell ⟨g, 0, none⟩ (.slice ao l'.length cap)) := Turns.setCell (fun k => k = g) w1 _ _ rfl
  exact ⟨⟨ao, cap, heap_setCell_same w1 g 0 _ tO _ hg, hS, hU.turns hT (fun k e e2 => e.2 e2)⟩, hT⟩
/-- its row, its number -/
theorem SpAt.cells (h : SpAt w S tO tU tB g s) : ∃ ao cap, w.cell? ⟨g, 0, none⟩ = some (.slice ao s.l.length cap) ∧ w.cell? ⟨g, 1, none⟩ = some (.int .i64 s.last) ∧ w.frozen? ⟨g, 0, none⟩ = false ∧ w.frozen? ⟨g, 1, none⟩ = false ∧ w.heap[g]? = some (.cells #[.slice ao s.l.length cap, .int .i64 s.last] tO (0, 0)) ∧ S g ∧ UpO w (fun k => S k ∧ k ≠ g) tU tB ao cap s.l := by
  obtain ⟨ao, cap, h1, h2, h3⟩ := h
  exact ⟨ao, cap, cell_of_row w g 0 _ _ _ h1, cell_of_row w g 1 _ _ _ h1, frozen_of_row w g 0 _ _ h1, frozen_of_row w g 1 _ _ h1, h1, h2, h3⟩
end
end Go.Proofs.YtdclmpdjjkjfjaaGreatDoor

/- Uploads in memory, of whatever program: a row that was just made, and an upload laid into it. -/
namespace Go.Proofs.YtdclmpdjjkjfjaaGreatDoor
open Go.RowKit

/-- an upload that is nothing -/
def zUp : Sp.Up := ⟨0, 0, ⟨#[]⟩, [], 0⟩
theorem upV_zeros (n : Nat) : (madeCells #[.int .i64 0, .int .i64 0, .string ⟨#[]⟩, .slice none 0 0, .int .i64 0] (n * 5)).toList = upV (List.replicate n (zUp, ⟨none, 0⟩)) := by
  refine List.ext_getElem? fun j => ?_
  by_cases hj : j < n * 5
  · have hm : j = (j / 5) * 5 + j % 5 := by omega
    have hd : j / 5 < n := by omega
    have hr : j % 5 < 5 := Nat.mod_lt _ (by decide)
    have h2 := upV_at (List.replicate n (zUp, ⟨none, 0⟩)) (j / 5) (by simpa using hd) (j % 5) hr
    rw [← hm] at h2
    rw [h2, Array.getElem?_toList]
    have e5 : (#[Value.int .i64 0, .int .i64 0, .string ⟨#[]⟩, .slice none 0 0, .int .i64 0] : Array Value).size = 5 := rfl
    simp only [madeCells, Array.getElem?_map, List.getElem_replicate]
    rw [Array.getElem?_range, if_pos hj, e5, Option.map_some]
    clear h2 hm
    generalize j % 5 = r at hr ⊢
    match r, hr with
    | 0, _ => rfl
    | 1, _ => rfl
    | 2, _ => rfl
    | 3, _ => rfl
    | 4, _ => rfl
  · rw [List.getElem?_eq_none (by simp [madeCells]; omega), List.getElem?_eq_none (by rw [upV_length, List.length_replicate]; omega)]
theorem upV_put5 : ∀ (us : List (Sp.Up × UpS)) (i : Nat) (_ : i < us.length) (x : Sp.Up × UpS), (((((upV us).set (i * 5) (.int .i64 x.1.id)).set (i * 5 + 1) (.int .i64 x.1.size)).set (i * 5 + 2) (.string x.1.note)).set (i * 5 + 3) (.slice x.2.bo x.1.bytes.length x.2.bcap)).set (i * 5 + 4) (.int .i64 x.1.sent) = upV (us.set i x)
  | p :: t, 0, _, x => rfl
  | p :: t, i + 1, hi, x => by
    have ih := upV_put5 t i (by simpa using hi) x
    have e : ∀ (a : List Value) (k : Nat) (v : Value), (upC p.1 p.2 ++ a).set ((i + 1) * 5 + k) v = upC p.1 p.2 ++ a.set (i * 5 + k) v := fun a k v => by
      rw [List.set_append_right _ _ (by rw [show (upC p.1 p.2).length = 5 from rfl]; omega), show (upC p.1 p.2).length = 5 from rfl, show (i + 1) * 5 + k - 5 = i * 5 + k by omega]
    have e0 : ∀ (a : List Value) (v : Value), (upC p.1 p.2 ++ a).set ((i + 1) * 5) v = upC p.1 p.2 ++ a.set (i * 5) v := fun a v => e a 0 v
    show (((((upC p.1 p.2 ++ upV t).set ((i + 1) * 5) _).set _ _).set _ _).set _ _).set _ _ = upC p.1 p.2 ++ upV (t.set i x)
    rw [e0, e, e, e, e, ih]
section
variable {w w' : World} {S N : Nat → Prop} {tU tB g cap n : Nat} {l : List Sp.Up}
theorem UpO.zeros (h : OwnV w 0 tU 5 (some ⟨g, 0, none⟩) cap n (upV (List.replicate n (zUp, ⟨none, 0⟩)))) (hS : S g) : UpO w S tU tB (some ⟨g, 0, none⟩) cap (List.replicate n zUp) := by
  refine ⟨List.replicate n (zUp, ⟨none, 0⟩), by simp, by rw [List.length_replicate]; exact h, fun a e => by injection e with e; subst e; exact hS, fun x hx => ?_, fun i j x y hx hy _ k kx => ?_⟩
  · rw [List.eq_of_mem_replicate hx]; exact GrowB.nil _ _ _
  · rw [List.eq_of_mem_replicate (List.mem_of_getElem? hx)] at kx
    simp [upBlk, blkB, zUp] at kx
/-- an upload laid into its place, its bytes apart -/
theorem UpO.put5 {i : Nat} {u : Sp.Up} {bo : Option Addr} {bcap bn : Nat} (h : UpO w S tU tB (some ⟨g, 0, none⟩) cap l) (hi : i < l.length) (hB : GrowB w N tB bo bcap u.bytes) (hN : ∀ k, N k → ¬ S k) (hbn : bn = u.bytes.length) :
    UpO (((((w.setCell ⟨g, i * 5, none⟩ (.int .i64 u.id)).setCell ⟨g, i * 5 + 1, none⟩ (.int .i64 u.size)).setCell ⟨g, i * 5 + 2, none⟩ (.string u.note)).setCell ⟨g, i * 5 + 3, none⟩ (.slice bo bn bcap)).setCell ⟨g, i * 5 + 4, none⟩ (.int .i64 u.sent)) (fun k => S k ∨ N k) tU tB (some ⟨g, 0, none⟩) cap (l.set i u) ∧
    Turns (fun k => k = g) w (((((w.setCell ⟨g, i * 5, none⟩ (.int .i64 u.id)).setCell ⟨g, i * 5 + 1, none⟩ (.int .i64 u.size)).setCell ⟨g, i * 5 + 2, none⟩ (.string u.note)).setCell ⟨g, i * 5 + 3, none⟩ (.slice bo bn bcap)).setCell ⟨g, i * 5 + 4, none⟩ (.int .i64 u.sent)) := by
  subst hbn
  obtain ⟨us, rfl, h2, h3, h4, h5⟩ := h
  have hi' : i < us.length := by simpa using hi
  have hT := turns_setCells g [.int .i64 u.id, .int .i64 u.size, .string u.note, .slice bo u.bytes.length bcap, .int .i64 u.sent] (i * 5) w
  have hO := (World.ownsRow.stored (World.ownsRow.stored (World.ownsRow.stored (World.ownsRow.stored (World.ownsRow.stored h2 (i * 5) (.int .i64 u.id)).1 (i * 5 + 1) (.int .i64 u.size)).1 (i * 5 + 2) (.string u.note)).1 (i * 5 + 3) (.slice bo u.bytes.length bcap)).1 (i * 5 + 4) (.int .i64 u.sent)).1
  have hp := upV_put5 us i hi' (u, ⟨bo, bcap⟩)
  simp only at hp
  rw [hp] at hO
  refine ⟨⟨us.set i (u, ⟨bo, bcap⟩), by rw [List.map_set], by rw [List.length_set]; exact hO, fun a e => Or.inl (h3 a e), fun x hx => ?_, h5.set i fun j y hy _ k ky kx => ?_⟩, hT⟩
  · have hSg := h3 _ rfl
    rcases List.mem_or_eq_of_mem_set hx with hx | hx
    · exact (h4 x hx).over hT (fun k e _ _ => ⟨fun e2 => e.2 (by subst e2; rfl), Or.inl e.1, e.2⟩)
    · subst hx
      exact hB.over hT (fun k e _ _ => ⟨fun e2 => hN k e (by subst e2; exact hSg), Or.inr e, fun e2 => hN k e (by injection e2 with e2; subst e2; exact hSg)⟩)
  · exact hN k (hB.blk kx).1 ((h4 y (List.mem_of_getElem? hy)).blk ky).1.1
end
theorem laid_next (l : List Sp.Up) (k : Nat) (hk : k < l.length) : (l.take k ++ List.replicate (l.length - k) zUp).set k l[k] = l.take (k + 1) ++ List.replicate (l.length - (k + 1)) zUp := by
  have e : l.length - k = (l.length - (k + 1)) + 1 := by omega
  have hlen : (l.take k).length = k := by rw [List.length_take]; omega
  rw [e, List.replicate_succ, List.set_append_right _ _ (by omega), hlen, Nat.sub_self, List.set_cons_zero, List.take_succ_eq_append_getElem hk, List.append_assoc]
  rfl
end Go.Proofs.YtdclmpdjjkjfjaaGreatDoor

/- Bytes that a law gathers, of each number: a row of slices, each of which may grow, apart from all else; of whatever program. -/
namespace Go.Proofs.YtdclmpdjjkjfjaaGreatDoor
open Go.RowKit

/-- bytes, and where they lie -/
abbrev Bx := List UInt8 × Option Addr × Nat
def bxC (x : Bx) : Value := .slice x.2.1 x.1.length x.2.2
def bxBlk (x : Bx) : Option Nat := blkB x.1 x.2.1
/-- no two of them lie in one block -/
def BxApart (xs : List Bx) : Prop := ∀ (i j : Nat) (x y : Bx), xs[i]? = some x → xs[j]? = some y → i ≠ j → ∀ k, bxBlk x = some k → bxBlk y ≠ some k
/-- a row of bytes at block g, each apart, all of it among the blocks S -/
def BxO (w : World) (S : Nat → Prop) (tL tB g : Nat) (l : List (List UInt8)) : Prop :=
  ∃ xs : List Bx, xs.map (·.1) = l ∧ w.heap[g]? = some (.cells (xs.map bxC).toArray tL (0, 0)) ∧ S g ∧ (∀ x ∈ xs, GrowB w (fun k => S k ∧ k ≠ g) tB x.2.1 x.2.2 x.1) ∧ BxApart xs
section
variable {w w' : World} {S S' : Nat → Prop} {tL tB g : Nat} {l : List (List UInt8)}
theorem BxO.made (w : World) (tL tB n : Nat) : BxO (w.alloc (.cells (Array.replicate n (.slice none 0 0)) tL)) (fun k => w.heap.size ≤ k) tL tB w.heap.size (List.replicate n []) := by
  refine ⟨List.replicate n ([], none, 0), by simp, ?_, Nat.le_refl _, fun x hx => ?_, fun i j x y hx hy _ k kx => ?_⟩
  · rw [heap_alloc_new]
    simp [bxC]
  · rw [(List.mem_replicate.1 hx).2]; exact GrowB.nil _ _ _
  · have := List.mem_of_getElem? hx
    rw [(List.mem_replicate.1 this).2] at kx
    unfold bxBlk blkB at kx
    simp at kx
theorem BxO.turns (h : BxO w S tL tB g l) (ht : Turns S' w w') (hs : ∀ k, S k → ¬ S' k) : BxO w' S tL tB g l := by
  obtain ⟨xs, h1, h2, h3, h4, h5⟩ := h
  exact ⟨xs, h1, ht.row h2 (hs g h3), h3, fun x hx => (h4 x hx).turns ht (fun k e => hs k e.1), h5⟩
theorem BxO.stay (h : BxO w S tL tB g l) (hb : Below w.heap.size w w') : BxO w' S tL tB g l := h.turns (Turns.of_below (S := fun _ => False) hb) (fun _ _ e => e)
theorem BxO.mono (h : BxO w S tL tB g l) (hs : ∀ k, k < w.heap.size → S k → S' k) : BxO w S' tL tB g l := by
  obtain ⟨xs, h1, h2, h3, h4, h5⟩ := h
  exact ⟨xs, h1, h2, hs g (Array.getElem?_eq_some_iff.1 h2).1 h3, fun x hx => (h4 x hx).mono (fun k hk e => ⟨hs k hk e.1, e.2⟩), h5⟩
theorem BxO.lt (h : BxO w S tL tB g l) : g < w.heap.size := by
  obtain ⟨xs, h1, h2, h3, h4, h5⟩ := h
  exact (Array.getElem?_eq_some_iff.1 h2).1
/-- the bytes of a number -/
theorem BxO.at_ (h : BxO w S tL tB g l) (i : Nat) (hi : i < l.length) : ∃ (bo : Option Addr) (bc : Nat), w.cell? ⟨g, i, none⟩ = some (.slice bo l[i].length bc) ∧ w.frozen? ⟨g, i, none⟩ = false ∧ IsB w bo bc l[i] ∧ GrowB w (fun k => S k ∧ k ≠ g) tB bo bc l[i] ∧
    ∀ (bo' : Option Addr) (bc' n : Nat) (w' : World) (b : List UInt8), b.length = n → GrowB w' (fun k => blkB l[i] bo = some k ∨ w.heap.size ≤ k) tB bo' bc' b → Turns (fun k => blkB l[i] bo = some k) w w' →
      w'.cell? ⟨g, i, none⟩ = some (.slice bo l[i].length bc) ∧ w'.frozen? ⟨g, i, none⟩ = false ∧ BxO (w'.setCell ⟨g, i, none⟩ (.slice bo' n bc')) (orNew S w) tL tB g (l.set i b) ∧ Turns S w (w'.setCell ⟨g, i, none⟩ (.slice bo' n bc')) := by
  obtain ⟨xs, rfl, h2, h3, h4, h5⟩ := h
  have hi' : i < xs.length := by simpa using hi
  have hx := h4 _ (List.getElem_mem hi')
  have hg := (Array.getElem?_eq_some_iff.1 h2).1
  have cellOf : ∀ {W : World}, W.heap[g]? = some (.cells (xs.map bxC).toArray tL (0, 0)) → W.cell? ⟨g, i, none⟩ = some (.slice xs[i].2.1 xs[i].1.length xs[i].2.2) := fun {W} hr => by
    refine (cell_of_row W g i _ _ _ hr).trans ?_
    rw [List.getElem?_toArray, List.getElem?_map, List.getElem?_eq_getElem hi']
    rfl
  have e1 : (xs.map (·.1))[i] = xs[i].1 := by simp
  rw [e1]
  refine ⟨xs[i].2.1, xs[i].2.2, cellOf h2, frozen_of_row w g i _ _ h2, hx.isB, hx, fun bo' bc' n w' b hn hG hT => ?_⟩
  subst hn
  have hblk : ∀ k, blkB xs[i].1 xs[i].2.1 = some k → S k ∧ k ≠ g ∧ k < w.heap.size := fun k e => ⟨(hx.blk e).1.1, (hx.blk e).1.2, (hx.blk e).2⟩
  have hr' := hT.row h2 (fun e => (hblk g e).2.1 rfl)
  have hS2 : Turns (fun k => k = g) w' (w'.setCell ⟨g, i, none⟩ (.slice bo' b.length bc')) := Turns.setCell (fun k => k = g) w' _ _ rfl
  refine ⟨cellOf hr', frozen_of_row w' g i _ _ hr', ⟨xs.set i (b, bo', bc'), ?_, ?_, Or.inl h3, fun x hx2 => ?_, ?_⟩, ?_⟩
  · rw [List.map_set]
  · rw [heap_setCell_same w' g i _ _ _ hr']
    congr 2
    rw [List.map_set]
    apply Array.ext'
    simp [bxC]
  · obtain ⟨j, hj, rfl⟩ := List.getElem_of_mem hx2
    rw [List.getElem_set]
    split
    · refine hG.over hS2 (fun k e _ _ => ?_)
      rcases e with e | e
      · exact ⟨fun e2 => (hblk k e).2.1 e2, Or.inl (hblk k e).1, (hblk k e).2.1⟩
      · exact ⟨fun e2 => by omega, Or.inr e, by omega⟩
    · rename_i hne
      have hjl : j < xs.length := by simpa using hj
      have hy := h4 _ (List.getElem_mem hjl)
      refine (hy.over hT (S' := fun k => S k ∧ k ≠ g) (fun k e eb _ => ⟨fun e2 => ?_, e⟩)).over hS2 (fun k e _ _ => ⟨fun e2 => e.2 e2, Or.inl e.1, e.2⟩)
      exact h5 i j xs[i] xs[j] (List.getElem?_eq_getElem hi') (List.getElem?_eq_getElem hjl) hne k e2 eb
  · intro a c p q ha hc hac k kp kq
    rw [List.getElem?_set] at ha hc
    have far : ∀ (j : Nat) (y : Bx), xs[j]? = some y → j ≠ i → bxBlk y = some k → blkB b bo' = some k → False := fun j y hy hji ky kb => by
      have hyg := (h4 y (List.mem_of_getElem? hy)).blk ky
      rcases (hG.blk kb).1 with e | e
      · exact h5 i j xs[i] y (List.getElem?_eq_getElem hi') hy (fun e => hji e.symm) k e ky
      · omega
    split at ha
    · rename_i e1
      split at hc
      · omega
      · rename_i e2
        injection ha with ha; subst ha
        exact far c q hc (fun e => e2 e.symm) kq kp
    · rename_i e1
      split at hc
      · injection hc with hc; subst hc
        exact far a p ha (fun e => e1 e.symm) kp kq
      · exact h5 a c p q ha hc hac k kp kq
  · exact (hT.mono (S' := S) (fun k e => (hblk k e).1)).trans hS2 (fun k e _ => by rw [e]; exact h3)
end
end Go.Proofs.YtdclmpdjjkjfjaaGreatDoor
