/- Small texts, one behind the other: MemS, MemBS. -/
import Derived.Test.YtdclmpdjjkjfjaaGreatDoorPk3
import Derived.Lib.AppendStr
/- 'append(b, s...)', b bytes of the call's own, s a text; of whatever program. -/
namespace Go.Proofs.YtdclmpdjjkjfjaaGreatDoor
open Go.RowKit

theorem strCells_eq (s : ByteArray) : Lib.strCells s = byteV s.data.toList := rfl
theorem wpList_append_s {P : Program} {w : World} {ops : Array Oper} {rest : List Oper} {o : Oper} {a : Act} {Q : Exit → Act → World → Prop} (hgd : o.guard = none) (s x : Operand) (t u : TypeId)
    (ho : o.op = .call { callee := .builtin .append, args := #[s, x], argTypes := #[t, u] })
    (base : Nat) (e : TypeId) (i : TypeInfo) (ht : P.underlying t = some (.slice e)) (hu : P.underlying u = some .string) (hi : P.info? e = some i) (hz : i.zero = some (.int .u8 0)) (hz1 : i.size = 1) (hz2 : i.bytes = 1)
    {ao : Option Addr} {cap n : Nat} {l : List UInt8} (hs : a.eval s = .slice ao n cap) (hn : l.length = n) (hown : OwnB w base e ao cap l) (str : ByteArray) (hx : a.eval x = .string str)
    (hlen : n + str.size ≤ 140737488355328) (hbase : base ≤ w.heap.size)
    (h : ∀ ao' cap' w', OwnB w' base e ao' cap' (l ++ str.data.toList) → w.grownBy w' (blockOf ao) → wpList P ops Q rest (a.put o.dst (.slice ao' (n + str.size) cap')) w') : wpList P ops Q (o :: rest) a w := by
  subst hn
  refine Lib.wpList_append_own_string w hgd s x t u ho base e i ht hu hi hz hz1 hz2 _ l.length (byteV l) hs hown str hx (by unfold maxLen; omega) hlen hbase ?_
  intro v' w' hown' hg _
  rw [strCells_eq, ← byteV_append] at hown'
  have hsz : str.data.toList.length = str.size := by rw [Array.length_toList]; rfl
  obtain ⟨ao', cap', rfl, hB⟩ := OwnB.of (by rw [List.length_append, hsz]) hown'
  rw [ownBlock_slice] at hg
  have := h ao' cap' w' hB hg
  rw [List.length_append, hsz]
  exact this
/-- an append to what lies from base on turns nothing below it -/
theorem grown_base {w w' : World} {base t : Nat} {ao : Option Addr} {cap : Nat} {l : List UInt8} (hown : OwnB w base t ao cap l) (hg : w.grownBy w' (blockOf ao)) (hb : base ≤ w.heap.size) : Below base w w' :=
  ⟨hg.os, hg.tape, hg.output, hg.size, fun k hk => hg.block k (by omega) (fun e => by
    cases ao with
    | none => cases e
    | some a => injection e with e; have := (hown.block a rfl).1; omega)⟩
end Go.Proofs.YtdclmpdjjkjfjaaGreatDoor

/- What append makes of bytes of the call's own, and of bytes or a text, none too, at a step of a region that draws its order; of whatever program. -/
namespace Go.Proofs.YtdclmpdjjkjfjaaGreatDoor
open Go.RowKit
section
variable {P : Program} {w : World} {ops : Array Oper} {o : Oper} {a : Act} {K : Act → World → Prop} {Q : Exit → Act → World → Prop} {E : Prop}
theorem run_append_bb (base : Nat) (t ty e : TypeId) (i : TypeInfo) (ht : P.underlying t = some (.slice e)) (hi : P.info? e = some i) (hz : i.zero = some (.int .u8 0)) (hz1 : i.size = 1) (hz2 : i.bytes = 1)
    {ao : Option Addr} {cap n : Nat} {l : List UInt8} (hn : l.length = n) (hown : OwnB w base e ao cap l) {ao2 : Option Addr} {cap2 n2 : Nat} {l2 : List UInt8} (hn2 : l2.length = n2) (hsrc : IsB w ao2 cap2 l2) (hlen : n + n2 ≤ 140737488355328) (hbase : base ≤ w.heap.size) :
    ∃ ao' cap' w', (Builtin.append_ #[t, t] ty #[.slice ao n cap, .slice ao2 n2 cap2]).run P w = .ok (.slice ao' (n + n2) cap') w' ∧ OwnB w' base e ao' cap' (l ++ l2) ∧ w.grownBy w' (blockOf ao) := by
  subst hn; subst hn2
  cases ao2 with
  | none =>
    obtain ⟨rfl, rfl⟩ := hsrc.none_nil
    refine ⟨ao, cap, w, ?_, by rw [List.append_nil]; exact hown, ⟨rfl, rfl, rfl, Nat.le_refl _, fun _ _ _ => rfl⟩⟩
    have hc := hown.isB.1
    cases ao <;> simp [Builtin.append_, run_underlying ht, sizeOf, typeInfo, hi, Builtin.lenOf, Builtin.firstCells, loadCells, storeCells, hc]
  | some ad =>
    obtain ⟨v', w', hr, hO, hG, _, _⟩ := run_append_own_at (P := P) w base t ty e i (.int .u8 0) 1 1 ht hi hz hz1 hz2 rfl (by decide) _ l.length (byteV l) hown ad l2.length cap2 (byteV l2) (by rw [byteV_length]; omega) (fun j u hu => by
      have hj : j < l2.length := by
        have := (List.getElem?_eq_some_iff.1 hu).1
        rwa [byteV_length] at this
      rw [byteV_at l2 j hj] at hu
      injection hu with hu; subst hu
      exact hsrc.cell j hj) (byteV_one l2) (by unfold maxLen; omega) (by omega) hbase
    rw [← byteV_append] at hO
    obtain ⟨ao', cap', rfl, hB⟩ := OwnB.of (by simp) hO
    rw [ownBlock_slice] at hG
    exact ⟨ao', cap', w', by rw [← List.length_append]; exact hr, hB, hG⟩
theorem step_append_bb (hgd : o.guard = none) (s x : Operand) (t : TypeId) (ho : o.op = .call { callee := .builtin .append, args := #[s, x], argTypes := #[t, t] })
    (base : Nat) (e : TypeId) (i : TypeInfo) (ht : P.underlying t = some (.slice e)) (hi : P.info? e = some i) (hz : i.zero = some (.int .u8 0)) (hz1 : i.size = 1) (hz2 : i.bytes = 1)
    {ao : Option Addr} {cap n : Nat} {l : List UInt8} (hs : a.eval s = .slice ao n cap) (hn : l.length = n) (hown : OwnB w base e ao cap l) {ao2 : Option Addr} {cap2 n2 : Nat} {l2 : List UInt8} (hx : a.eval x = .slice ao2 n2 cap2) (hn2 : l2.length = n2) (hsrc : IsB w ao2 cap2 l2) (hlen : n + n2 ≤ 140737488355328) (hbase : base ≤ w.heap.size)
    (h : ∀ ao' cap' w', OwnB w' base e ao' cap' (l ++ l2) → w.grownBy w' (blockOf ao) → K (a.put o.dst (.slice ao' (n + n2) cap')) w') :
    if Region.wanted o (yielded ops a.tmps) = true then Oper.wp P o a w K Q else E := by
  have hw : Region.wanted o (yielded ops a.tmps) = true := by simp [Region.wanted, hgd]
  rw [if_pos hw]
  obtain ⟨ao', cap', w', hr, h2, h3⟩ := run_append_bb (P := P) base t o.type e i ht hi hz hz1 hz2 hn hown hn2 hsrc hlen hbase
  unfold Oper.wp execOp
  simp only [ho, resolve, invoke, builtin, Sem.run_bind, Sem.run_pure, Result.andThen_ok, List.map_toArray, List.map_cons, List.map_nil, hs, hx, hr]
  exact h ao' cap' w' h2 h3
theorem step_append_ss (hgd : o.guard = none) (s x : Operand) (t u : TypeId) (ho : o.op = .call { callee := .builtin .append, args := #[s, x], argTypes := #[t, u] })
    (base : Nat) (e : TypeId) (i : TypeInfo) (ht : P.underlying t = some (.slice e)) (hu : P.underlying u = some .string) (hi : P.info? e = some i) (hz : i.zero = some (.int .u8 0)) (hz1 : i.size = 1) (hz2 : i.bytes = 1)
    {ao : Option Addr} {cap n : Nat} {l : List UInt8} (hs : a.eval s = .slice ao n cap) (hn : l.length = n) (hown : OwnB w base e ao cap l) (str : ByteArray) (k : Nat) (hk : str.size = k) (hx : a.eval x = .string str) (hlen : n + str.size ≤ 140737488355328) (hbase : base ≤ w.heap.size)
    (h : ∀ ao' cap' w', OwnB w' base e ao' cap' (l ++ str.data.toList) → w.grownBy w' (blockOf ao) → K (a.put o.dst (.slice ao' (n + k) cap')) w') :
    if Region.wanted o (yielded ops a.tmps) = true then Oper.wp P o a w K Q else E := by
  have hw : Region.wanted o (yielded ops a.tmps) = true := by simp [Region.wanted, hgd]
  rw [if_pos hw]
  subst hn; subst hk
  obtain ⟨v', w', hr, hO, hG, _⟩ := Lib.run_append_own_string (P := P) w base t u o.type e i ht hu hi hz hz1 hz2 (.slice ao l.length cap) l.length (byteV l) hown str (by unfold maxLen; omega) hlen hbase
  have hsz : str.data.toList.length = str.size := by rw [Array.length_toList]; rfl
  rw [strCells_eq, ← byteV_append] at hO
  obtain ⟨ao', cap', rfl, hB⟩ := OwnB.of (by rw [List.length_append, hsz]) hO
  rw [ownBlock_slice] at hG
  unfold Oper.wp execOp
  simp only [ho, resolve, invoke, builtin, Sem.run_bind, Sem.run_pure, Result.andThen_ok, List.map_toArray, List.map_cons, List.map_nil, hs, hx, hr]
  have := h ao' cap' w' hB hG
  rw [← hsz, ← List.length_append] at this
  exact this
end
end Go.Proofs.YtdclmpdjjkjfjaaGreatDoor
