/- 'append(b, s...)', b bytes of the call's own, s a text; of whatever program. -/
import Derived.Test.YtankilclhknbkaaMemV
import Derived.Lib.AppendStr
namespace Go.Proofs.Ytankilclhknbkaa
open Go.RowKit

theorem strCells_eq (s : ByteArray) : Lib.strCells s = byteV s.data.toList := rfl
theorem wpList_append_s {P : Program} {w : World} {ops : Array Oper} {rest : List Oper} {o : Oper} {a : Act} {Q : Exit → Act → World → Prop} (hgd : o.guard = none) (s x : Operand) (t u : TypeId)
    (ho : o.op = .call { callee := .builtin .append, args := #[s, x], argTypes := #[t, u] })
    (base : Nat) (e : TypeId) (i : TypeInfo) (ht : P.underlying t = some (.slice e)) (hu : P.underlying u = some .string) (hi : P.info? e = some i) (hz : i.zero = some (.int .u8 0)) (hz1 : i.size = 1) (hz2 : i.bytes = 1)
    {ao : Option Addr} {cap n : Nat} {l : List UInt8} (hs : a.eval s = .slice ao n cap) (hn : l.length = n) (hown : OwnB w base e ao cap l) (str : ByteArray) (hx : a.eval x = .string str)
    (hlen : n + str.size ≤ 140737488355328) (hbase : base ≤ w.heap.size)
    (h : ∀ ao' cap' w', OwnB w' base e ao' cap' (l ++ str.data.toList) → w.grownBy w' (blockOf ao) → wpList P ops Q rest (a.put o.dst (.slice ao' (n + str.size) cap')) w') : wpList P ops Q (o :: rest) a w := by
  subst hn
  refine Lib.wpList_append_own_string w hgd s x t u ho base e i ht hu hi hz hz1 hz2 _ l.length (byteV l) hs hown str hx (by unfold maxLen; omega) hlen hbase ?_
  intro v' w' hown' hg _
  rw [strCells_eq, ← byteV_append] at hown'
  have hsz : str.data.toList.length = str.size := by rw [Array.length_toList]; rfl
  obtain ⟨ao', cap', rfl, hB⟩ := OwnB.of (by rw [List.length_append, hsz]) hown'
  rw [ownBlock_slice] at hg
  have := h ao' cap' w' hB hg
  rw [List.length_append, hsz]
  exact this
/-- an append to what lies from base on turns nothing below it -/
theorem grown_base {w w' : World} {base t : Nat} {ao : Option Addr} {cap : Nat} {l : List UInt8} (hown : OwnB w base t ao cap l) (hg : w.grownBy w' (blockOf ao)) (hb : base ≤ w.heap.size) : Below base w w' :=
  ⟨hg.os, hg.tape, hg.output, hg.size, fun k hk => hg.block k (by omega) (fun e => by
    cases ao with
    | none => cases e
    | some a => injection e with e; have := (hown.block a rfl).1; omega)⟩
end Go.Proofs.Ytankilclhknbkaa
