/- What append makes of bytes of the call's own, at a step of a region that draws its order; of whatever program. -/
import Derived.Test.YtjpenioloeplgacGreatDoorPk4
import Derived.Deep.AppendLies
namespace Go.Proofs.YtjpenioloeplgacGreatDoor
open Go.RowKit

theorem step_append_b {P : Program} {w : World} {ops : Array Oper} {o : Oper} {a : Act} {K : Act → World → Prop} {Q : Exit → Act → World → Prop} {E : Prop} (hgd : o.guard = none) (s x : Operand) (t : TypeId)
    (ho : o.op = .call { callee := .builtin .append, args := #[s, x], argTypes := #[t, t] })
    (base : Nat) (e : TypeId) (i : TypeInfo) (ht : P.underlying t = some (.slice e)) (hi : P.info? e = some i) (hz : i.zero = some (.int .u8 0)) (hz1 : i.size = 1) (hz2 : i.bytes = 1)
    {ao : Option Addr} {cap n : Nat} {l : List UInt8} (hs : a.eval s = .slice ao n cap) (hn : l.length = n) (hown : OwnB w base e ao cap l)
    {ao2 : Option Addr} {cap2 n2 : Nat} {l2 : List UInt8} (hx : a.eval x = .slice ao2 n2 cap2) (hn2 : l2.length = n2) (hsrc : IsB w ao2 cap2 l2) (hpos : 0 < n2)
    (hlen : n + n2 ≤ 140737488355328) (hbase : base ≤ w.heap.size)
    (h : ∀ ao' cap' w', OwnB w' base e ao' cap' (l ++ l2) → w.grownBy w' (blockOf ao) → K (a.put o.dst (.slice ao' (n + n2) cap')) w') :
    if Region.wanted o (yielded ops a.tmps) = true then Oper.wp P o a w K Q else E := by
  subst hn; subst hn2
  obtain ⟨ad, rfl⟩ := hsrc.some hpos
  refine step_append_lies w hgd s x t ho base e i (.int .u8 0) 1 1 ht hi hz hz1 hz2 rfl (by decide) _ l.length (byteV l) hs hown ad l2.length cap2 (byteV l2) hx (by rw [byteV_length]; omega) (fun j u hu => ?_) (byteV_one l2) hpos (by unfold maxLen; omega) (by omega) hbase w.heap.size rfl ?_
  · have hj : j < l2.length := by
      have := (List.getElem?_eq_some_iff.1 hu).1
      rwa [byteV_length] at this
    rw [byteV_at l2 j hj] at hu
    injection hu with hu; subst hu
    exact hsrc.cell j hj
  · intro g cap' w' hown' hg _ _
    rw [← byteV_append] at hown'
    rw [ownBlock_slice] at hg
    refine h _ cap' w' ?_ hg
    unfold OwnB; rw [List.length_append]; exact hown'
end Go.Proofs.YtjpenioloeplgacGreatDoor
