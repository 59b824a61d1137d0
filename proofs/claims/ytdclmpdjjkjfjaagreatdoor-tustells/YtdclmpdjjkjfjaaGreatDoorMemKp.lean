/- What append makes of bytes of the call's own; and what it leaves of the slice that it was given: it reads as it read; of whatever program. -/
import Derived.Test.YtdclmpdjjkjfjaaGreatDoorPk4
import Derived.Test.YtdclmpdjjkjfjaaGreatDoorPk9
namespace Go.Proofs.YtdclmpdjjkjfjaaGreatDoor
open Go.RowKit

theorem run_append_keep {P : Program} (w : World) (base : Nat) (t ty e : TypeId) (i : TypeInfo) (ht : P.underlying t = some (.slice e)) (hi : P.info? e = some i) (hz : i.zero = some (.int .u8 0)) (hz1 : i.size = 1) (hz2 : i.bytes = 1)
    {ao : Option Addr} {cap n : Nat} {l : List UInt8} (hn : l.length = n) (hown : OwnB w base e ao cap l) {ao2 : Option Addr} {cap2 n2 : Nat} {l2 : List UInt8} (hn2 : l2.length = n2) (hsrc : IsB w ao2 cap2 l2) (hlen : n + n2 ≤ 140737488355328) (hbase : base ≤ w.heap.size) :
    ∃ ao' cap' w', (Builtin.append_ #[t, t] ty #[.slice ao n cap, .slice ao2 n2 cap2]).run P w = .ok (.slice ao' (n + n2) cap') w' ∧ OwnB w' base e ao' cap' (l ++ l2) ∧ w.grownBy w' (blockOf ao) ∧ IsB w' ao cap l := by
  obtain ⟨ao', cap', w', hr, hO, hG⟩ := run_append_bb (P := P) (w := w) base t ty e i ht hi hz hz1 hz2 hn hown hn2 hsrc hlen hbase
  refine ⟨ao', cap', w', hr, hO, hG, ?_⟩
  subst hn; subst hn2
  by_cases hl : l = []
  · subst hl; exact IsB.empty w' hown.isB
  · by_cases h2 : l2.length = 0
    · have hl2 : l2 = [] := List.eq_nil_of_length_eq_zero h2
      subst hl2
      have := run_append_nothing (P := P) w t ty e i ht hi ao ao2 l.length cap cap2 hown.isB.1
      rw [show ([] : List UInt8).length = 0 from rfl, this] at hr
      injection hr with _ hw
      subst hw; exact hown.isB
    · obtain ⟨a2, rfl⟩ := hsrc.some (by omega)
      have hcell : ∀ j u, (byteV l2)[j]? = some u → w.cell? (a2.add j) = some u := fun j u hu => by
        have hj : j < l2.length := by
          have := (List.getElem?_eq_some_iff.1 hu).1
          rwa [byteV_length] at this
        rw [byteV_at l2 j hj] at hu
        injection hu with hu; subst hu
        exact hsrc.cell j hj
      have hS : Src P i.size t (.slice (some a2) l2.length cap2) l2.length (byteV l2) w := by rw [hz1]; exact Src.ofSlice _ ht a2 _ cap2 _ (by rw [byteV_length]; omega) hcell (byteV_one l2)
      obtain ⟨g, rfl, _, _⟩ := hown.head (List.length_pos_iff.2 hl)
      by_cases hroom : l.length + l2.length ≤ cap
      · have hrow : ∃ cur, w.heap[g]? = some (.cells cur e (0, 0)) ∧ cur.size = cap := by
          rcases hown.2 with ⟨e1, _⟩ | ⟨g', cap', cur, e1, _, hh, _, _, hs, _⟩
          · cases e1
          · injection e1 with e1 _ e3; injection e1 with e1; injection e1 with e1 _ _
            subst e1; subst e3
            exact ⟨cur, hh, by rw [hs]; omega⟩
        obtain ⟨cur, hcur, hsz⟩ := hrow
        have := run_append_room_src (P := P) w t t ty e i ht hi g 0 l.length cap (.slice (some a2) l2.length cap2) l2.length (byteV l2) hS hroom (fun j hj => by
          rw [byteV_length] at hj
          rw [cell_of_row w g _ cur e _ hcur, hz1, Array.getElem?_eq_getElem (by omega)]; rfl) (fun j _ => frozen_of_row w g _ cur e hcur)
        rw [this] at hr
        injection hr with hv _
        injection hv with hv _ hc
        subst hv; subst hc
        have := hO.isB.first l.length (by rw [List.length_append]; omega)
        rwa [List.take_left] at this
      · have hold : (Builtin.firstCells i.size l.length (.slice (some ⟨g, 0, none⟩) l.length cap)).run P w.drew = .ok (byteV l).toArray w.drew := by
          rw [hz1]
          exact run_firstCells_some w.drew 1 l.length ⟨g, 0, none⟩ l.length cap (byteV l) (by rw [byteV_length]; omega) (fun j u hu => by
            have hj : j < l.length := by
              have := (List.getElem?_eq_some_iff.1 hu).1
              rwa [byteV_length] at this
            rw [byteV_at l j hj] at hu
            injection hu with hu; subst hu
            exact hown.isB.cell j hj)
        have := run_append_grow_src (P := P) w t t ty e i (.int .u8 0) ht hi hz (some ⟨g, 0, none⟩) l.length cap (byteV l) hold (.slice (some a2) l2.length cap2) l2.length (byteV l2) hS (by omega) (by omega) (by rw [hz2]; exact growslice_fits (by omega) (by omega))
        rw [this] at hr
        injection hr with _ hw
        subst hw
        exact hown.isB.stay ((below_drew _ w).alloc (Nat.le_refl _) _)
theorem wpList_append_keep {P : Program} {w : World} {ops : Array Oper} {rest : List Oper} {o : Oper} {a : Act} {Q : Exit → Act → World → Prop} (hgd : o.guard = none) (s x : Operand) (t : TypeId)
    (ho : o.op = .call { callee := .builtin .append, args := #[s, x], argTypes := #[t, t] })
    (base : Nat) (e : TypeId) (i : TypeInfo) (ht : P.underlying t = some (.slice e)) (hi : P.info? e = some i) (hz : i.zero = some (.int .u8 0)) (hz1 : i.size = 1) (hz2 : i.bytes = 1)
    {ao : Option Addr} {cap n : Nat} {l : List UInt8} (hs : a.eval s = .slice ao n cap) (hn : l.length = n) (hown : OwnB w base e ao cap l) {ao2 : Option Addr} {cap2 n2 : Nat} {l2 : List UInt8} (hx : a.eval x = .slice ao2 n2 cap2) (hn2 : l2.length = n2) (hsrc : IsB w ao2 cap2 l2) (hlen : n + n2 ≤ 140737488355328) (hbase : base ≤ w.heap.size)
    (h : ∀ ao' cap' w', OwnB w' base e ao' cap' (l ++ l2) → w.grownBy w' (blockOf ao) → IsB w' ao cap l → wpList P ops Q rest (a.put o.dst (.slice ao' (n + n2) cap')) w') : wpList P ops Q (o :: rest) a w := by
  refine wpList_plain hgd fun K hK => ?_
  obtain ⟨ao', cap', w', hr, h2, h3, h4⟩ := run_append_keep (P := P) w base t o.type e i ht hi hz hz1 hz2 hn hown hn2 hsrc hlen hbase
  unfold Oper.wp execOp
  simp only [ho, resolve, invoke, builtin, Sem.run_bind, Sem.run_pure, Result.andThen_ok, List.map_toArray, List.map_cons, List.map_nil, hs, hx, hr]
  exact hK _ _ (h ao' cap' w' h2 h3 h4)
end Go.Proofs.YtdclmpdjjkjfjaaGreatDoor
