/- What JournalTorn keeps: entries that were written, where each ended, and these entries as the document's own. -/
import Derived.Test.YtankilclhknbkaaJrBg
import Derived.Test.YtankilclhknbkaaJrO
import Derived.Test.YtankilclhknbkaaJrS
import Derived.Test.YtankilclhknbkaaRfEn
namespace Go.Proofs.Ytankilclhknbkaa
open Go.RowKit

/-- the entries among the first i that may be written -/
def kept (l : List Jn.E) (i : Nat) : List Jn.E := (l.take i).filter Jn.fits
theorem kept_fits (l : List Jn.E) (i : Nat) : ∀ e ∈ kept l i, Jn.fits e = true := fun _ he => (List.mem_filter.1 he).2
theorem kept_mem (l : List Jn.E) (i : Nat) : ∀ e ∈ kept l i, e ∈ l.take i := fun _ he => (List.mem_filter.1 he).1
theorem kept_yes (l : List Jn.E) (i : Nat) (hi : i < l.length) (h : Jn.fits l[i] = true) : kept l (i + 1) = kept l i ++ [l[i]] := by
  unfold kept; rw [List.take_succ_eq_append_getElem hi, List.filter_append, List.filter_cons_of_pos h]; rfl
theorem kept_no (l : List Jn.E) (i : Nat) (hi : i < l.length) (h : Jn.fits l[i] = false) : kept l (i + 1) = kept l i := by
  unfold kept; rw [List.take_succ_eq_append_getElem hi, List.filter_append, List.filter_cons_of_neg (by simp [h])]; simp
theorem kept_len (l : List Jn.E) (i : Nat) : (kept l i).length ≤ i := by
  unfold kept
  have := List.length_filter_le Jn.fits (l.take i)
  rw [List.length_take] at this; omega
/-- where they end, as cells -/
def endsV (es : List Jn.E) : List Value := (List.range es.length).map fun j => .int .i64 (Jn.endAt es j : Int)
theorem endsV_length (es : List Jn.E) : (endsV es).length = es.length := by simp [endsV]
theorem endsV_at (es : List Jn.E) (j : Nat) (h : j < es.length) : (endsV es)[j]? = some (.int .i64 (Jn.endAt es j : Int)) := by simp [endsV, h]
theorem endsV_push (es : List Jn.E) (e : Jn.E) : endsV (es ++ [e]) = endsV es ++ [.int .i64 ((Jn.all (es ++ [e])).length : Int)] := by
  unfold endsV
  rw [List.length_append, show ([e] : List Jn.E).length = 1 from rfl, List.range_succ, List.map_append]
  congr 1
  · refine List.map_congr_left fun j hj => ?_
    have hj' : j < es.length := List.mem_range.1 hj
    unfold Jn.endAt
    rw [List.take_append_of_le_length (by omega)]
  · simp only [List.map_cons, List.map_nil, Jn.endAt]
    rw [List.take_of_length_le (by simp)]
/-- entries in a row of the call's own whose texts were there before -/
def WtAt (w W : World) (tE : Nat) (ao : Option Addr) (cap : Nat) (es : List Jn.E) : Prop := ∃ us : List (Jn.E × EnS), us.map (·.1) = es ∧ OwnV W w.heap.size tE 4 ao cap es.length (enV us) ∧ ∀ x ∈ us, IsB w x.2.bo x.2.bcap x.1.text
theorem WtAt.isEns {w W : World} {tE : Nat} {ao : Option Addr} {cap : Nat} {es : List Jn.E} (h : WtAt w W tE ao cap es) (hb : Below w.heap.size w W) : IsEns W ao cap es := by
  obtain ⟨us, h1, h2, h3⟩ := h
  exact ⟨us, h1, h2.isV, fun x hx => (h3 x hx).stay hb⟩
theorem WtAt.stay {w W W' : World} {tE : Nat} {ao : Option Addr} {cap : Nat} {es : List Jn.E} (h : WtAt w W tE ao cap es) (hb : Below W.heap.size W W') : WtAt w W' tE ao cap es := by
  obtain ⟨us, h1, h2, h3⟩ := h
  exact ⟨us, h1, h2.stay hb, h3⟩
/-- the first of them -/
theorem IsEns.first {w : World} {ao : Option Addr} {cap : Nat} {l : List Jn.E} (h : IsEns w ao cap l) (k : Nat) (hk : k ≤ l.length) : IsEns w ao cap (l.take k) := by
  obtain ⟨us, rfl, h2, h3⟩ := h
  rw [List.length_map] at h2 hk
  refine ⟨us.take k, by rw [List.map_take], ⟨?_, h2.2.1, fun j u hj => ?_⟩, fun x hx => h3 x (List.mem_of_mem_take hx)⟩
  · rw [List.length_take, List.length_map]; have := h2.1; omega
  · have hlt : j < k * 4 := by
      have := (List.getElem?_eq_some_iff.1 hj).1
      rw [enV_length, List.length_take] at this; omega
    refine h2.2.2 j u ?_
    have e : enV us = enV (us.take k) ++ enV (us.drop k) := by rw [← enV_append, List.take_append_drop]
    rw [e, List.getElem?_append_left (by rw [enV_length, List.length_take]; omega)]
    exact hj
/-- rows of elements of different types lie apart -/
theorem own_apart {W : World} {b1 e1 s1 n1 b2 e2 s2 n2 : Nat} {a1 a2 : Option Addr} {c1 c2 : Nat} {x1 x2 : List Value} (h1 : W.ownsRow b1 e1 s1 (.slice a1 n1 c1) n1 x1) (h2 : W.ownsRow b2 e2 s2 (.slice a2 n2 c2) n2 x2) (hne : e1 ≠ e2) : ∀ a, a1 = some a → some a.block ≠ blockOf a2 := by
  intro a e e3
  subst e
  rcases h1.2 with ⟨h, _⟩ | ⟨g, cap, cur, h, _, hg, _⟩
  · cases h
  · injection h with h _ _
    injection h with h
    subst h
    have := row_ne hg h2 hne
    rw [ownBlock_slice] at this
    exact this e3.symm
/-- all that the law holds -/
structure TnAt (w : World) (es : List Jn.E) (a1 : Option Addr) (c1 m1 : Nat) (a2 : Option Addr) (c2 : Nat) (a3 : Option Addr) (c3 k : Nat) (W : World) : Prop where
  bytes : OwnB W w.heap.size 5 a1 c1 (Jn.all es)
  len : (Jn.all es).length = m1
  ends : OwnV W w.heap.size 3 1 a2 c2 k (endsV es)
  want : WtAt w W 29 a3 c3 es
  cnt : es.length = k
  below : Below w.heap.size w W
section
variable {w : World} {es : List Jn.E} {a1 : Option Addr} {c1 m1 : Nat} {a2 : Option Addr} {c2 : Nat} {a3 : Option Addr} {c3 k : Nat} {W W' : World}
theorem TnAt.stay (h : TnAt w es a1 c1 m1 a2 c2 a3 c3 k W) (hb : Below W.heap.size W W') : TnAt w es a1 c1 m1 a2 c2 a3 c3 k W' := ⟨h.bytes.stay hb, h.len, h.ends.stay hb, h.want.stay hb, h.cnt, then_ h.below hb⟩
theorem t_ne1 : (5 : Nat) ≠ 3 := by decide
theorem t_ne2 : (5 : Nat) ≠ 29 := by decide
theorem t_ne3 : (3 : Nat) ≠ 29 := by decide
/-- behind an append to the bytes -/
theorem TnAt.one (h : TnAt w es a1 c1 m1 a2 c2 a3 c3 k W) (hG : W.grownBy W' (blockOf a1)) : OwnV W' w.heap.size 3 1 a2 c2 k (endsV es) ∧ WtAt w W' 29 a3 c3 es ∧ Below w.heap.size w W' := by
  obtain ⟨us, u1, u2, u3⟩ := h.want
  refine ⟨h.ends.kept hG (own_apart h.ends h.bytes t_ne1.symm), ⟨us, u1, u2.kept hG (own_apart u2 h.bytes t_ne2.symm), u3⟩, h.below.trans (grown_base h.bytes hG h.below.size)⟩
end
/-- behind an append to the ends -/
theorem TnAt.two {w : World} {es : List Jn.E} {bs : List UInt8} {a1 a2 a3 : Option Addr} {c1 c2 c3 k : Nat} {xs : List Value} {W W' : World} (h1 : OwnB W w.heap.size 5 a1 c1 bs) (h2 : OwnV W w.heap.size 3 1 a2 c2 k xs) (h3 : WtAt w W 29 a3 c3 es) (hb : Below w.heap.size w W) (hG : W.grownBy W' (blockOf a2)) : OwnB W' w.heap.size 5 a1 c1 bs ∧ WtAt w W' 29 a3 c3 es ∧ Below w.heap.size w W' := by
  obtain ⟨us, u1, u2, u3⟩ := h3
  refine ⟨h1.kept hG (own_apart h1 h2 t_ne1), ⟨us, u1, u2.kept hG (own_apart u2 h2 t_ne3.symm), u3⟩, hb.trans ?_⟩
  refine ⟨hG.os, hG.tape, hG.output, hG.size, fun j hj => hG.block j (by have := hb.size; omega) (fun e => ?_)⟩
  cases a2 with
  | none => cases e
  | some a => injection e with e; have := (h2.block a rfl).1; omega
/-- behind an append to the entries -/
theorem TnAt.three {w : World} {es : List Jn.E} {e : Jn.E} {bs : List UInt8} {a1 a2 a3 a3' : Option Addr} {c1 c2 c3 c3' k : Nat} {ys : List Value} {us : List (Jn.E × EnS)} {s : EnS} {W W' : World} (h1 : OwnB W w.heap.size 5 a1 c1 bs) (h2 : OwnV W w.heap.size 3 1 a2 c2 k ys) (hu1 : us.map (·.1) = es) (hu2 : OwnV W w.heap.size 29 4 a3 c3 es.length (enV us)) (hu3 : ∀ x ∈ us, IsB w x.2.bo x.2.bcap x.1.text) (hs : IsB w s.bo s.bcap e.text) (hb : Below w.heap.size w W) (hO : OwnV W' w.heap.size 29 4 a3' c3' (es.length + 1) (enV us ++ enC e s)) (hG : W.grownBy W' (blockOf a3)) : OwnB W' w.heap.size 5 a1 c1 bs ∧ OwnV W' w.heap.size 3 1 a2 c2 k ys ∧ WtAt w W' 29 a3' c3' (es ++ [e]) ∧ Below w.heap.size w W' := by
  refine ⟨h1.kept hG (own_apart h1 hu2 t_ne2), h2.kept hG (own_apart h2 hu2 t_ne3), ⟨us ++ [(e, s)], by simp [hu1], by rw [enV_append, enV_one, List.length_append]; exact hO, fun x hx => ?_⟩, hb.trans ?_⟩
  · rcases List.mem_append.1 hx with hx | hx
    · exact hu3 x hx
    · rw [List.mem_singleton.1 hx]; exact hs
  · refine ⟨hG.os, hG.tape, hG.output, hG.size, fun j hj => hG.block j (by have := hb.size; omega) (fun e => ?_)⟩
    cases a3 with
    | none => cases e
    | some a => injection e with e; have := (hu2.block a rfl).1; omega
end Go.Proofs.Ytankilclhknbkaa
