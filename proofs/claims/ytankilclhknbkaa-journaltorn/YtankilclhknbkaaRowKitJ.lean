/- An entry of a log (three numbers and bytes), and a slice of such, as an argument is read. -/
import Derived.Test.YtankilclhknbkaaRowKitL
import Derived.Test.YtankilclhknbkaaRowKit0
import Derived.Test.YtankilclhknbkaaMemJ
namespace Go.Proofs.Ytankilclhknbkaa
open Go.ChangeShapes Go.WideShapes Go.ChangeAt Go.RowKit
section
variable {H : Type} {enc : TypeId × Value → H} {P : Program} {w : World} {base : Nat} {held : Bool}
theorem open_four {spare : Nat → Bool} {t : TypeId} {f0 f1 f2 f3 : Field} {fuel : Nat} {cs : List Value} {x : DataW H × List MemPlace} (ht : P.underlying t = some (.struct #[f0, f1, f2, f3])) (h : DataW.trod enc P w base spare held fuel t cs = some x) :
    ∃ y0 y1 y2 y3 n, x.1 = .agg [y0.1, y1.1, y2.1, y3.1] ∧ cs.length = P.cellsOf t ∧ DataW.trod enc P w base spare held n f0.type ((cs.drop f0.offset).take (P.cellsOf f0.type)) = some y0 ∧
      DataW.trod enc P w base spare held n f1.type ((cs.drop f1.offset).take (P.cellsOf f1.type)) = some y1 ∧ DataW.trod enc P w base spare held n f2.type ((cs.drop f2.offset).take (P.cellsOf f2.type)) = some y2 ∧
      DataW.trod enc P w base spare held n f3.type ((cs.drop f3.offset).take (P.cellsOf f3.type)) = some y3 := by
  obtain ⟨xs, n, _, rfl, hl, hlen, hf⟩ := DataW.trod_struct ht h
  match xs, hlen with
  | [y0, y1, y2, y3], _ => exact ⟨y0, y1, y2, y3, n, by simp, hl, by simpa using hf 0 f0 rfl, by simpa using hf 1 f1 rfl, by simpa using hf 2 f2 rfl, by simpa using hf 3 f3 rfl⟩
theorem open_entry {t i b u : TypeId} {f0 f1 f2 f3 : Field} {fuel : Nat} {cs : List Value} {d : DataW H} {p : List MemPlace}
    (ht : P.underlying t = some (.struct #[f0, f1, f2, f3])) (h0 : f0.type = i) (h1 : f1.type = i) (h2 : f2.type = i) (h3 : f3.type = b) (o0 : f0.offset = 0) (o1 : f1.offset = 1) (o2 : f2.offset = 2) (o3 : f3.offset = 3)
    (hi : P.underlying i = some (.int .i64)) (hb : P.underlying b = some (.slice u)) (hu : P.underlying u = some (.int .u8)) (hci : P.cellsOf i = 1) (hcb : P.cellsOf b = 1) (hcu : P.cellsOf u = 1) (hct : P.cellsOf t = 4)
    (h : DataW.trod enc P w base (fun _ => true) held fuel t cs = some (d, p)) :
    ∃ (q : Jn.E) (s : EnS), cs = enC q s ∧ IsB w s.bo s.bcap q.text := by
  obtain ⟨y0, y1, y2, y3, n, hx, hl, q0, q1, q2, q3⟩ := open_four ht h
  rw [h0, hci, o0] at q0
  rw [h1, hci, o1] at q1
  rw [h2, hci, o2] at q2
  rw [h3, hcb, o3] at q3
  rw [hct] at hl
  obtain ⟨a0, e0, _, _⟩ := DataW.trod_int hi q0
  obtain ⟨a1, e1, _, _⟩ := DataW.trod_int hi q1
  obtain ⟨a2, e2, _, _⟩ := DataW.trod_int hi q2
  match cs, hl with
  | [c0, c1, c2, c3], _ =>
    simp at e0 e1 e2
    subst e0; subst e1; subst e2
    obtain ⟨ab, cap, l, e3, hI, _⟩ := open_bytes (d := y3.1) (p := y3.2) (cs := [c3]) hb hu hcu (by simpa using q3)
    injection e3 with e3 _
    subst e3
    exact ⟨⟨a0, a1, a2, l⟩, ⟨ab, cap⟩, rfl, hI⟩
theorem open_entries {v t i b u : TypeId} {f0 f1 f2 f3 : Field} {fuel : Nat} {a0 : Option Addr} {len cap : Nat} {d : DataW H} {p : List MemPlace}
    (hv : P.underlying v = some (.slice t)) (ht : P.underlying t = some (.struct #[f0, f1, f2, f3])) (h0 : f0.type = i) (h1 : f1.type = i) (h2 : f2.type = i) (h3 : f3.type = b) (o0 : f0.offset = 0) (o1 : f1.offset = 1) (o2 : f2.offset = 2) (o3 : f3.offset = 3)
    (hi : P.underlying i = some (.int .i64)) (hb : P.underlying b = some (.slice u)) (hu : P.underlying u = some (.int .u8)) (hci : P.cellsOf i = 1) (hcb : P.cellsOf b = 1) (hcu : P.cellsOf u = 1) (hct : P.cellsOf t = 4)
    (h : DataW.trod enc P w base (fun _ => true) held fuel v [.slice a0 len cap] = some (d, p)) :
    ∃ l : List Jn.E, l.length = len ∧ IsEns w a0 cap l := by
  rcases Go.Deep.open_slice hv h with ⟨hcs, _⟩ | ⟨a, len', cap', m, n, D, Pl, hcs, _, hl, _, hm, hx, hcell⟩
  · simp at hcs
    obtain ⟨rfl, rfl, rfl⟩ := hcs
    exact ⟨[], rfl, IsEns.nil w⟩
  · simp at hcs
    obtain ⟨rfl, rfl, rfl⟩ := hcs
    simp only [if_true] at hm
    subst hm
    rw [hct] at hcell
    have each : ∀ i, i < len → ∃ q : Jn.E × EnS, (∀ j u, (enC q.1 q.2)[j]? = some u → w.cell? (a.add (i * 4 + j)) = some u) ∧ IsB w q.2.bo q.2.bcap q.1.text := by
      intro i hi2
      obtain ⟨cs', k1, k2⟩ := hcell i (by omega)
      obtain ⟨q, s, rfl, z⟩ := open_entry ht h0 h1 h2 h3 o0 o1 o2 o3 hi hb hu hci hcb hcu hct k2
      obtain ⟨_, _, k3⟩ := World.cells?_some k1
      refine ⟨(q, s), fun j u hj => ?_, z⟩
      have hj4 : j < 4 := (List.getElem?_eq_some_iff.1 hj).1
      have := k3 j hj4
      rw [Addr.add_add] at this
      rw [this]; exact hj
    haveI : Inhabited (Jn.E × EnS) := ⟨(⟨0, 0, 0, []⟩, ⟨none, 0⟩)⟩
    obtain ⟨F, hF⟩ := Go.Deep.choose_lt each
    have hlen : ((List.range len).map F).length = len := by simp
    have hlen' : (((List.range len).map F).map (·.1)).length = len := by simp
    refine ⟨((List.range len).map F).map (·.1), hlen', ⟨(List.range len).map F, rfl, ?_, fun q hq => ?_⟩⟩
    · rw [hlen']
      refine ⟨by omega, (fun h => by cases h), fun j u hj => ⟨a, rfl, ?_⟩⟩
      have hlt : j < len * 4 := by
        have := (List.getElem?_eq_some_iff.1 hj).1
        rwa [enV_length, hlen] at this
      have hk : j / 4 < ((List.range len).map F).length := by rw [hlen]; omega
      have hp := enV_at _ (j / 4) hk (j % 4) (by omega)
      have hg : ((List.range len).map F)[j / 4] = F (j / 4) := by simp
      rw [hg, show j / 4 * 4 + j % 4 = j by omega, hj] at hp
      have hf := (hF (j / 4) (by omega)).1 (j % 4) u hp.symm
      rwa [show j / 4 * 4 + j % 4 = j by omega] at hf
    · obtain ⟨j, hj, rfl⟩ := List.mem_map.1 hq
      exact (hF j (List.mem_range.1 hj)).2
end
end Go.Proofs.Ytankilclhknbkaa
