/- Steps of a log (two numbers and bytes), as an argument is read. -/
import Derived.Test.YtankilclhknbkaaRowKitL
import Derived.Test.YtankilclhknbkaaRowKit0
import Derived.Test.YtankilclhknbkaaMemLs
namespace Go.Proofs.Ytankilclhknbkaa
open Go.ChangeShapes Go.WideShapes Go.ChangeAt Go.RowKit
section
variable {H : Type} {enc : TypeId × Value → H} {P : Program} {w : World} {base : Nat} {held : Bool}
theorem open_three {spare : Nat → Bool} {t : TypeId} {f0 f1 f2 : Field} {fuel : Nat} {cs : List Value} {x : DataW H × List MemPlace} (ht : P.underlying t = some (.struct #[f0, f1, f2])) (h : DataW.trod enc P w base spare held fuel t cs = some x) :
    ∃ y0 y1 y2 n, x.1 = .agg [y0.1, y1.1, y2.1] ∧ cs.length = P.cellsOf t ∧ DataW.trod enc P w base spare held n f0.type ((cs.drop f0.offset).take (P.cellsOf f0.type)) = some y0 ∧
      DataW.trod enc P w base spare held n f1.type ((cs.drop f1.offset).take (P.cellsOf f1.type)) = some y1 ∧ DataW.trod enc P w base spare held n f2.type ((cs.drop f2.offset).take (P.cellsOf f2.type)) = some y2 := by
  obtain ⟨xs, n, _, rfl, hl, hlen, hf⟩ := DataW.trod_struct ht h
  match xs, hlen with
  | [y0, y1, y2], _ => exact ⟨y0, y1, y2, n, by simp, hl, by simpa using hf 0 f0 rfl, by simpa using hf 1 f1 rfl, by simpa using hf 2 f2 rfl⟩
theorem open_log {t i b u : TypeId} {f0 f1 f2 : Field} {fuel : Nat} {cs : List Value} {d : DataW H} {p : List MemPlace}
    (ht : P.underlying t = some (.struct #[f0, f1, f2])) (h0 : f0.type = i) (h1 : f1.type = i) (h2 : f2.type = b) (o0 : f0.offset = 0) (o1 : f1.offset = 1) (o2 : f2.offset = 2)
    (hi : P.underlying i = some (.int .i64)) (hb : P.underlying b = some (.slice u)) (hu : P.underlying u = some (.int .u8)) (hci : P.cellsOf i = 1) (hcb : P.cellsOf b = 1) (hcu : P.cellsOf u = 1) (hct : P.cellsOf t = 3)
    (h : DataW.trod enc P w base (fun _ => true) held fuel t cs = some (d, p)) :
    ∃ (q : Ls) (s : EnS), cs = lsC q s ∧ IsB w s.bo s.bcap q.bs := by
  obtain ⟨y0, y1, y2, n, hx, hl, q0, q1, q2⟩ := open_three ht h
  rw [h0, hci, o0] at q0
  rw [h1, hci, o1] at q1
  rw [h2, hcb, o2] at q2
  rw [hct] at hl
  obtain ⟨a0, e0, _, _⟩ := DataW.trod_int hi q0
  obtain ⟨a1, e1, _, _⟩ := DataW.trod_int hi q1
  match cs, hl with
  | [c0, c1, c2], _ =>
    simp at e0 e1
    subst e0; subst e1
    obtain ⟨ab, cap, l, e3, hI, _⟩ := open_bytes (d := y2.1) (p := y2.2) (cs := [c2]) hb hu hcu (by simpa using q2)
    injection e3 with e3 _
    subst e3
    exact ⟨⟨a0, a1, l⟩, ⟨ab, cap⟩, rfl, hI⟩
theorem open_logs {v t i b u : TypeId} {f0 f1 f2 : Field} {fuel : Nat} {a0 : Option Addr} {len cap : Nat} {d : DataW H} {p : List MemPlace}
    (hv : P.underlying v = some (.slice t)) (ht : P.underlying t = some (.struct #[f0, f1, f2])) (h0 : f0.type = i) (h1 : f1.type = i) (h2 : f2.type = b) (o0 : f0.offset = 0) (o1 : f1.offset = 1) (o2 : f2.offset = 2)
    (hi : P.underlying i = some (.int .i64)) (hb : P.underlying b = some (.slice u)) (hu : P.underlying u = some (.int .u8)) (hci : P.cellsOf i = 1) (hcb : P.cellsOf b = 1) (hcu : P.cellsOf u = 1) (hct : P.cellsOf t = 3)
    (h : DataW.trod enc P w base (fun _ => true) held fuel v [.slice a0 len cap] = some (d, p)) :
    ∃ l : List Ls, l.length = len ∧ IsLs w a0 cap l := by
  rcases Go.Deep.open_slice hv h with ⟨hcs, _⟩ | ⟨a, len', cap', m, n, D, Pl, hcs, _, hl, _, hm, hx, hcell⟩
  · simp at hcs
    obtain ⟨rfl, rfl, rfl⟩ := hcs
    exact ⟨[], rfl, IsLs.nil w⟩
  · simp at hcs
    obtain ⟨rfl, rfl, rfl⟩ := hcs
    simp only [if_true] at hm
    subst hm
    rw [hct] at hcell
    have each : ∀ i, i < len → ∃ q : Ls × EnS, (∀ j u, (lsC q.1 q.2)[j]? = some u → w.cell? (a.add (i * 3 + j)) = some u) ∧ IsB w q.2.bo q.2.bcap q.1.bs := by
      intro i hi2
      obtain ⟨cs', k1, k2⟩ := hcell i (by omega)
      obtain ⟨q, s, rfl, z⟩ := open_log ht h0 h1 h2 o0 o1 o2 hi hb hu hci hcb hcu hct k2
      obtain ⟨_, _, k3⟩ := World.cells?_some k1
      refine ⟨(q, s), fun j u hj => ?_, z⟩
      have hj3 : j < 3 := (List.getElem?_eq_some_iff.1 hj).1
      have := k3 j hj3
      rw [Addr.add_add] at this
      rw [this]; exact hj
    haveI : Inhabited (Ls × EnS) := ⟨(⟨0, 0, []⟩, ⟨none, 0⟩)⟩
    obtain ⟨F, hF⟩ := Go.Deep.choose_lt each
    have hlen : ((List.range len).map F).length = len := by simp
    have hlen' : (((List.range len).map F).map (·.1)).length = len := by simp
    refine ⟨((List.range len).map F).map (·.1), hlen', ⟨(List.range len).map F, rfl, ?_, fun q hq => ?_⟩⟩
    · rw [hlen']
      refine ⟨by omega, (fun h => by cases h), fun j u hj => ⟨a, rfl, ?_⟩⟩
      have hlt : j < len * 3 := by
        have := (List.getElem?_eq_some_iff.1 hj).1
        rwa [lsV_length, hlen] at this
      have hk : j / 3 < ((List.range len).map F).length := by rw [hlen]; omega
      have hp := lsV_at _ (j / 3) hk (j % 3) (by omega)
      have hg : ((List.range len).map F)[j / 3] = F (j / 3) := by simp
      rw [hg, show j / 3 * 3 + j % 3 = j by omega, hj] at hp
      have hf := (hF (j / 3) (by omega)).1 (j % 3) u hp.symm
      rwa [show j / 3 * 3 + j % 3 = j by omega] at hf
    · obtain ⟨j, hj, rfl⟩ := List.mem_map.1 hq
      exact (hF j (List.mem_range.1 hj)).2
end
end Go.Proofs.Ytankilclhknbkaa
