/- A slice of parts of a form, as an argument is read. -/
import Derived.Test.YtjpenioloeplgadGreatDoorPk9
import Derived.Test.YtjpenioloeplgadGreatDoorPk16
namespace Go.Proofs.YtjpenioloeplgadGreatDoor
open Go.ChangeShapes Go.WideShapes Go.ChangeAt Go.RowKit
section
variable {H : Type} {enc : TypeId × Value → H} {P : Program} {w : World} {base : Nat} {held : Bool}
/-- a part's texts and bytes take no more than the reach -/
structure PtLight (p : Fm.Pt) : Prop where
  name : p.name.size ≤ reachBytes
  file : p.file.size ≤ reachBytes
  type : p.type.size ≤ reachBytes
  bytes : p.bytes.length ≤ reachBytes
theorem open_parts {v t b u s : TypeId} {f0 f1 f2 f3 : Field} {fuel : Nat} {a0 : Option Addr} {len cap : Nat} {d : DataW H} {p : List MemPlace}
    (hv : P.underlying v = some (.slice t)) (ht : P.underlying t = some (.struct #[f0, f1, f2, f3])) (h0 : f0.type = s) (h1 : f1.type = s) (h2 : f2.type = s) (h3 : f3.type = b) (o0 : f0.offset = 0) (o1 : f1.offset = 1) (o2 : f2.offset = 2) (o3 : f3.offset = 3)
    (hb : P.underlying b = some (.slice u)) (hu : P.underlying u = some (.int .u8)) (hs : P.underlying s = some .string) (hc : P.cellsOf s = 1) (hcb : P.cellsOf b = 1) (hcu : P.cellsOf u = 1) (hct : P.cellsOf t = 4) (hbu : P.bytesOf u = 1) (hbt : P.bytesOf t = 72)
    (h : DataW.trod enc P w base (fun _ => true) held fuel v [.slice a0 len cap] = some (d, p)) (hL : Light P v d) :
    ∃ ps : List Fm.Pt, ps.length = len ∧ IsPts w a0 cap ps ∧ len * 72 ≤ reachBytes ∧ ∀ q ∈ ps, PtLight q := by
  have hmany := pairs_many hv hbt h hL
  rcases Go.Deep.open_slice hv h with ⟨hcs, _⟩ | ⟨a, len', cap', m, n, D, Pl, hcs, _, hl, _, hm, hx, hcell⟩
  · simp at hcs
    obtain ⟨rfl, rfl, rfl⟩ := hcs
    exact ⟨[], rfl, IsPts.nil w, hmany, fun s hs => by cases hs⟩
  · simp at hcs
    obtain ⟨rfl, rfl, rfl⟩ := hcs
    simp only [if_true] at hm
    subst hm
    injection hx with hd _
    subst hd
    rw [hct] at hcell
    have each : ∀ i, i < len → ∃ q : Fm.Pt × PtS, (∀ j u, (ptC q.1 q.2)[j]? = some u → w.cell? (a.add (i * 4 + j)) = some u) ∧ IsB w q.2.bo q.2.bcap q.1.bytes ∧ PtLight q.1 := by
      intro i hi
      obtain ⟨cs', k1, k2⟩ := hcell i (by omega)
      obtain ⟨x, y, z, bo, bcap, l, rfl, hB, z0, z1, z2, z3⟩ := open_part ht h0 h1 h2 h3 o0 o1 o2 o3 hb hu hs hc hcb hcu hct hbu k2 (light_elem hv hL (List.mem_map.2 ⟨i, List.mem_range.2 hi, rfl⟩))
      obtain ⟨_, _, k3⟩ := World.cells?_some k1
      refine ⟨(⟨x, y, z, l⟩, ⟨bo, bcap⟩), fun j u hj => ?_, hB, ⟨z0, z1, z2, z3⟩⟩
      have hj4 : j < 4 := (List.getElem?_eq_some_iff.1 hj).1
      have := k3 j hj4
      rw [Addr.add_add] at this
      rw [this]
      simpa [ptC] using hj
    haveI : Inhabited (Fm.Pt × PtS) := ⟨(⟨⟨#[]⟩, ⟨#[]⟩, ⟨#[]⟩, []⟩, ⟨none, 0⟩)⟩
    obtain ⟨F, hF⟩ := Go.Deep.choose_lt each
    have hlen : ((List.range len).map F).length = len := by simp
    have hlen' : (((List.range len).map F).map (·.1)).length = len := by simp
    refine ⟨((List.range len).map F).map (·.1), hlen', ⟨(List.range len).map F, rfl, ?_, fun q hq => ?_⟩, hmany, fun q hq => ?_⟩
    · rw [hlen']
      refine ⟨by omega, (fun h => by cases h), fun j u hj => ⟨a, rfl, ?_⟩⟩
      have hlt : j < len * 4 := by
        have := (List.getElem?_eq_some_iff.1 hj).1
        rwa [ptsV_length, hlen] at this
      have hk : j / 4 < ((List.range len).map F).length := by rw [hlen]; omega
      have hp := ptsV_at _ (j / 4) hk (j % 4) (by omega)
      have hg : ((List.range len).map F)[j / 4] = F (j / 4) := by simp
      rw [hg, show j / 4 * 4 + j % 4 = j by omega, hj] at hp
      have hf := (hF (j / 4) (by omega)).1 (j % 4) u hp.symm
      rwa [show j / 4 * 4 + j % 4 = j by omega] at hf
    · obtain ⟨j, hj, rfl⟩ := List.mem_map.1 hq
      exact (hF j (List.mem_range.1 hj)).2.1
    · obtain ⟨x, hx, rfl⟩ := List.mem_map.1 hq
      obtain ⟨j, hj, rfl⟩ := List.mem_map.1 hx
      exact (hF j (List.mem_range.1 hj)).2.2
end
end Go.Proofs.YtjpenioloeplgadGreatDoor
