/- A slice of steps (three numbers and a text), as an argument is read. -/
import Derived.Test.YtankilclhknbkaaDoorPk6
import Derived.Test.YtankilclhknbkaaDoorSqK
namespace Go.Proofs.YtankilclhknbkaaDoor
open Go.ChangeShapes Go.WideShapes Go.ChangeAt Go.RowKit
section
variable {H : Type} {enc : TypeId × Value → H} {P : Program} {w : World} {base : Nat} {held : Bool}
theorem open_step {t i s : TypeId} {f0 f1 f2 f3 : Field} {fuel : Nat} {cs : List Value} {d : DataW H} {p : List MemPlace}
    (ht : P.underlying t = some (.struct #[f0, f1, f2, f3])) (h0 : f0.type = i) (h1 : f1.type = i) (h2 : f2.type = i) (h3 : f3.type = s) (o0 : f0.offset = 0) (o1 : f1.offset = 1) (o2 : f2.offset = 2) (o3 : f3.offset = 3)
    (hi : P.underlying i = some (.int .i64)) (hs : P.underlying s = some .string) (hci : P.cellsOf i = 1) (hc : P.cellsOf s = 1) (hct : P.cellsOf t = 4)
    (h : DataW.trod enc P w base (fun _ => true) held fuel t cs = some (d, p)) (hL : Light P t d) :
    ∃ q : Stp, cs = stpC q ∧ q.text.size ≤ reachBytes := by
  obtain ⟨y0, y1, y2, y3, n, hx, hl, q0, q1, q2, q3⟩ := trod_struct4 ht h
  rw [h0, hci, o0] at q0
  rw [h1, hci, o1] at q1
  rw [h2, hci, o2] at q2
  rw [h3, hc, o3] at q3
  rw [hct] at hl
  have hd : d = .agg [y0.1, y1.1, y2.1, y3.1] := hx
  subst hd
  have hw : ∀ x ∈ y3.1.weights P s, x ≤ reachBytes := by
    intro x hx
    refine hL x ?_
    rw [DataW.weights, ht]
    simp only [List.map_cons, List.map_nil, DataW.weightsEach, h0, h1, h2, h3, List.append_nil]
    exact List.mem_append_right _ (List.mem_append_right _ (List.mem_append_right _ hx))
  obtain ⟨a0, e0, _, _⟩ := DataW.trod_int hi q0
  obtain ⟨a1, e1, _, _⟩ := DataW.trod_int hi q1
  obtain ⟨a2, e2, _, _⟩ := DataW.trod_int hi q2
  obtain ⟨x, e3, z3⟩ := open_text (d := y3.1) (p := y3.2) hs q3 hw
  match cs, hl with
  | [c0, c1, c2, c3], _ =>
    simp at e0 e1 e2 e3
    subst e0; subst e1; subst e2; subst e3
    exact ⟨⟨a0, a1, a2, x⟩, rfl, z3⟩
theorem open_steps {v t i s : TypeId} {f0 f1 f2 f3 : Field} {fuel : Nat} {a0 : Option Addr} {len cap : Nat} {d : DataW H} {p : List MemPlace}
    (hv : P.underlying v = some (.slice t)) (ht : P.underlying t = some (.struct #[f0, f1, f2, f3])) (h0 : f0.type = i) (h1 : f1.type = i) (h2 : f2.type = i) (h3 : f3.type = s) (o0 : f0.offset = 0) (o1 : f1.offset = 1) (o2 : f2.offset = 2) (o3 : f3.offset = 3)
    (hi : P.underlying i = some (.int .i64)) (hs : P.underlying s = some .string) (hci : P.cellsOf i = 1) (hc : P.cellsOf s = 1) (hct : P.cellsOf t = 4)
    (h : DataW.trod enc P w base (fun _ => true) held fuel v [.slice a0 len cap] = some (d, p)) (hL : Light P v d) :
    ∃ l : List Stp, l.length = len ∧ IsV w a0 cap len (stpV l) ∧ ∀ q ∈ l, q.text.size ≤ reachBytes := by
  rcases Go.Deep.open_slice hv h with ⟨hcs, _⟩ | ⟨a, len', cap', m, n, D, Pl, hcs, _, hl, _, hm, hx, hcell⟩
  · simp at hcs
    obtain ⟨rfl, rfl, rfl⟩ := hcs
    exact ⟨[], rfl, IsV.nil w, fun s hs => by cases hs⟩
  · simp at hcs
    obtain ⟨rfl, rfl, rfl⟩ := hcs
    simp only [if_true] at hm
    subst hm
    injection hx with hd _
    subst hd
    rw [hct] at hcell
    have each : ∀ i, i < len → ∃ q : Stp, (∀ j u, (stpC q)[j]? = some u → w.cell? (a.add (i * 4 + j)) = some u) ∧ q.text.size ≤ reachBytes := by
      intro i hi2
      obtain ⟨cs', k1, k2⟩ := hcell i (by omega)
      obtain ⟨q, rfl, z⟩ := open_step ht h0 h1 h2 h3 o0 o1 o2 o3 hi hs hci hc hct k2 (light_elem hv hL (List.mem_map.2 ⟨i, List.mem_range.2 hi2, rfl⟩))
      obtain ⟨_, _, k3⟩ := World.cells?_some k1
      refine ⟨q, fun j u hj => ?_, z⟩
      have hj4 : j < 4 := (List.getElem?_eq_some_iff.1 hj).1
      have := k3 j hj4
      rw [Addr.add_add] at this
      rw [this]; exact hj
    haveI : Inhabited Stp := ⟨⟨0, 0, 0, ⟨#[]⟩⟩⟩
    obtain ⟨F, hF⟩ := Go.Deep.choose_lt each
    have hlen : ((List.range len).map F).length = len := by simp
    refine ⟨(List.range len).map F, hlen, ⟨by omega, (fun h => by cases h), fun j u hj => ⟨a, rfl, ?_⟩⟩, fun q hq => ?_⟩
    · have hlt : j < len * 4 := by
        have := (List.getElem?_eq_some_iff.1 hj).1
        rwa [stpV_length, hlen] at this
      have hk : j / 4 < ((List.range len).map F).length := by rw [hlen]; omega
      have hp := stpV_at _ (j / 4) hk (j % 4) (by omega)
      have hg : ((List.range len).map F)[j / 4] = F (j / 4) := by simp
      rw [hg, show j / 4 * 4 + j % 4 = j by omega, hj] at hp
      have hf := (hF (j / 4) (by omega)).1 (j % 4) u hp.symm
      rwa [show j / 4 * 4 + j % 4 = j by omega] at hf
    · obtain ⟨j, hj, rfl⟩ := List.mem_map.1 hq
      exact (hF j (List.mem_range.1 hj)).2
/-- how many there may be -/
theorem steps_many {v t : TypeId} {fuel : Nat} {a0 : Option Addr} {len cap : Nat} {d : DataW H} {p : List MemPlace} (hv : P.underlying v = some (.slice t)) (hbt : P.bytesOf t = 40)
    (h : DataW.trod enc P w base (fun _ => true) held fuel v [.slice a0 len cap] = some (d, p)) (hL : Light P v d) : len * 40 ≤ reachBytes := pairs_many hv hbt h hL
end
end Go.Proofs.YtankilclhknbkaaDoor
