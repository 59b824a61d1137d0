/- A struct of a text and a slice of structs of two texts, as an argument is read. -/
import Derived.Test.YtohddkniphcecabPk17
namespace Go.Proofs.Ytohddkniphcecab
open Go.ChangeShapes Go.WideShapes Go.ChangeAt Go.RowKit

theorem open_media {H : Type} {enc : TypeId × Value → H} {P : Program} {w : World} {base : Nat} {held : Bool} {t u e s : TypeId} {f0 f1 g0 g1 : Field} {fuel : Nat} {cs : List Value} {d : DataW H} {p : List MemPlace}
    (ht : P.underlying t = some (.struct #[f0, f1])) (h0 : f0.type = s) (h1 : f1.type = u) (o0 : f0.offset = 0) (o1 : f1.offset = 1)
    (hu : P.underlying u = some (.slice e)) (he : P.underlying e = some (.struct #[g0, g1])) (k0 : g0.type = s) (k1 : g1.type = s) (j0 : g0.offset = 0) (j1 : g1.offset = 1)
    (hs : P.underlying s = some .string) (hc : P.cellsOf s = 1) (hcu : P.cellsOf u = 1) (hct : P.cellsOf t = 2) (hce : P.cellsOf e = 2)
    (h : DataW.trod enc P w base (fun _ => true) held fuel t cs = some (d, p)) (hL : Light P t d) :
    ∃ (wd : ByteArray) (a0 : Option Addr) (cap : Nat) (l : List (ByteArray × ByteArray)), cs = [.string wd, .slice a0 l.length cap] ∧ IsV w a0 cap l.length (pairV l) ∧ wd.size ≤ reachBytes ∧ ∀ q ∈ l, q.1.size ≤ reachBytes ∧ q.2.size ≤ reachBytes := by
  obtain ⟨y0, y1, m, hx, hl, q0, q1⟩ := trod_struct2 ht h
  rw [h0, hc, o0] at q0
  rw [h1, hcu, o1] at q1
  rw [hct] at hl
  injection hx with hd _
  subst hd
  have hw : ∀ x ∈ y0.1.weights P s ++ y1.1.weights P u, x ≤ reachBytes := by
    intro x hx
    refine hL x ?_
    rw [DataW.weights, ht]
    simp only [List.map_cons, List.map_nil, DataW.weightsEach, h0, h1, List.append_nil]
    exact hx
  obtain ⟨wd, e0, z0⟩ := open_text (d := y0.1) (p := y0.2) hs q0 (fun x hx => hw x (List.mem_append_left _ hx))
  match cs, hl with
  | [a, b], _ =>
    simp at e0
    subst e0
    have q1' : DataW.trod enc P w base (fun _ => true) held m u [b] = some (y1.1, y1.2) := by simpa using q1
    have hb : ∃ a0 len cap, b = .slice a0 len cap := by
      rcases Go.Deep.open_slice hu q1' with ⟨hcs, _⟩ | ⟨a, len', cap', m, n, D, Pl, hcs, _⟩
      · simp at hcs; exact ⟨_, _, _, hcs⟩
      · simp at hcs; exact ⟨_, _, _, hcs⟩
    obtain ⟨a0, len, cap, rfl⟩ := hb
    obtain ⟨l, rfl, hI, hz⟩ := open_pairs hu he k0 k1 j0 j1 hs hc hce q1' (fun x hx => hw x (List.mem_append_right _ hx))
    exact ⟨wd, a0, cap, l, rfl, hI, z0, hz⟩
end Go.Proofs.Ytohddkniphcecab
