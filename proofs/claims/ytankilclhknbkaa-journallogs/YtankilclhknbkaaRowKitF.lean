/- Texts, structs of two texts, and slices of such, as an argument is read: their elements, once, and no text longer than the form's own reach. -/
import Derived.Test.YtankilclhknbkaaMemV
import Derived.Test.YtankilclhknbkaaRowKit0
import Derived.Deep.Strs
import Derived.HandedShaped
namespace Go.Proofs.Ytankilclhknbkaa
open Go.ChangeShapes Go.WideShapes Go.ChangeAt Go.RowKit

/-- all that a reading holds is within the form's reach -/
def Light {H : Type} (P : Program) (t : TypeId) (d : DataW H) : Prop := ∀ x ∈ d.weights P t, x ≤ reachBytes
theorem light_first {H : Type} {P : Program} {t : TypeId} {ts : List TypeId} {d : DataW H} {ds : List (DataW H)} (h : ∀ x ∈ DataW.weightsEach P (t :: ts) (d :: ds), x ≤ reachBytes) : Light P t d ∧ ∀ x ∈ DataW.weightsEach P ts ds, x ≤ reachBytes := by
  rw [DataW.weightsEach] at h
  exact ⟨fun x hx => h x (List.mem_append_left _ hx), fun x hx => h x (List.mem_append_right _ hx)⟩
theorem light_all {H : Type} {P : Program} {ts : List TypeId} {ds : List (DataW H)} (h : (DataW.weightsEach P ts ds).all (· ≤ reachBytes) = true) : ∀ x ∈ DataW.weightsEach P ts ds, x ≤ reachBytes := fun x hx => by
  simpa using List.all_eq_true.1 h x hx
theorem light_mem {H : Type} {P : Program} {e : TypeId} {l : List (DataW H)} {d : DataW H} (hd : d ∈ l) : ∀ x ∈ d.weights P e, x ∈ DataW.weightsAll P e l := by
  induction l with
  | nil => cases hd
  | cons a t ih =>
    intro x hx
    rw [DataW.weightsAll]
    rcases List.mem_cons.1 hd with rfl | hd
    · exact List.mem_append_left _ hx
    · exact List.mem_append_right _ (ih hd x hx)
theorem light_elem {H : Type} {P : Program} {t e : TypeId} (ht : P.underlying t = some (.slice e)) {elems spare : List (DataW H)} (h : Light P t (.slice elems spare)) {d : DataW H} (hd : d ∈ elems) : Light P e d := by
  intro x hx
  refine h x ?_
  rw [DataW.weights, ht]
  exact List.mem_cons_of_mem _ (List.mem_append_left _ (light_mem hd x hx))
/-- a slice takes no more than the reach -/
theorem light_len {H : Type} {P : Program} {t e : TypeId} (ht : P.underlying t = some (.slice e)) {elems spare : List (DataW H)} (h : Light P t (.slice elems spare)) : (elems.length + spare.length) * P.bytesOf e ≤ reachBytes := by
  refine h _ ?_
  rw [DataW.weights, ht]
  exact List.mem_cons_self ..

section
variable {H : Type} {enc : TypeId × Value → H} {P : Program} {w : World} {base : Nat} {spare : Nat → Bool} {held : Bool}
/-- a text -/
theorem open_text {t : TypeId} {fuel : Nat} {cs : List Value} {d : DataW H} {p : List MemPlace} (ht : P.underlying t = some .string) (h : DataW.trod enc P w base spare held fuel t cs = some (d, p)) (hL : Light P t d) :
    ∃ s : ByteArray, cs = [.string s] ∧ s.size ≤ reachBytes := by
  obtain ⟨s, h1, h2, h3⟩ := DataW.trod_string ht h
  injection h2 with h2 _
  subst h2
  refine ⟨s, h1, ?_⟩
  have := hL s.data.toList.length (by rw [DataW.weights]; exact List.mem_cons_self ..)
  rwa [Array.length_toList] at this
/-- a struct of two texts -/
theorem open_pair {t s : TypeId} {f0 f1 : Field} {fuel : Nat} {cs : List Value} {d : DataW H} {p : List MemPlace} (ht : P.underlying t = some (.struct #[f0, f1])) (h0 : f0.type = s) (h1 : f1.type = s) (o0 : f0.offset = 0) (o1 : f1.offset = 1)
    (hs : P.underlying s = some .string) (hc : P.cellsOf s = 1) (hct : P.cellsOf t = 2) (h : DataW.trod enc P w base spare held fuel t cs = some (d, p)) (hL : Light P t d) :
    ∃ n v : ByteArray, cs = [.string n, .string v] ∧ n.size ≤ reachBytes ∧ v.size ≤ reachBytes := by
  obtain ⟨y0, y1, m, hx, hl, k0, k1⟩ := trod_struct2 ht h
  rw [h0, hc, o0] at k0
  rw [h1, hc, o1] at k1
  rw [hct] at hl
  injection hx with hd _
  subst hd
  have hw : ∀ x ∈ y0.1.weights P s ++ y1.1.weights P s, x ≤ reachBytes := by
    intro x hx
    refine hL x ?_
    rw [DataW.weights, ht]
    simp only [List.map_cons, List.map_nil, DataW.weightsEach, h0, h1, List.append_nil]
    exact hx
  obtain ⟨n, e0, z0⟩ := open_text (d := y0.1) (p := y0.2) hs k0 (fun x hx => hw x (List.mem_append_left _ hx))
  obtain ⟨v, e1, z1⟩ := open_text (d := y1.1) (p := y1.2) hs k1 (fun x hx => hw x (List.mem_append_right _ hx))
  match cs, hl with
  | [a, b], _ =>
    simp at e0 e1
    subst e0; subst e1
    exact ⟨n, v, rfl, z0, z1⟩
/-- a slice of structs of two texts -/
theorem open_pairs {t u s : TypeId} {f0 f1 : Field} {fuel : Nat} {a0 : Option Addr} {len cap : Nat} {d : DataW H} {p : List MemPlace} (hu : P.underlying u = some (.slice t)) (ht : P.underlying t = some (.struct #[f0, f1])) (h0 : f0.type = s) (h1 : f1.type = s) (o0 : f0.offset = 0) (o1 : f1.offset = 1)
    (hs : P.underlying s = some .string) (hc : P.cellsOf s = 1) (hct : P.cellsOf t = 2) (h : DataW.trod enc P w base (fun _ => true) held fuel u [.slice a0 len cap] = some (d, p)) (hL : Light P u d) :
    ∃ l : List (ByteArray × ByteArray), l.length = len ∧ IsV w a0 cap l.length (pairV l) ∧ ∀ q ∈ l, q.1.size ≤ reachBytes ∧ q.2.size ≤ reachBytes := by
  rcases Go.Deep.open_slice hu h with ⟨hcs, _⟩ | ⟨a, len', cap', m, n, D, Pl, hcs, _, hl, _, hm, hx, hcell⟩
  · simp at hcs
    obtain ⟨rfl, rfl, rfl⟩ := hcs
    exact ⟨[], rfl, IsV.nil w, fun s hs => by cases hs⟩
  · simp at hcs
    obtain ⟨rfl, rfl, rfl⟩ := hcs
    simp only [if_true] at hm
    subst hm
    injection hx with hd _
    subst hd
    rw [hct] at hcell
    have each : ∀ i, i < len → ∃ q : ByteArray × ByteArray, w.cell? (a.add (i * 2)) = some (.string q.1) ∧ w.cell? (a.add (i * 2 + 1)) = some (.string q.2) ∧ q.1.size ≤ reachBytes ∧ q.2.size ≤ reachBytes := by
      intro i hi
      obtain ⟨cs', k1, k2⟩ := hcell i (by omega)
      obtain ⟨x, y, rfl, zx, zy⟩ := open_pair ht h0 h1 o0 o1 hs hc hct k2 (light_elem hu hL (List.mem_map.2 ⟨i, List.mem_range.2 hi, rfl⟩))
      obtain ⟨_, _, k3⟩ := World.cells?_some k1
      have k30 := k3 0 (by omega)
      have k31 := k3 1 (by omega)
      rw [Addr.add_add] at k30 k31
      exact ⟨(x, y), by simpa using k30, by simpa using k31, zx, zy⟩
    obtain ⟨F, hF⟩ := Go.Deep.choose_lt each
    have hlen : ((List.range len).map F).length = len := by simp
    refine ⟨(List.range len).map F, hlen, ⟨by omega, (fun h => by cases h), fun j u hj => ⟨a, rfl, ?_⟩⟩, fun q hq => ?_⟩
    · have hlt : j < len * 2 := by
        have := (List.getElem?_eq_some_iff.1 hj).1
        rwa [pairV_length, hlen] at this
      have hk : j / 2 < ((List.range len).map F).length := by rw [hlen]; omega
      have hp := pairV_at _ (j / 2) hk
      have hf := hF (j / 2) (by omega)
      have hg : ((List.range len).map F)[j / 2] = F (j / 2) := by simp
      rw [hg] at hp
      by_cases e : j % 2 = 0
      · have ej : j / 2 * 2 = j := by omega
        rw [ej] at hp hf
        rw [hp.1] at hj
        injection hj with hj; subst hj
        exact hf.1
      · have ej : j / 2 * 2 + 1 = j := by omega
        rw [ej] at hp hf
        rw [hp.2] at hj
        injection hj with hj; subst hj
        exact hf.2.1
    · obtain ⟨j, hj, rfl⟩ := List.mem_map.1 hq
      have := hF j (List.mem_range.1 hj)
      exact ⟨this.2.2.1, this.2.2.2⟩
end
end Go.Proofs.Ytankilclhknbkaa
