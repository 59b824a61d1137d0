/- Small texts, one behind the other: RowKitF, RowKitL, RowKitR. -/
import Derived.Test.YtjhbiipbmlpgoaaDoorPk4
import Derived.Test.YtjhbiipbmlpgoaaDoorRowKit0
import Derived.Deep.Strs
import Derived.HandedShaped
/- Texts, structs of two texts, and slices of such, as an argument is read: their elements, once, and no text longer than the form's own reach. -/
namespace Go.Proofs.YtjhbiipbmlpgoaaDoor
open Go.ChangeShapes Go.WideShapes Go.ChangeAt Go.RowKit

/-- all that a reading holds is within the form's reach -/
def Light {H : Type} (P : Program) (t : TypeId) (d : DataW H) : Prop := ∀ x ∈ d.weights P t, x ≤ reachBytes
theorem light_first {H : Type} {P : Program} {t : TypeId} {ts : List TypeId} {d : DataW H} {ds : List (DataW H)} (h : ∀ x ∈ DataW.weightsEach P (t :: ts) (d :: ds), x ≤ reachBytes) : Light P t d ∧ ∀ x ∈ DataW.weightsEach P ts ds, x ≤ reachBytes := by
  rw [DataW.weightsEach] at h
  exact ⟨fun x hx => h x (List.mem_append_left _ hx), fun x hx => h x (List.mem_append_right _ hx)⟩
theorem light_all {H : Type} {P : Program} {ts : List TypeId} {ds : List (DataW H)} (h : (DataW.weightsEach P ts ds).all (· ≤ reachBytes) = true) : ∀ x ∈ DataW.weightsEach P ts ds, x ≤ reachBytes := fun x hx => by
  simpa using List.all_eq_true.1 h x hx
theorem light_mem {H : Type} {P : Program} {e : TypeId} {l : List (DataW H)} {d : DataW H} (hd : d ∈ l) : ∀ x ∈ d.weights P e, x ∈ DataW.weightsAll P e l := by
  induction l with
  | nil => cases hd
  | cons a t ih =>
    intro x hx
    rw [DataW.weightsAll]
    rcases List.mem_cons.1 hd with rfl | hd
    · exact List.mem_append_left _ hx
    · exact List.mem_append_right _ (ih hd x hx)
theorem light_elem {H : Type} {P : Program} {t e : TypeId} (ht : P.underlying t = some (.slice e)) {elems spare : List (DataW H)} (h : Light P t (.slice elems spare)) {d : DataW H} (hd : d ∈ elems) : Light P e d := by
  intro x hx
  refine h x ?_
  rw [DataW.weights, ht]
  exact List.mem_cons_of_mem _ (List.mem_append_left _ (light_mem hd x hx))
/-- a slice takes no more than the reach -/
theorem light_len {H : Type} {P : Program} {t e : TypeId} (ht : P.underlying t = some (.slice e)) {elems spare : List (DataW H)} (h : Light P t (.slice elems spare)) : (elems.length + spare.length) * P.bytesOf e ≤ reachBytes := by
  refine h _ ?_
  rw [DataW.weights, ht]
  exact List.mem_cons_self ..

section
variable {H : Type} {enc : TypeId × Value → H} {P : Program} {w : World} {base : Nat} {spare : Nat → Bool} {held : Bool}
/-- a text -/
theorem open_text {t : TypeId} {fuel : Nat} {cs : List Value} {d : DataW H} {p : List MemPlace} (ht : P.underlying t = some .string) (h : DataW.trod enc P w base spare held fuel t cs = some (d, p)) (hL : Light P t d) :
    ∃ s : ByteArray, cs = [.string s] ∧ s.size ≤ reachBytes := by
  obtain ⟨s, h1, h2, h3⟩ := DataW.trod_string ht h
  injection h2 with h2 _
  subst h2
  refine ⟨s, h1, ?_⟩
  have := hL s.data.toList.length (by rw [DataW.weights]; exact List.mem_cons_self ..)
  rwa [Array.length_toList] at this
/-- a struct of two texts -/
theorem open_pair {t s : TypeId} {f0 f1 : Field} {fuel : Nat} {cs : List Value} {d : DataW H} {p : List MemPlace} (ht : P.underlying t = some (.struct #[f0, f1])) (h0 : f0.type = s) (h1 : f1.type = s) (o0 : f0.offset = 0) (o1 : f1.offset = 1)
    (hs : P.underlying s = some .string) (hc : P.cellsOf s = 1) (hct : P.cellsOf t = 2) (h : DataW.trod enc P w base spare held fuel t cs = some (d, p)) (hL : Light P t d) :
    ∃ n v : ByteArray, cs = [.string n, .string v] ∧ n.size ≤ reachBytes ∧ v.size ≤ reachBytes := by
  obtain ⟨y0, y1, m, hx, hl, k0, k1⟩ := trod_struct2 ht h
  rw [h0, hc, o0] at k0
  rw [h1, hc, o1] at k1
  rw [hct] at hl
  injection hx with hd _
  subst hd
  have hw : ∀ x ∈ y0.1.weights P s ++ y1.1.weights P s, x ≤ reachBytes := by
    intro x hx
    refine hL x ?_
    rw [DataW.weights, ht]
    simp only [List.map_cons, List.map_nil, DataW.weightsEach, h0, h1, List.append_nil]
    exact hx
  obtain ⟨n, e0, z0⟩ := open_text (d := y0.1) (p := y0.2) hs k0 (fun x hx => hw x (List.mem_append_left _ hx))
  obtain ⟨v, e1, z1⟩ := open_text (d := y1.1) (p := y1.2) hs k1 (fun x hx => hw x (List.mem_append_right _ hx))
  match cs, hl with
  | [a, b], _ =>
    simp at e0 e1
    subst e0; subst e1
    exact ⟨n, v, rfl, z0, z1⟩
/-- a slice of structs of two texts -/
theorem open_pairs {t u s : TypeId} {f0 f1 : Field} {fuel : Nat} {a0 : Option Addr} {len cap : Nat} {d : DataW H} {p : List MemPlace} (hu : P.underlying u = some (.slice t)) (ht : P.underlying t = some (.struct #[f0, f1])) (h0 : f0.type = s) (h1 : f1.type = s) (o0 : f0.offset = 0) (o1 : f1.offset = 1)
    (hs : P.underlying s = some .string) (hc : P.cellsOf s = 1) (hct : P.cellsOf t = 2) (h : DataW.trod enc P w base (fun _ => true) held fuel u [.slice a0 len cap] = some (d, p)) (hL : Light P u d) :
    ∃ l : List (ByteArray × ByteArray), l.length = len ∧ IsV w a0 cap l.length (pairV l) ∧ ∀ q ∈ l, q.1.size ≤ reachBytes ∧ q.2.size ≤ reachBytes := by
  rcases Go.Deep.open_slice hu h with ⟨hcs, _⟩ | ⟨a, len', cap', m, n, D, Pl, hcs, _, hl, _, hm, hx, hcell⟩
  · simp at hcs
    obtain ⟨rfl, rfl, rfl⟩ := hcs
    exact ⟨[], rfl, IsV.nil w, fun s hs => by cases hs⟩
  · simp at hcs
    obtain ⟨rfl, rfl, rfl⟩ := hcs
    simp only [if_true] at hm
    subst hm
    injection hx with hd _
    subst hd
    rw [hct] at hcell
    have each : ∀ i, i < len → ∃ q : ByteArray × ByteArray, w.cell? (a.add (i * 2)) = some (.string q.1) ∧ w.cell? (a.add (i * 2 + 1)) = some (.string q.2) ∧ q.1.size ≤ reachBytes ∧ q.2.size ≤ reachBytes := by
      intro i hi
      obtain ⟨cs', k1, k2⟩ := hcell i (by omega)
      obtain ⟨x, y, rfl, zx, zy⟩ := open_pair ht h0 h1 o0 o1 hs hc hct k2 (light_elem hu hL (List.mem_map.2 ⟨i, List.mem_range.2 hi, rfl⟩))
      obtain ⟨_, _, k3⟩ := World.cells?_some k1
      have k30 := k3 0 (by omega)
      have k31 := k3 1 (by omega)
      rw [Addr.add_add] at k30 k31
      exact ⟨(x, y), by simpa using k30, by simpa using k31, zx, zy⟩
    obtain ⟨F, hF⟩ := Go.Deep.choose_lt each
    have hlen : ((List.range len).map F).length = len := by simp
    refine ⟨(List.range len).map F, hlen, ⟨by omega, (fun h => by cases h), fun j u hj => ⟨a, rfl, ?_⟩⟩, fun q hq => ?_⟩
    · have hlt : j < len * 2 := by
        have := (List.getElem?_eq_some_iff.1 hj).1
        rwa [pairV_length, hlen] at this
      have hk : j / 2 < ((List.range len).map F).length := by rw [hlen]; omega
      have hp := pairV_at _ (j / 2) hk
      have hf := hF (j / 2) (by omega)
      have hg : ((List.range len).map F)[j / 2] = F (j / 2) := by simp
      rw [hg] at hp
      by_cases e : j % 2 = 0
      · have ej : j / 2 * 2 = j := by omega
        rw [ej] at hp hf
        rw [hp.1] at hj
        injection hj with hj; subst hj
        exact hf.1
      · have ej : j / 2 * 2 + 1 = j := by omega
        rw [ej] at hp hf
        rw [hp.2] at hj
        injection hj with hj; subst hj
        exact hf.2.1
    · obtain ⟨j, hj, rfl⟩ := List.mem_map.1 hq
      have := hF j (List.mem_range.1 hj)
      exact ⟨this.2.2.1, this.2.2.2⟩
end
end Go.Proofs.YtjhbiipbmlpgoaaDoor

/- A slice of bytes, and a slice of such, as an argument is read: their elements, once. -/
namespace Go.Proofs.YtjhbiipbmlpgoaaDoor
open Go.ChangeShapes Go.WideShapes Go.ChangeAt Go.RowKit

/-- a reading is of so many elements -/
def Spans {H : Type} (d : DataW H) (n : Nat) : Prop := (d = .nil ∧ n = 0) ∨ ∃ elems spare, d = .slice elems spare ∧ elems.length = n
section
variable {H : Type} {enc : TypeId × Value → H} {P : Program} {w : World} {base : Nat} {held : Bool}
/-- a slice of bytes -/
theorem open_bytes {u e : TypeId} {fuel : Nat} {cs : List Value} {d : DataW H} {p : List MemPlace} (hu : P.underlying u = some (.slice e)) (he : P.underlying e = some (.int .u8)) (hc : P.cellsOf e = 1)
    (h : DataW.trod enc P w base (fun _ => true) held fuel u cs = some (d, p)) :
    ∃ (a0 : Option Addr) (cap : Nat) (l : List UInt8), cs = [.slice a0 l.length cap] ∧ IsB w a0 cap l ∧ Spans d l.length := by
  rcases open_ints hu he hc h with ⟨hcs, hx⟩ | ⟨a, len, cap, zs, hcs, _, hl, _, hz, hx, hcell, hwz⟩
  · injection hx with hd _
    exact ⟨none, 0, [], hcs, IsB.nil w, Or.inl ⟨hd, rfl⟩⟩
  · simp only [if_true] at hz
    injection hx with hd _
    have hlen : ((zs.take len).map fun z => UInt8.ofNat z.toNat).length = len := by rw [List.length_map, List.length_take]; omega
    refine ⟨some a, cap, (zs.take len).map (fun z => UInt8.ofNat z.toNat), by rw [hlen]; exact hcs, ⟨by omega, (fun h => by cases h), fun j hj => ⟨a, rfl, ?_⟩⟩, Or.inr ⟨_, _, hd, ?_⟩⟩
    · rw [hlen] at hj
      have hj' : j < zs.length := by omega
      rw [hcell j hj']
      have hg : zs.getD j 0 = zs[j] := by simp [List.getD, hj']
      have hw := hwz zs[j] (List.getElem_mem _)
      have hx : 0 ≤ zs[j] ∧ zs[j] ≤ 255 := by simpa [Lit.wf, IntKind.min, IntKind.max, IntKind.signed, IntKind.bits] using hw
      rw [hg]
      simp only [List.getElem_map, List.getElem_take]
      have e : ((UInt8.ofNat zs[j].toNat).toNat : Int) = zs[j] := by
        rw [UInt8.toNat_ofNat']; omega
      rw [e]
    · simp [lits] <;> omega
theorem Spans.light {u e : TypeId} {d : DataW H} {n : Nat} (hu : P.underlying u = some (.slice e)) (hb : P.bytesOf e = 1) (h : Spans d n) (hL : Light P u d) : n ≤ reachBytes := by
  rcases h with ⟨rfl, rfl⟩ | ⟨elems, spare, rfl, rfl⟩
  · exact Nat.zero_le _
  · have := light_len hu hL
    rw [hb] at this
    omega
/-- a slice of slices of bytes -/
theorem open_lists {v u e : TypeId} {fuel : Nat} {cs : List Value} {d : DataW H} {p : List MemPlace} (hv : P.underlying v = some (.slice u)) (hu : P.underlying u = some (.slice e)) (he : P.underlying e = some (.int .u8)) (hc : P.cellsOf e = 1) (hcu : P.cellsOf u = 1)
    (h : DataW.trod enc P w base (fun _ => true) held fuel v cs = some (d, p)) :
    ∃ (a0 : Option Addr) (cap : Nat) (ls : List (List UInt8)), cs = [.slice a0 ls.length cap] ∧ IsL w a0 cap ls ∧
      ((d = .nil ∧ ls = []) ∨ ∃ elems spare, d = .slice elems spare ∧ elems.length = ls.length ∧ ∀ (j : Nat) x l, elems[j]? = some x → ls[j]? = some l → Spans x l.length) := by
  rcases Go.Deep.open_slice1 hv hcu h with ⟨hcs, hx⟩ | ⟨a, len, cap, m, n, V, D, Pl, hcs, _, hl, _, hm, hx, hcell⟩
  · injection hx with hd _
    exact ⟨none, 0, [], hcs, IsL.nil w, Or.inl ⟨hd, rfl⟩⟩
  · simp only [if_true] at hm
    subst hm
    injection hx with hd _
    have each : ∀ i, i < len → ∃ q : Option Addr × Nat × List UInt8, V i = .slice q.1 q.2.2.length q.2.1 ∧ IsB w q.1 q.2.1 q.2.2 ∧ Spans (D i) q.2.2.length := by
      intro i hi
      obtain ⟨_, k2⟩ := hcell i (by omega)
      obtain ⟨a1, c1, l, e1, h1, h2⟩ := open_bytes hu he hc k2
      injection e1 with e1 _
      exact ⟨(a1, c1, l), e1, h1, h2⟩
    obtain ⟨F, hF⟩ := Go.Deep.choose_lt each
    have hlen : ((List.range len).map fun i => (F i).2.2).length = len := by simp
    refine ⟨some a, m, (List.range len).map (fun i => (F i).2.2), by rw [hlen]; exact hcs, ⟨by omega, (fun h => by cases h), fun j hj => ?_⟩, Or.inr ⟨_, _, hd, by simp, fun j x l hx hl => ?_⟩⟩
    · rw [hlen] at hj
      have hf := hF j hj
      have hk := (hcell j (by omega)).1
      rw [hf.1] at hk
      refine ⟨a, (F j).1, (F j).2.1, rfl, ?_, ?_⟩
      · rw [hk]; simp
      · simpa using hf.2.1
    · have hj : j < len := by
        have := (List.getElem?_eq_some_iff.1 hl).1
        rwa [hlen] at this
      have e1 : D j = x := by simpa [hj] using hx
      have e2 : (F j).2.2 = l := by simpa [hj] using hl
      rw [← e1, ← e2]
      exact (hF j hj).2.2
end
end Go.Proofs.YtjhbiipbmlpgoaaDoor

/- A struct of a number, a slice of structs of two texts and a slice of bytes (a reply), as an argument is read. -/
namespace Go.Proofs.YtjhbiipbmlpgoaaDoor
open Go.ChangeShapes Go.WideShapes Go.ChangeAt Go.RowKit
variable {H : Type} {enc : TypeId × Value → H} {P : Program} {w : World} {base : Nat} {held : Bool}

theorem trod_reply {spare : Nat → Bool} {t : TypeId} {f0 f1 f2 : Field} {fuel : Nat} {cs : List Value} {x : DataW H × List MemPlace} (ht : P.underlying t = some (.struct #[f0, f1, f2])) (h : DataW.trod enc P w base spare held fuel t cs = some x) :
    ∃ y0 y1 y2 n, x.1 = .agg [y0.1, y1.1, y2.1] ∧ cs.length = P.cellsOf t ∧ DataW.trod enc P w base spare held n f0.type ((cs.drop f0.offset).take (P.cellsOf f0.type)) = some y0 ∧
      DataW.trod enc P w base spare held n f1.type ((cs.drop f1.offset).take (P.cellsOf f1.type)) = some y1 ∧ DataW.trod enc P w base spare held n f2.type ((cs.drop f2.offset).take (P.cellsOf f2.type)) = some y2 := by
  obtain ⟨xs, n, _, rfl, hl, hlen, hf⟩ := DataW.trod_struct ht h
  match xs, hlen with
  | [y0, y1, y2], _ => exact ⟨y0, y1, y2, n, by simp, hl, by simpa using hf 0 f0 rfl, by simpa using hf 1 f1 rfl, by simpa using hf 2 f2 rfl⟩

theorem open_reply {t u e s i b u8 : TypeId} {f0 f1 f2 g0 g1 : Field} {fuel : Nat} {cs : List Value} {d : DataW H} {p : List MemPlace}
    (ht : P.underlying t = some (.struct #[f0, f1, f2])) (h0 : f0.type = i) (h1 : f1.type = u) (h2 : f2.type = b) (o0 : f0.offset = 0) (o1 : f1.offset = 1) (o2 : f2.offset = 2)
    (hu : P.underlying u = some (.slice e)) (he : P.underlying e = some (.struct #[g0, g1])) (k0 : g0.type = s) (k1 : g1.type = s) (j0 : g0.offset = 0) (j1 : g1.offset = 1)
    (hs : P.underlying s = some .string) (hi : P.underlying i = some (.int .i64)) (hb : P.underlying b = some (.slice u8)) (h8 : P.underlying u8 = some (.int .u8)) (hc : P.cellsOf s = 1) (hci : P.cellsOf i = 1) (hcu : P.cellsOf u = 1) (hcb : P.cellsOf b = 1) (hc8 : P.cellsOf u8 = 1) (hct : P.cellsOf t = 3) (hce : P.cellsOf e = 2)
    (h : DataW.trod enc P w base (fun _ => true) held fuel t cs = some (d, p)) (hL : Light P t d) :
    ∃ (st : Int) (a0 a1 : Option Addr) (cap cap1 : Nat) (l : List (ByteArray × ByteArray)) (body : List UInt8), cs = [.int .i64 st, .slice a0 l.length cap, .slice a1 body.length cap1] ∧ IsV w a0 cap l.length (pairV l) ∧ IsB w a1 cap1 body ∧ ∀ q ∈ l, q.1.size ≤ reachBytes ∧ q.2.size ≤ reachBytes := by
  obtain ⟨y0, y1, y2, n, hx, hl, q0, q1, q2⟩ := trod_reply ht h
  rw [h0, hci, o0] at q0
  rw [h1, hcu, o1] at q1
  rw [h2, hcb, o2] at q2
  rw [hct] at hl
  have hd : d = .agg [y0.1, y1.1, y2.1] := hx
  subst hd
  have hw : ∀ x ∈ y0.1.weights P i ++ (y1.1.weights P u ++ y2.1.weights P b), x ≤ reachBytes := by
    intro x hx
    refine hL x ?_
    rw [DataW.weights, ht]
    simp only [List.map_cons, List.map_nil, DataW.weightsEach, h0, h1, h2, List.append_nil]
    exact hx
  obtain ⟨st, e0, _, _⟩ := DataW.trod_int hi q0
  match cs, hl with
  | [c0, v, v2], _ =>
    simp at e0
    subst e0
    have q1' : DataW.trod enc P w base (fun _ => true) held n u [v] = some (y1.1, y1.2) := by simpa using q1
    have q2' : DataW.trod enc P w base (fun _ => true) held n b [v2] = some (y2.1, y2.2) := by simpa using q2
    have hb : ∃ a0 len cap, v = .slice a0 len cap := by
      rcases Go.Deep.open_slice hu q1' with ⟨hcs, _⟩ | ⟨a, len', cap', m, n, D, Pl, hcs, _⟩
      · simp at hcs; exact ⟨_, _, _, hcs⟩
      · simp at hcs; exact ⟨_, _, _, hcs⟩
    obtain ⟨a0, len, cap, rfl⟩ := hb
    obtain ⟨l, rfl, hI, hz⟩ := open_pairs hu he k0 k1 j0 j1 hs hc hce q1' (fun x hx => hw x (List.mem_append_right _ (List.mem_append_left _ hx)))
    obtain ⟨a1, cap1, body, e2, hB, _⟩ := open_bytes hb h8 hc8 q2'
    simp at e2
    subst e2
    exact ⟨st, a0, a1, cap, cap1, l, body, rfl, hI, hB, hz⟩
end Go.Proofs.YtjhbiipbmlpgoaaDoor
