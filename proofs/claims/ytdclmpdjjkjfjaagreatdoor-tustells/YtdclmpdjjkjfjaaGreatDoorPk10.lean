/- Small texts, one behind the other: RowKitF, RowKitH, RowKitL, RowKitQ, RowKitE. -/
import Derived.Test.YtdclmpdjjkjfjaaGreatDoorPk3
import Derived.Test.YtdclmpdjjkjfjaaGreatDoorRowKit0
import Derived.Deep.Strs
import Derived.HandedShaped
/- Texts, structs of two texts, and slices of such, as an argument is read: their elements, once, and no text longer than the form's own reach. -/
namespace Go.Proofs.YtdclmpdjjkjfjaaGreatDoor
open Go.ChangeShapes Go.WideShapes Go.ChangeAt Go.RowKit

/-- all that a reading holds is within the form's reach -/
def Light {H : Type} (P : Program) (t : TypeId) (d : DataW H) : Prop := ∀ x ∈ d.weights P t, x ≤ reachBytes
theorem light_first {H : Type} {P : Program} {t : TypeId} {ts : List TypeId} {d : DataW H} {ds : List (DataW H)} (h : ∀ x ∈ DataW.weightsEach P (t :: ts) (d :: ds), x ≤ reachBytes) : Light P t d ∧ ∀ x ∈ DataW.weightsEach P ts ds, x ≤ reachBytes := by
  rw [DataW.weightsEach] at h
  exact ⟨fun x hx => h x (List.mem_append_left _ hx), fun x hx => h x (List.mem_append_right _ hx)⟩
theorem light_all {H : Type} {P : Program} {ts : List TypeId} {ds : List (DataW H)} (h : (DataW.weightsEach P ts ds).all (· ≤ reachBytes) = true) : ∀ x ∈ DataW.weightsEach P ts ds, x ≤ reachBytes := fun x hx => by
  simpa using List.all_eq_true.1 h x hx
theorem light_mem {H : Type} {P : Program} {e : TypeId} {l : List (DataW H)} {d : DataW H} (hd : d ∈ l) : ∀ x ∈ d.weights P e, x ∈ DataW.weightsAll P e l := by
  induction l with
  | nil => cases hd
  | cons a t ih =>
    intro x hx
    rw [DataW.weightsAll]
    rcases List.mem_cons.1 hd with rfl | hd
    · exact List.mem_append_left _ hx
    · exact List.mem_append_right _ (ih hd x hx)
theorem light_elem {H : Type} {P : Program} {t e : TypeId} (ht : P.underlying t = some (.slice e)) {elems spare : List (DataW H)} (h : Light P t (.slice elems spare)) {d : DataW H} (hd : d ∈ elems) : Light P e d := by
  intro x hx
  refine h x ?_
  rw [DataW.weights, ht]
  exact List.mem_cons_of_mem _ (List.mem_append_left _ (light_mem hd x hx))
/-- a slice takes no more than the reach -/
theorem light_len {H : Type} {P : Program} {t e : TypeId} (ht : P.underlying t = some (.slice e)) {elems spare : List (DataW H)} (h : Light P t (.slice elems spare)) : (elems.length + spare.length) * P.bytesOf e ≤ reachBytes := by
  refine h _ ?_
  rw [DataW.weights, ht]
  exact List.mem_cons_self ..

section
variable {H : Type} {enc : TypeId × Value → H} {P : Program} {w : World} {base : Nat} {spare : Nat → Bool} {held : Bool}
/-- a text -/
theorem open_text {t : TypeId} {fuel : Nat} {cs : List Value} {d : DataW H} {p : List MemPlace} (ht : P.underlying t = some .string) (h : DataW.trod enc P w base spare held fuel t cs = some (d, p)) (hL : Light P t d) :
    ∃ s : ByteArray, cs = [.string s] ∧ s.size ≤ reachBytes := by
  obtain ⟨s, h1, h2, h3⟩ := DataW.trod_string ht h
  injection h2 with h2 _
  subst h2
  refine ⟨s, h1, ?_⟩
  have := hL s.data.toList.length (by rw [DataW.weights]; exact List.mem_cons_self ..)
  rwa [Array.length_toList] at this
/-- a struct of two texts -/
theorem open_pair {t s : TypeId} {f0 f1 : Field} {fuel : Nat} {cs : List Value} {d : DataW H} {p : List MemPlace} (ht : P.underlying t = some (.struct #[f0, f1])) (h0 : f0.type = s) (h1 : f1.type = s) (o0 : f0.offset = 0) (o1 : f1.offset = 1)
    (hs : P.underlying s = some .string) (hc : P.cellsOf s = 1) (hct : P.cellsOf t = 2) (h : DataW.trod enc P w base spare held fuel t cs = some (d, p)) (hL : Light P t d) :
    ∃ n v : ByteArray, cs = [.string n, .string v] ∧ n.size ≤ reachBytes ∧ v.size ≤ reachBytes := by
  obtain ⟨y0, y1, m, hx, hl, k0, k1⟩ := trod_struct2 ht h
  rw [h0, hc, o0] at k0
  rw [h1, hc, o1] at k1
  rw [hct] at hl
  injection hx with hd _
  subst hd
  have hw : ∀ x ∈ y0.1.weights P s ++ y1.1.weights P s, x ≤ reachBytes := by
    intro x hx
    refine hL x ?_
    rw [DataW.weights, ht]
    simp only [List.map_cons, List.map_nil, DataW.weightsEach, h0, h1, List.append_nil]
    exact hx
  obtain ⟨n, e0, z0⟩ := open_text (d := y0.1) (p := y0.2) hs k0 (fun x hx => hw x (List.mem_append_left _ hx))
  obtain ⟨v, e1, z1⟩ := open_text (d := y1.1) (p := y1.2) hs k1 (fun x hx => hw x (List.mem_append_right _ hx))
  match cs, hl with
  | [a, b], _ =>
    simp at e0 e1
    subst e0; subst e1
    exact ⟨n, v, rfl, z0, z1⟩
/-- a slice of structs of two texts -/
theorem open_pairs {t u s : TypeId} {f0 f1 : Field} {fuel : Nat} {a0 : Option Addr} {len cap : Nat} {d : DataW H} {p : List MemPlace} (hu : P.underlying u = some (.slice t)) (ht : P.underlying t = some (.struct #[f0, f1])) (h0 : f0.type = s) (h1 : f1.type = s) (o0 : f0.offset = 0) (o1 : f1.offset = 1)
    (hs : P.underlying s = some .string) (hc : P.cellsOf s = 1) (hct : P.cellsOf t = 2) (h : DataW.trod enc P w base (fun _ => true) held fuel u [.slice a0 len cap] = some (d, p)) (hL : Light P u d) :
    ∃ l : List (ByteArray × ByteArray), l.length = len ∧ IsV w a0 cap l.length (pairV l) ∧ ∀ q ∈ l, q.1.size ≤ reachBytes ∧ q.2.size ≤ reachBytes := by
  rcases Go.Deep.open_slice hu h with ⟨hcs, _⟩ | ⟨a, len', cap', m, n, D, Pl, hcs, _, hl, _, hm, hx, hcell⟩
  · simp at hcs
    obtain ⟨rfl, rfl, rfl⟩ := hcs
    exact ⟨[], rfl, IsV.nil w, fun s hs => by cases hs⟩
  · simp at hcs
    obtain ⟨rfl, rfl, rfl⟩ := hcs
    simp only [if_true] at hm
    subst hm
    injection hx with hd _
    subst hd
    rw [hct] at hcell
    have each : ∀ i, i < len → ∃ q : ByteArray × ByteArray, w.cell? (a.add (i * 2)) = some (.string q.1) ∧ w.cell? (a.add (i * 2 + 1)) = some (.string q.2) ∧ q.1.size ≤ reachBytes ∧ q.2.size ≤ reachBytes := by
      intro i hi
      obtain ⟨cs', k1, k2⟩ := hcell i (by omega)
      obtain ⟨x, y, rfl, zx, zy⟩ := open_pair ht h0 h1 o0 o1 hs hc hct k2 (light_elem hu hL (List.mem_map.2 ⟨i, List.mem_range.2 hi, rfl⟩))
      obtain ⟨_, _, k3⟩ := World.cells?_some k1
      have k30 := k3 0 (by omega)
      have k31 := k3 1 (by omega)
      rw [Addr.add_add] at k30 k31
      exact ⟨(x, y), by simpa using k30, by simpa using k31, zx, zy⟩
    obtain ⟨F, hF⟩ := Go.Deep.choose_lt each
    have hlen : ((List.range len).map F).length = len := by simp
    refine ⟨(List.range len).map F, hlen, ⟨by omega, (fun h => by cases h), fun j u hj => ⟨a, rfl, ?_⟩⟩, fun q hq => ?_⟩
    · have hlt : j < len * 2 := by
        have := (List.getElem?_eq_some_iff.1 hj).1
        rwa [pairV_length, hlen] at this
      have hk : j / 2 < ((List.range len).map F).length := by rw [hlen]; omega
      have hp := pairV_at _ (j / 2) hk
      have hf := hF (j / 2) (by omega)
      have hg : ((List.range len).map F)[j / 2] = F (j / 2) := by simp
      rw [hg] at hp
      by_cases e : j % 2 = 0
      · have ej : j / 2 * 2 = j := by omega
        rw [ej] at hp hf
        rw [hp.1] at hj
        injection hj with hj; subst hj
        exact hf.1
      · have ej : j / 2 * 2 + 1 = j := by omega
        rw [ej] at hp hf
        rw [hp.2] at hj
        injection hj with hj; subst hj
        exact hf.2.1
    · obtain ⟨j, hj, rfl⟩ := List.mem_map.1 hq
      have := hF j (List.mem_range.1 hj)
      exact ⟨this.2.2.1, this.2.2.2⟩
end
end Go.Proofs.YtdclmpdjjkjfjaaGreatDoor

/- A struct of two texts, a number, a slice of structs of two texts and a number (a head), as an argument is read. -/
namespace Go.Proofs.YtdclmpdjjkjfjaaGreatDoor
open Go.ChangeShapes Go.WideShapes Go.ChangeAt Go.RowKit
variable {H : Type} {enc : TypeId × Value → H} {P : Program} {w : World} {base : Nat} {held : Bool}

theorem trod_struct5 {spare : Nat → Bool} {t : TypeId} {f0 f1 f2 f3 f4 : Field} {fuel : Nat} {cs : List Value} {x : DataW H × List MemPlace} (ht : P.underlying t = some (.struct #[f0, f1, f2, f3, f4])) (h : DataW.trod enc P w base spare held fuel t cs = some x) :
    ∃ y0 y1 y2 y3 y4 n, x.1 = .agg [y0.1, y1.1, y2.1, y3.1, y4.1] ∧ cs.length = P.cellsOf t ∧ DataW.trod enc P w base spare held n f0.type ((cs.drop f0.offset).take (P.cellsOf f0.type)) = some y0 ∧
      DataW.trod enc P w base spare held n f1.type ((cs.drop f1.offset).take (P.cellsOf f1.type)) = some y1 ∧ DataW.trod enc P w base spare held n f2.type ((cs.drop f2.offset).take (P.cellsOf f2.type)) = some y2 ∧
      DataW.trod enc P w base spare held n f3.type ((cs.drop f3.offset).take (P.cellsOf f3.type)) = some y3 ∧ DataW.trod enc P w base spare held n f4.type ((cs.drop f4.offset).take (P.cellsOf f4.type)) = some y4 := by
  obtain ⟨xs, n, _, rfl, hl, hlen, hf⟩ := DataW.trod_struct ht h
  match xs, hlen with
  | [y0, y1, y2, y3, y4], _ => exact ⟨y0, y1, y2, y3, y4, n, by simp, hl, by simpa using hf 0 f0 rfl, by simpa using hf 1 f1 rfl, by simpa using hf 2 f2 rfl, by simpa using hf 3 f3 rfl, by simpa using hf 4 f4 rfl⟩

theorem open_head {t u e s i : TypeId} {f0 f1 f2 f3 f4 g0 g1 : Field} {fuel : Nat} {cs : List Value} {d : DataW H} {p : List MemPlace}
    (ht : P.underlying t = some (.struct #[f0, f1, f2, f3, f4])) (h0 : f0.type = s) (h1 : f1.type = s) (h2 : f2.type = i) (h3 : f3.type = u) (h4 : f4.type = i) (o0 : f0.offset = 0) (o1 : f1.offset = 1) (o2 : f2.offset = 2) (o3 : f3.offset = 3) (o4 : f4.offset = 4)
    (hu : P.underlying u = some (.slice e)) (he : P.underlying e = some (.struct #[g0, g1])) (k0 : g0.type = s) (k1 : g1.type = s) (j0 : g0.offset = 0) (j1 : g1.offset = 1)
    (hs : P.underlying s = some .string) (hi : P.underlying i = some (.int .i64)) (hc : P.cellsOf s = 1) (hci : P.cellsOf i = 1) (hcu : P.cellsOf u = 1) (hct : P.cellsOf t = 5) (hce : P.cellsOf e = 2)
    (h : DataW.trod enc P w base (fun _ => true) held fuel t cs = some (d, p)) (hL : Light P t d) :
    ∃ (m g : ByteArray) (mi ln : Int) (a0 : Option Addr) (cap : Nat) (l : List (ByteArray × ByteArray)), cs = [.string m, .string g, .int .i64 mi, .slice a0 l.length cap, .int .i64 ln] ∧ IsV w a0 cap l.length (pairV l) ∧ m.size ≤ reachBytes ∧ g.size ≤ reachBytes ∧ ∀ q ∈ l, q.1.size ≤ reachBytes ∧ q.2.size ≤ reachBytes := by
  obtain ⟨y0, y1, y2, y3, y4, n, hx, hl, q0, q1, q2, q3, q4⟩ := trod_struct5 ht h
  rw [h0, hc, o0] at q0
  rw [h1, hc, o1] at q1
  rw [h2, hci, o2] at q2
  rw [h3, hcu, o3] at q3
  rw [h4, hci, o4] at q4
  rw [hct] at hl
  have hd : d = .agg [y0.1, y1.1, y2.1, y3.1, y4.1] := hx
  subst hd
  have hw : ∀ x ∈ y0.1.weights P s ++ (y1.1.weights P s ++ (y2.1.weights P i ++ (y3.1.weights P u ++ y4.1.weights P i))), x ≤ reachBytes := by
    intro x hx
    refine hL x ?_
    rw [DataW.weights, ht]
    simp only [List.map_cons, List.map_nil, DataW.weightsEach, h0, h1, h2, h3, h4, List.append_nil]
    exact hx
  obtain ⟨m, e0, z0⟩ := open_text (d := y0.1) (p := y0.2) hs q0 (fun x hx => hw x (List.mem_append_left _ hx))
  obtain ⟨g, e1, z1⟩ := open_text (d := y1.1) (p := y1.2) hs q1 (fun x hx => hw x (List.mem_append_right _ (List.mem_append_left _ hx)))
  obtain ⟨mi, e2, _, _⟩ := DataW.trod_int hi q2
  obtain ⟨ln, e4, _, _⟩ := DataW.trod_int hi q4
  match cs, hl with
  | [a, b, c, v, f], _ =>
    simp at e0 e1 e2 e4
    subst e0; subst e1; subst e2; subst e4
    have q3' : DataW.trod enc P w base (fun _ => true) held n u [v] = some (y3.1, y3.2) := by simpa using q3
    have hb : ∃ a0 len cap, v = .slice a0 len cap := by
      rcases Go.Deep.open_slice hu q3' with ⟨hcs, _⟩ | ⟨a, len', cap', m, n, D, Pl, hcs, _⟩
      · simp at hcs; exact ⟨_, _, _, hcs⟩
      · simp at hcs; exact ⟨_, _, _, hcs⟩
    obtain ⟨a0, len, cap, rfl⟩ := hb
    obtain ⟨l, rfl, hI, hz⟩ := open_pairs hu he k0 k1 j0 j1 hs hc hce q3' (fun x hx => hw x (List.mem_append_right _ (List.mem_append_right _ (List.mem_append_right _ (List.mem_append_left _ hx)))))
    exact ⟨m, g, mi, ln, a0, cap, l, rfl, hI, z0, z1, hz⟩
end Go.Proofs.YtdclmpdjjkjfjaaGreatDoor

/- A slice of bytes, and a slice of such, as an argument is read: their elements, once. -/
namespace Go.Proofs.YtdclmpdjjkjfjaaGreatDoor
open Go.ChangeShapes Go.WideShapes Go.ChangeAt Go.RowKit

/-- a reading is of so many elements -/
def Spans {H : Type} (d : DataW H) (n : Nat) : Prop := (d = .nil ∧ n = 0) ∨ ∃ elems spare, d = .slice elems spare ∧ elems.length = n
section
variable {H : Type} {enc : TypeId × Value → H} {P : Program} {w : World} {base : Nat} {held : Bool}
/-- a slice of bytes -/
theorem open_bytes {u e : TypeId} {fuel : Nat} {cs : List Value} {d : DataW H} {p : List MemPlace} (hu : P.underlying u = some (.slice e)) (he : P.underlying e = some (.int .u8)) (hc : P.cellsOf e = 1)
    (h : DataW.trod enc P w base (fun _ => true) held fuel u cs = some (d, p)) :
    ∃ (a0 : Option Addr) (cap : Nat) (l : List UInt8), cs = [.slice a0 l.length cap] ∧ IsB w a0 cap l ∧ Spans d l.length := by
  rcases open_ints hu he hc h with ⟨hcs, hx⟩ | ⟨a, len, cap, zs, hcs, _, hl, _, hz, hx, hcell, hwz⟩
  · injection hx with hd _
    exact ⟨none, 0, [], hcs, IsB.nil w, Or.inl ⟨hd, rfl⟩⟩
  · simp only [if_true] at hz
    injection hx with hd _
    have hlen : ((zs.take len).map fun z => UInt8.ofNat z.toNat).length = len := by rw [List.length_map, List.length_take]; omega
    refine ⟨some a, cap, (zs.take len).map (fun z => UInt8.ofNat z.toNat), by rw [hlen]; exact hcs, ⟨by omega, (fun h => by cases h), fun j hj => ⟨a, rfl, ?_⟩⟩, Or.inr ⟨_, _, hd, ?_⟩⟩
    · rw [hlen] at hj
      have hj' : j < zs.length := by omega
      rw [hcell j hj']
      have hg : zs.getD j 0 = zs[j] := by simp [List.getD, hj']
      have hw := hwz zs[j] (List.getElem_mem _)
      have hx : 0 ≤ zs[j] ∧ zs[j] ≤ 255 := by simpa [Lit.wf, IntKind.min, IntKind.max, IntKind.signed, IntKind.bits] using hw
      rw [hg]
      simp only [List.getElem_map, List.getElem_take]
      have e : ((UInt8.ofNat zs[j].toNat).toNat : Int) = zs[j] := by
        rw [UInt8.toNat_ofNat']; omega
      rw [e]
    · simp [lits] <;> omega
theorem Spans.light {u e : TypeId} {d : DataW H} {n : Nat} (hu : P.underlying u = some (.slice e)) (hb : P.bytesOf e = 1) (h : Spans d n) (hL : Light P u d) : n ≤ reachBytes := by
  rcases h with ⟨rfl, rfl⟩ | ⟨elems, spare, rfl, rfl⟩
  · exact Nat.zero_le _
  · have := light_len hu hL
    rw [hb] at this
    omega
/-- a slice of slices of bytes -/
theorem open_lists {v u e : TypeId} {fuel : Nat} {cs : List Value} {d : DataW H} {p : List MemPlace} (hv : P.underlying v = some (.slice u)) (hu : P.underlying u = some (.slice e)) (he : P.underlying e = some (.int .u8)) (hc : P.cellsOf e = 1) (hcu : P.cellsOf u = 1)
    (h : DataW.trod enc P w base (fun _ => true) held fuel v cs = some (d, p)) :
    ∃ (a0 : Option Addr) (cap : Nat) (ls : List (List UInt8)), cs = [.slice a0 ls.length cap] ∧ IsL w a0 cap ls ∧
      ((d = .nil ∧ ls = []) ∨ ∃ elems spare, d = .slice elems spare ∧ elems.length = ls.length ∧ ∀ (j : Nat) x l, elems[j]? = some x → ls[j]? = some l → Spans x l.length) := by
  rcases Go.Deep.open_slice1 hv hcu h with ⟨hcs, hx⟩ | ⟨a, len, cap, m, n, V, D, Pl, hcs, _, hl, _, hm, hx, hcell⟩
  · injection hx with hd _
    exact ⟨none, 0, [], hcs, IsL.nil w, Or.inl ⟨hd, rfl⟩⟩
  · simp only [if_true] at hm
    subst hm
    injection hx with hd _
    have each : ∀ i, i < len → ∃ q : Option Addr × Nat × List UInt8, V i = .slice q.1 q.2.2.length q.2.1 ∧ IsB w q.1 q.2.1 q.2.2 ∧ Spans (D i) q.2.2.length := by
      intro i hi
      obtain ⟨_, k2⟩ := hcell i (by omega)
      obtain ⟨a1, c1, l, e1, h1, h2⟩ := open_bytes hu he hc k2
      injection e1 with e1 _
      exact ⟨(a1, c1, l), e1, h1, h2⟩
    obtain ⟨F, hF⟩ := Go.Deep.choose_lt each
    have hlen : ((List.range len).map fun i => (F i).2.2).length = len := by simp
    refine ⟨some a, m, (List.range len).map (fun i => (F i).2.2), by rw [hlen]; exact hcs, ⟨by omega, (fun h => by cases h), fun j hj => ?_⟩, Or.inr ⟨_, _, hd, by simp, fun j x l hx hl => ?_⟩⟩
    · rw [hlen] at hj
      have hf := hF j hj
      have hk := (hcell j (by omega)).1
      rw [hf.1] at hk
      refine ⟨a, (F j).1, (F j).2.1, rfl, ?_, ?_⟩
      · rw [hk]; simp
      · simpa using hf.2.1
    · have hj : j < len := by
        have := (List.getElem?_eq_some_iff.1 hl).1
        rwa [hlen] at this
      have e1 : D j = x := by simpa [hj] using hx
      have e2 : (F j).2.2 = l := by simpa [hj] using hl
      rw [← e1, ← e2]
      exact (hF j hj).2.2
end
end Go.Proofs.YtdclmpdjjkjfjaaGreatDoor

/- A slice of requests about uploads (a head and a body each), as an argument is read. -/
namespace Go.Proofs.YtdclmpdjjkjfjaaGreatDoor
open Go.ChangeShapes Go.WideShapes Go.ChangeAt Go.RowKit
section
variable {H : Type} {enc : TypeId × Value → H} {P : Program} {w : World} {base : Nat} {held : Bool}
/-- a request's texts and bytes take no more than the reach -/
structure AqLight (q : Aq) : Prop where
  m : q.m.size ≤ reachBytes
  t : q.t.size ≤ reachBytes
  body : q.body.length ≤ reachBytes
  fl : ∀ p ∈ q.fl, p.1.size ≤ reachBytes ∧ p.2.size ≤ reachBytes
theorem trod_two {spare : Nat → Bool} {t : TypeId} {f0 f1 : Field} {fuel : Nat} {cs : List Value} {x : DataW H × List MemPlace} (ht : P.underlying t = some (.struct #[f0, f1])) (h : DataW.trod enc P w base spare held fuel t cs = some x) :
    ∃ y0 y1 n, x.1 = .agg [y0.1, y1.1] ∧ cs.length = P.cellsOf t ∧ DataW.trod enc P w base spare held n f0.type ((cs.drop f0.offset).take (P.cellsOf f0.type)) = some y0 ∧
      DataW.trod enc P w base spare held n f1.type ((cs.drop f1.offset).take (P.cellsOf f1.type)) = some y1 := by
  obtain ⟨xs, n, _, rfl, hl, hlen, hf⟩ := DataW.trod_struct ht h
  match xs, hlen with
  | [y0, y1], _ => exact ⟨y0, y1, n, by simp, hl, by simpa using hf 0 f0 rfl, by simpa using hf 1 f1 rfl⟩
/-- the types of a request -/
structure AskT (P : Program) (v k t u e s i b u8 : TypeId) : Prop where
  hv : P.underlying v = some (.slice k)
  hk : ∃ k0 k1 : Field, P.underlying k = some (.struct #[k0, k1]) ∧ k0.type = t ∧ k1.type = b ∧ k0.offset = 0 ∧ k1.offset = 5
  ht : ∃ f0 f1 f2 f3 f4 : Field, P.underlying t = some (.struct #[f0, f1, f2, f3, f4]) ∧ f0.type = s ∧ f1.type = s ∧ f2.type = i ∧ f3.type = u ∧ f4.type = i ∧ f0.offset = 0 ∧ f1.offset = 1 ∧ f2.offset = 2 ∧ f3.offset = 3 ∧ f4.offset = 4
  hu : P.underlying u = some (.slice e)
  he : ∃ g0 g1 : Field, P.underlying e = some (.struct #[g0, g1]) ∧ g0.type = s ∧ g1.type = s ∧ g0.offset = 0 ∧ g1.offset = 1
  hs : P.underlying s = some .string
  hi : P.underlying i = some (.int .i64)
  hb : P.underlying b = some (.slice u8)
  h8 : P.underlying u8 = some (.int .u8)
  cs : P.cellsOf s = 1
  ci : P.cellsOf i = 1
  cu : P.cellsOf u = 1
  cb : P.cellsOf b = 1
  c8 : P.cellsOf u8 = 1
  ct : P.cellsOf t = 5
  ce : P.cellsOf e = 2
  ck : P.cellsOf k = 6
  b8 : P.bytesOf u8 = 1
theorem open_ask {v k t u e s i b u8 : TypeId} (A : AskT P v k t u e s i b u8) {fuel : Nat} {cs : List Value} {d : DataW H} {p : List MemPlace}
    (h : DataW.trod enc P w base (fun _ => true) held fuel k cs = some (d, p)) (hL : Light P k d) :
    ∃ (q : Aq) (x : AqS), cs = aqC q x ∧ IsV w x.fo x.fcap q.fl.length (pairV q.fl) ∧ IsB w x.bo x.bcap q.body ∧ AqLight q := by
  obtain ⟨k0, k1, hk, kt0, kt1, ko0, ko1⟩ := A.hk
  obtain ⟨f0, f1, f2, f3, f4, ht, t0, t1, t2, t3, t4, o0, o1, o2, o3, o4⟩ := A.ht
  obtain ⟨g0, g1, he, e0, e1, p0, p1⟩ := A.he
  obtain ⟨y0, y1, n, hx, hl, q0, q1⟩ := trod_two hk h
  rw [kt0, A.ct, ko0] at q0
  rw [kt1, A.cb, ko1] at q1
  rw [A.ck] at hl
  have hd : d = .agg [y0.1, y1.1] := hx
  subst hd
  have hw : ∀ x ∈ y0.1.weights P t ++ y1.1.weights P b, x ≤ reachBytes := by
    intro x hx
    refine hL x ?_
    rw [DataW.weights, hk]
    simp only [List.map_cons, List.map_nil, DataW.weightsEach, kt0, kt1, List.append_nil]
    exact hx
  match cs, hl with
  | [c0, c1, c2, c3, c4, c5], _ =>
    have q0' : DataW.trod enc P w base (fun _ => true) held n t [c0, c1, c2, c3, c4] = some (y0.1, y0.2) := by simpa using q0
    have q1' : DataW.trod enc P w base (fun _ => true) held n b [c5] = some (y1.1, y1.2) := by simpa using q1
    obtain ⟨m, g, mi, ln, a0, cap, l, hcs, hI, z0, z1, hz⟩ := open_head (s := s) (i := i) (u := u) (e := e) ht t0 t1 t2 t3 t4 o0 o1 o2 o3 o4 A.hu he e0 e1 p0 p1 A.hs A.hi A.cs A.ci A.cu A.ct A.ce q0' (fun x hx => hw x (List.mem_append_left _ hx))
    obtain ⟨b0, bcap, body, hb5, hB, sp⟩ := open_bytes A.hb A.h8 A.c8 q1'
    have hbl := sp.light A.hb A.b8 (fun x hx => hw x (List.mem_append_right _ hx))
    simp at hcs hb5
    obtain ⟨rfl, rfl, rfl, rfl, rfl⟩ := hcs
    subst hb5
    exact ⟨⟨m, g, mi, ln, l, body⟩, ⟨a0, cap, b0, bcap⟩, rfl, hI, hB, ⟨z0, z1, hbl, hz⟩⟩
theorem open_asks {v k t u e s i b u8 : TypeId} (A : AskT P v k t u e s i b u8) {fuel : Nat} {a0 : Option Addr} {len cap : Nat} {d : DataW H} {p : List MemPlace}
    (h : DataW.trod enc P w base (fun _ => true) held fuel v [.slice a0 len cap] = some (d, p)) (hL : Light P v d) :
    ∃ l : List Aq, l.length = len ∧ IsAqs w a0 cap l ∧ ∀ q ∈ l, AqLight q := by
  rcases Go.Deep.open_slice A.hv h with ⟨hcs, _⟩ | ⟨a, len', cap', m, n, D, Pl, hcs, _, hl, _, hm, hx, hcell⟩
  · simp at hcs
    obtain ⟨rfl, rfl, rfl⟩ := hcs
    exact ⟨[], rfl, IsAqs.nil w, fun s hs => by cases hs⟩
  · simp at hcs
    obtain ⟨rfl, rfl, rfl⟩ := hcs
    simp only [if_true] at hm
    subst hm
    injection hx with hd _
    subst hd
    rw [A.ck] at hcell
    have each : ∀ i, i < len → ∃ q : Aq × AqS, (∀ j u, (aqC q.1 q.2)[j]? = some u → w.cell? (a.add (i * 6 + j)) = some u) ∧ (IsV w q.2.fo q.2.fcap q.1.fl.length (pairV q.1.fl) ∧ IsB w q.2.bo q.2.bcap q.1.body) ∧ AqLight q.1 := by
      intro i hi
      obtain ⟨cs', k1, k2⟩ := hcell i (by omega)
      obtain ⟨q, x, rfl, hV, hB, hz⟩ := open_ask A k2 (light_elem A.hv hL (List.mem_map.2 ⟨i, List.mem_range.2 hi, rfl⟩))
      obtain ⟨_, _, k3⟩ := World.cells?_some k1
      refine ⟨(q, x), fun j u hj => ?_, ⟨hV, hB⟩, hz⟩
      have hj6 : j < 6 := (List.getElem?_eq_some_iff.1 hj).1
      have := k3 j hj6
      rw [Addr.add_add] at this
      rw [this]
      simpa [aqC] using hj
    haveI : Inhabited (Aq × AqS) := ⟨(⟨⟨#[]⟩, ⟨#[]⟩, 0, 0, [], []⟩, ⟨none, 0, none, 0⟩)⟩
    obtain ⟨F, hF⟩ := Go.Deep.choose_lt each
    have hlen : ((List.range len).map F).length = len := by simp
    have hlen' : (((List.range len).map F).map (·.1)).length = len := by simp
    refine ⟨((List.range len).map F).map (·.1), hlen', ⟨(List.range len).map F, rfl, ?_, fun q hq => ?_⟩, fun q hq => ?_⟩
    · rw [hlen']
      refine ⟨by omega, (fun h => by cases h), fun j u hj => ⟨a, rfl, ?_⟩⟩
      have hlt : j < len * 6 := by
        have := (List.getElem?_eq_some_iff.1 hj).1
        rwa [aqV_length, hlen] at this
      have hk : j / 6 < ((List.range len).map F).length := by rw [hlen]; omega
      have hp := aqV_at _ (j / 6) hk (j % 6) (by omega)
      have hg : ((List.range len).map F)[j / 6] = F (j / 6) := by simp
      rw [hg, show j / 6 * 6 + j % 6 = j by omega, hj] at hp
      have hf := (hF (j / 6) (by omega)).1 (j % 6) u hp.symm
      rwa [show j / 6 * 6 + j % 6 = j by omega] at hf
    · obtain ⟨j, hj, rfl⟩ := List.mem_map.1 hq
      exact (hF j (List.mem_range.1 hj)).2.1
    · obtain ⟨x, hx, rfl⟩ := List.mem_map.1 hq
      obtain ⟨j, hj, rfl⟩ := List.mem_map.1 hx
      exact (hF j (List.mem_range.1 hj)).2.2
end
end Go.Proofs.YtdclmpdjjkjfjaaGreatDoor

/- Events (a number, a head, bytes, a part, a number), and slices of such, as an argument is read. -/
namespace Go.Proofs.YtdclmpdjjkjfjaaGreatDoor
open Go.ChangeShapes Go.WideShapes Go.ChangeAt Go.RowKit
variable {H : Type} {enc : TypeId × Value → H} {P : Program} {w : World} {base : Nat} {held : Bool}

theorem trod_struct4 {spare : Nat → Bool} {t : TypeId} {f0 f1 f2 f3 : Field} {fuel : Nat} {cs : List Value} {x : DataW H × List MemPlace} (ht : P.underlying t = some (.struct #[f0, f1, f2, f3])) (h : DataW.trod enc P w base spare held fuel t cs = some x) :
    ∃ y0 y1 y2 y3 n, x.1 = .agg [y0.1, y1.1, y2.1, y3.1] ∧ cs.length = P.cellsOf t ∧ DataW.trod enc P w base spare held n f0.type ((cs.drop f0.offset).take (P.cellsOf f0.type)) = some y0 ∧
      DataW.trod enc P w base spare held n f1.type ((cs.drop f1.offset).take (P.cellsOf f1.type)) = some y1 ∧ DataW.trod enc P w base spare held n f2.type ((cs.drop f2.offset).take (P.cellsOf f2.type)) = some y2 ∧
      DataW.trod enc P w base spare held n f3.type ((cs.drop f3.offset).take (P.cellsOf f3.type)) = some y3 := by
  obtain ⟨xs, n, _, rfl, hl, hlen, hf⟩ := DataW.trod_struct ht h
  match xs, hlen with
  | [y0, y1, y2, y3], _ => exact ⟨y0, y1, y2, y3, n, by simp, hl, by simpa using hf 0 f0 rfl, by simpa using hf 1 f1 rfl, by simpa using hf 2 f2 rfl, by simpa using hf 3 f3 rfl⟩

/-- three texts and bytes -/
theorem open_part {t b u s : TypeId} {f0 f1 f2 f3 : Field} {fuel : Nat} {cs : List Value} {d : DataW H} {p : List MemPlace}
    (ht : P.underlying t = some (.struct #[f0, f1, f2, f3])) (h0 : f0.type = s) (h1 : f1.type = s) (h2 : f2.type = s) (h3 : f3.type = b) (o0 : f0.offset = 0) (o1 : f1.offset = 1) (o2 : f2.offset = 2) (o3 : f3.offset = 3)
    (hb : P.underlying b = some (.slice u)) (hu : P.underlying u = some (.int .u8)) (hs : P.underlying s = some .string) (hc : P.cellsOf s = 1) (hcb : P.cellsOf b = 1) (hcu : P.cellsOf u = 1) (hct : P.cellsOf t = 4) (hbu : P.bytesOf u = 1)
    (h : DataW.trod enc P w base (fun _ => true) held fuel t cs = some (d, p)) (hL : Light P t d) :
    ∃ (x y z : ByteArray) (a0 : Option Addr) (cap : Nat) (l : List UInt8), cs = [.string x, .string y, .string z, .slice a0 l.length cap] ∧ IsB w a0 cap l ∧ x.size ≤ reachBytes ∧ y.size ≤ reachBytes ∧ z.size ≤ reachBytes ∧ l.length ≤ reachBytes := by
  obtain ⟨y0, y1, y2, y3, n, hx, hl, q0, q1, q2, q3⟩ := trod_struct4 ht h
  rw [h0, hc, o0] at q0
  rw [h1, hc, o1] at q1
  rw [h2, hc, o2] at q2
  rw [h3, hcb, o3] at q3
  rw [hct] at hl
  have hd : d = .agg [y0.1, y1.1, y2.1, y3.1] := hx
  subst hd
  have hw : ∀ x ∈ y0.1.weights P s ++ (y1.1.weights P s ++ (y2.1.weights P s ++ y3.1.weights P b)), x ≤ reachBytes := by
    intro x hx
    refine hL x ?_
    rw [DataW.weights, ht]
    simp only [List.map_cons, List.map_nil, DataW.weightsEach, h0, h1, h2, h3, List.append_nil]
    exact hx
  obtain ⟨x, e0, z0⟩ := open_text (d := y0.1) (p := y0.2) hs q0 (fun x hx => hw x (List.mem_append_left _ hx))
  obtain ⟨y, e1, z1⟩ := open_text (d := y1.1) (p := y1.2) hs q1 (fun x hx => hw x (List.mem_append_right _ (List.mem_append_left _ hx)))
  obtain ⟨z, e2, z2⟩ := open_text (d := y2.1) (p := y2.2) hs q2 (fun x hx => hw x (List.mem_append_right _ (List.mem_append_right _ (List.mem_append_left _ hx))))
  match cs, hl with
  | [a, b', c, v], _ =>
    simp at e0 e1 e2
    subst e0; subst e1; subst e2
    obtain ⟨a0, cap, l, e3, hI, hS⟩ := open_bytes (d := y3.1) (p := y3.2) (cs := [v]) hb hu hcu (by simpa using q3)
    injection e3 with e3 _
    subst e3
    exact ⟨x, y, z, a0, cap, l, rfl, hI, z0, z1, z2, hS.light hb hbu (fun x hx => hw x (List.mem_append_right _ (List.mem_append_right _ (List.mem_append_right _ hx))))⟩
/-- an event's texts and lists take no more than the reach -/
structure EvD.Light (e : EvD) : Prop where
  method : e.method.size ≤ reachBytes
  target : e.target.size ≤ reachBytes
  fields : ∀ q ∈ e.fields, q.1.size ≤ reachBytes ∧ q.2.size ≤ reachBytes
  many : e.fields.length * 32 ≤ reachBytes
  bytes : e.bytes.length ≤ reachBytes
  pname : e.pname.size ≤ reachBytes
  pfile : e.pfile.size ≤ reachBytes
  ptype : e.ptype.size ≤ reachBytes
  pbytes : e.pbytes.length ≤ reachBytes
/-- how many pairs a slice holds, by the reach -/
theorem pairs_many {u t : TypeId} {fuel : Nat} {a0 : Option Addr} {len cap k : Nat} {d : DataW H} {p : List MemPlace} (hu : P.underlying u = some (.slice t)) (hb : P.bytesOf t = k) (h : DataW.trod enc P w base (fun _ => true) held fuel u [.slice a0 len cap] = some (d, p)) (hL : Light P u d) : len * k ≤ reachBytes := by
  rcases Go.Deep.open_slice hu h with ⟨hcs, _⟩ | ⟨a, len', cap', m, n, D, Pl, hcs, _, hl, _, hm, hx, hcell⟩
  · simp at hcs
    obtain ⟨rfl, rfl, rfl⟩ := hcs
    rw [Nat.zero_mul]; exact Nat.zero_le _
  · simp at hcs
    obtain ⟨rfl, rfl, rfl⟩ := hcs
    simp only [if_true] at hm
    subst hm
    injection hx with hd _
    subst hd
    have := light_len hu hL
    rw [hb] at this
    simp at this
    refine Nat.le_trans (Nat.mul_le_mul_right k ?_) this
    omega
/-- a head, and how many fields it has -/
theorem open_head_many {t u e s i : TypeId} {f0 f1 f2 f3 f4 g0 g1 : Field} {fuel : Nat} {cs : List Value} {d : DataW H} {p : List MemPlace}
    (ht : P.underlying t = some (.struct #[f0, f1, f2, f3, f4])) (h0 : f0.type = s) (h1 : f1.type = s) (h2 : f2.type = i) (h3 : f3.type = u) (h4 : f4.type = i) (o0 : f0.offset = 0) (o1 : f1.offset = 1) (o2 : f2.offset = 2) (o3 : f3.offset = 3) (o4 : f4.offset = 4)
    (hu : P.underlying u = some (.slice e)) (he : P.underlying e = some (.struct #[g0, g1])) (k0 : g0.type = s) (k1 : g1.type = s) (j0 : g0.offset = 0) (j1 : g1.offset = 1)
    (hs : P.underlying s = some .string) (hi : P.underlying i = some (.int .i64)) (hc : P.cellsOf s = 1) (hci : P.cellsOf i = 1) (hcu : P.cellsOf u = 1) (hct : P.cellsOf t = 5) (hce : P.cellsOf e = 2) (hbe : P.bytesOf e = 32)
    (h : DataW.trod enc P w base (fun _ => true) held fuel t cs = some (d, p)) (hL : Light P t d) :
    ∃ (m g : ByteArray) (mi ln : Int) (a0 : Option Addr) (cap : Nat) (l : List (ByteArray × ByteArray)), cs = [.string m, .string g, .int .i64 mi, .slice a0 l.length cap, .int .i64 ln] ∧ IsV w a0 cap l.length (pairV l) ∧ m.size ≤ reachBytes ∧ g.size ≤ reachBytes ∧ (∀ q ∈ l, q.1.size ≤ reachBytes ∧ q.2.size ≤ reachBytes) ∧ l.length * 32 ≤ reachBytes := by
  obtain ⟨m, g, mi, ln, a0, cap, l, hcs, hI, z0, z1, hz⟩ := open_head ht h0 h1 h2 h3 h4 o0 o1 o2 o3 o4 hu he k0 k1 j0 j1 hs hi hc hci hcu hct hce h hL
  refine ⟨m, g, mi, ln, a0, cap, l, hcs, hI, z0, z1, hz, ?_⟩
  obtain ⟨y0, y1, y2, y3, y4, n, hx, hl, q0, q1, q2, q3, q4⟩ := trod_struct5 ht h
  rw [h3, hcu, o3, hcs] at q3
  have hd : d = .agg [y0.1, y1.1, y2.1, y3.1, y4.1] := hx
  subst hd
  have q3' : DataW.trod enc P w base (fun _ => true) held n u [.slice a0 l.length cap] = some (y3.1, y3.2) := by simpa using q3
  refine pairs_many hu hbe q3' (fun x hx => hL x ?_)
  rw [DataW.weights, ht]
  simp only [List.map_cons, List.map_nil, DataW.weightsEach, h0, h1, h2, h3, h4, List.append_nil]
  exact List.mem_append_right _ (List.mem_append_right _ (List.mem_append_right _ (List.mem_append_left _ hx)))
/-- what an event's type is made of -/
structure EvT (P : Program) (tE tH tF tS tI tB tU tP tL : TypeId) : Prop where
  ev : ∃ f0 f1 f2 f3 f4 : Field, P.underlying tE = some (.struct #[f0, f1, f2, f3, f4]) ∧ f0.type = tI ∧ f1.type = tH ∧ f2.type = tB ∧ f3.type = tP ∧ f4.type = tI ∧ f0.offset = 0 ∧ f1.offset = 1 ∧ f2.offset = 6 ∧ f3.offset = 7 ∧ f4.offset = 11
  head : ∃ f0 f1 f2 f3 f4 : Field, P.underlying tH = some (.struct #[f0, f1, f2, f3, f4]) ∧ f0.type = tS ∧ f1.type = tS ∧ f2.type = tI ∧ f3.type = tL ∧ f4.type = tI ∧ f0.offset = 0 ∧ f1.offset = 1 ∧ f2.offset = 2 ∧ f3.offset = 3 ∧ f4.offset = 4
  field : ∃ g0 g1 : Field, P.underlying tF = some (.struct #[g0, g1]) ∧ g0.type = tS ∧ g1.type = tS ∧ g0.offset = 0 ∧ g1.offset = 1
  part : ∃ f0 f1 f2 f3 : Field, P.underlying tP = some (.struct #[f0, f1, f2, f3]) ∧ f0.type = tS ∧ f1.type = tS ∧ f2.type = tS ∧ f3.type = tB ∧ f0.offset = 0 ∧ f1.offset = 1 ∧ f2.offset = 2 ∧ f3.offset = 3
  list : P.underlying tL = some (.slice tF)
  bytes : P.underlying tB = some (.slice tU)
  u8 : P.underlying tU = some (.int .u8)
  str : P.underlying tS = some .string
  int : P.underlying tI = some (.int .i64)
  cE : P.cellsOf tE = 12
  cH : P.cellsOf tH = 5
  cF : P.cellsOf tF = 2
  cS : P.cellsOf tS = 1
  cI : P.cellsOf tI = 1
  cB : P.cellsOf tB = 1
  cU : P.cellsOf tU = 1
  cP : P.cellsOf tP = 4
  cL : P.cellsOf tL = 1
  bF : P.bytesOf tF = 32
  bU : P.bytesOf tU = 1
theorem open_event {tE tH tF tS tI tB tU tP tL : TypeId} (T : EvT P tE tH tF tS tI tB tU tP tL) {fuel : Nat} {cs : List Value} {d : DataW H} {p : List MemPlace} (h : DataW.trod enc P w base (fun _ => true) held fuel tE cs = some (d, p)) (hL : Light P tE d) :
    ∃ (e : EvD) (s : EvS), cs = e.cells s ∧ IsV w s.fo s.fcap e.fields.length (pairV e.fields) ∧ IsB w s.bo s.bcap e.bytes ∧ IsB w s.po s.pcap e.pbytes ∧ e.Light := by
  obtain ⟨f0, f1, f2, f3, f4, ht, h0, h1, h2, h3, h4, o0, o1, o2, o3, o4⟩ := T.ev
  obtain ⟨a0, a1, a2, a3, a4, kt, k0, k1, k2, k3, k4, r0, r1, r2, r3, r4⟩ := T.head
  obtain ⟨g0, g1, gt, i0, i1, j0, j1⟩ := T.field
  obtain ⟨b0, b1, b2, b3, bt, l0, l1, l2, l3, m0, m1, m2, m3⟩ := T.part
  obtain ⟨y0, y1, y2, y3, y4, n, hx, hl, q0, q1, q2, q3, q4⟩ := trod_struct5 ht h
  rw [h0, T.cI, o0] at q0
  rw [h1, T.cH, o1] at q1
  rw [h2, T.cB, o2] at q2
  rw [h3, T.cP, o3] at q3
  rw [h4, T.cI, o4] at q4
  rw [T.cE] at hl
  have hd : d = .agg [y0.1, y1.1, y2.1, y3.1, y4.1] := hx
  subst hd
  have hw : ∀ x ∈ y0.1.weights P tI ++ (y1.1.weights P tH ++ (y2.1.weights P tB ++ (y3.1.weights P tP ++ y4.1.weights P tI))), x ≤ reachBytes := by
    intro x hx
    refine hL x ?_
    rw [DataW.weights, ht]
    simp only [List.map_cons, List.map_nil, DataW.weightsEach, h0, h1, h2, h3, h4, List.append_nil]
    exact hx
  match cs, hl with
  | [c0, c1, c2, c3, c4, c5, c6, c7, c8, c9, c10, c11], _ =>
    simp only [List.drop, List.take] at q0 q1 q2 q3 q4
    obtain ⟨ki, e0, _, _⟩ := DataW.trod_int T.int q0
    obtain ⟨ci, e4, _, _⟩ := DataW.trod_int T.int q4
    obtain ⟨m, g, mi, ln, fo, fcap, fl, e1, hF, z0, z1, z2, z3⟩ := open_head_many (d := y1.1) (p := y1.2) kt k0 k1 k2 k3 k4 r0 r1 r2 r3 r4 T.list gt i0 i1 j0 j1 T.str T.int T.cS T.cI T.cL T.cH T.cF T.bF q1 (fun x hx => hw x (List.mem_append_right _ (List.mem_append_left _ hx)))
    obtain ⟨bo, bcap, bl, e2, hB, hS⟩ := open_bytes (d := y2.1) (p := y2.2) T.bytes T.u8 T.cU q2
    have hbl := hS.light T.bytes T.bU (fun x hx => hw x (List.mem_append_right _ (List.mem_append_right _ (List.mem_append_left _ hx))))
    obtain ⟨x, y, z, po, pcap, pl, e3, hP, u0, u1, u2, u3⟩ := open_part (d := y3.1) (p := y3.2) bt l0 l1 l2 l3 m0 m1 m2 m3 T.bytes T.u8 T.str T.cS T.cB T.cU T.cP T.bU q3 (fun x hx => hw x (List.mem_append_right _ (List.mem_append_right _ (List.mem_append_right _ (List.mem_append_left _ hx)))))
    injection e0 with e0 _
    injection e4 with e4 _
    injection e2 with e2 _
    simp only [List.cons.injEq, and_true] at e1 e3
    obtain ⟨e11, e12, e13, e14, e15⟩ := e1
    obtain ⟨e31, e32, e33, e34⟩ := e3
    subst e0 e4 e2 e11 e12 e13 e14 e15 e31 e32 e33 e34
    exact ⟨⟨ki, m, g, mi, fl, ln, bl, x, y, z, pl, ci⟩, ⟨fo, fcap, bo, bcap, po, pcap⟩, rfl, hF, hB, hP, ⟨z0, z1, z2, z3, hbl, u0, u1, u2, u3⟩⟩
theorem open_events {tV tE tH tF tS tI tB tU tP tL : TypeId} (T : EvT P tE tH tF tS tI tB tU tP tL) (hV : P.underlying tV = some (.slice tE)) {fuel : Nat} {a0 : Option Addr} {len cap : Nat} {d : DataW H} {p : List MemPlace} (h : DataW.trod enc P w base (fun _ => true) held fuel tV [.slice a0 len cap] = some (d, p)) (hL : Light P tV d) :
    ∃ es : List EvD, es.length = len ∧ IsEs w a0 cap es ∧ ∀ e ∈ es, e.Light := by
  rcases Go.Deep.open_slice hV h with ⟨hcs, _⟩ | ⟨a, len', cap', m, n, D, Pl, hcs, _, hl, _, hm, hx, hcell⟩
  · simp at hcs
    obtain ⟨rfl, rfl, rfl⟩ := hcs
    exact ⟨[], rfl, IsEs.nil w, fun s hs => by cases hs⟩
  · simp at hcs
    obtain ⟨rfl, rfl, rfl⟩ := hcs
    simp only [if_true] at hm
    subst hm
    injection hx with hd _
    subst hd
    rw [T.cE] at hcell
    have each : ∀ i, i < len → ∃ q : EvD × EvS, (∀ j u, (q.1.cells q.2)[j]? = some u → w.cell? (a.add (i * 12 + j)) = some u) ∧ IsV w q.2.fo q.2.fcap q.1.fields.length (pairV q.1.fields) ∧ IsB w q.2.bo q.2.bcap q.1.bytes ∧ IsB w q.2.po q.2.pcap q.1.pbytes ∧ q.1.Light := by
      intro i hi
      obtain ⟨cs', k1, k2⟩ := hcell i (by omega)
      obtain ⟨e, s, rfl, hF, hB, hP, hE⟩ := open_event T k2 (light_elem hV hL (List.mem_map.2 ⟨i, List.mem_range.2 hi, rfl⟩))
      obtain ⟨_, _, k3⟩ := World.cells?_some k1
      refine ⟨(e, s), fun j u hj => ?_, hF, hB, hP, hE⟩
      have hj12 : j < 12 := (List.getElem?_eq_some_iff.1 hj).1
      have := k3 j hj12
      rw [Addr.add_add] at this
      rw [this]
      simpa using hj
    haveI : Inhabited (EvD × EvS) := ⟨(⟨0, ⟨#[]⟩, ⟨#[]⟩, 0, [], 0, [], ⟨#[]⟩, ⟨#[]⟩, ⟨#[]⟩, [], 0⟩, ⟨none, 0, none, 0, none, 0⟩)⟩
    obtain ⟨F, hF⟩ := Go.Deep.choose_lt each
    have hlen : ((List.range len).map fun i => (F i).1).length = len := by simp
    refine ⟨(List.range len).map fun i => (F i).1, hlen, ⟨by omega, (fun h => by cases h), fun j hj => ?_⟩, fun q hq => ?_⟩
    · rw [hlen] at hj
      obtain ⟨hc, h1, h2, h3, _⟩ := hF j hj
      have hsp : a.spot = none := by
        have := World.cell?_spot ((hF 0 (by omega)).1 0 _ rfl)
        simpa [Addr.add] using this
      obtain ⟨b, o, sp⟩ := a
      simp only at hsp
      subst hsp
      refine ⟨b, o, (F j).2, rfl, ?_⟩
      have e : ((List.range len).map fun i => (F i).1)[j] = (F j).1 := by simp
      rw [e]
      refine ⟨fun i u hi => ?_, h1, h2, h3⟩
      have := hc i u hi
      rw [Addr.add_lit, ← Nat.add_assoc] at this
      exact this
    · obtain ⟨j, hj, rfl⟩ := List.mem_map.1 hq
      exact (hF j (List.mem_range.1 hj)).2.2.2.2
end Go.Proofs.YtdclmpdjjkjfjaaGreatDoor
