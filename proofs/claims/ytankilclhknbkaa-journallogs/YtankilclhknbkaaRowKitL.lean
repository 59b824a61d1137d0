/- A slice of bytes, and a slice of such, as an argument is read: their elements, once. -/
import Derived.Test.YtankilclhknbkaaMemL
import Derived.Test.YtankilclhknbkaaRowKitF
namespace Go.Proofs.Ytankilclhknbkaa
open Go.ChangeShapes Go.WideShapes Go.ChangeAt Go.RowKit

/-- a reading is of so many elements -/
def Spans {H : Type} (d : DataW H) (n : Nat) : Prop := (d = .nil ∧ n = 0) ∨ ∃ elems spare, d = .slice elems spare ∧ elems.length = n
section
variable {H : Type} {enc : TypeId × Value → H} {P : Program} {w : World} {base : Nat} {held : Bool}
/-- a slice of bytes -/
theorem open_bytes {u e : TypeId} {fuel : Nat} {cs : List Value} {d : DataW H} {p : List MemPlace} (hu : P.underlying u = some (.slice e)) (he : P.underlying e = some (.int .u8)) (hc : P.cellsOf e = 1)
    (h : DataW.trod enc P w base (fun _ => true) held fuel u cs = some (d, p)) :
    ∃ (a0 : Option Addr) (cap : Nat) (l : List UInt8), cs = [.slice a0 l.length cap] ∧ IsB w a0 cap l ∧ Spans d l.length := by
  rcases open_ints hu he hc h with ⟨hcs, hx⟩ | ⟨a, len, cap, zs, hcs, _, hl, _, hz, hx, hcell, hwz⟩
  · injection hx with hd _
    exact ⟨none, 0, [], hcs, IsB.nil w, Or.inl ⟨hd, rfl⟩⟩
  · simp only [if_true] at hz
    injection hx with hd _
    have hlen : ((zs.take len).map fun z => UInt8.ofNat z.toNat).length = len := by rw [List.length_map, List.length_take]; omega
    refine ⟨some a, cap, (zs.take len).map (fun z => UInt8.ofNat z.toNat), by rw [hlen]; exact hcs, ⟨by omega, (fun h => by cases h), fun j hj => ⟨a, rfl, ?_⟩⟩, Or.inr ⟨_, _, hd, ?_⟩⟩
    · rw [hlen] at hj
      have hj' : j < zs.length := by omega
      rw [hcell j hj']
      have hg : zs.getD j 0 = zs[j] := by simp [List.getD, hj']
      have hw := hwz zs[j] (List.getElem_mem _)
      have hx : 0 ≤ zs[j] ∧ zs[j] ≤ 255 := by simpa [Lit.wf, IntKind.min, IntKind.max, IntKind.signed, IntKind.bits] using hw
      rw [hg]
      simp only [List.getElem_map, List.getElem_take]
      have e : ((UInt8.ofNat zs[j].toNat).toNat : Int) = zs[j] := by
        rw [UInt8.toNat_ofNat']; omega
      rw [e]
    · simp [lits] <;> omega
theorem Spans.light {u e : TypeId} {d : DataW H} {n : Nat} (hu : P.underlying u = some (.slice e)) (hb : P.bytesOf e = 1) (h : Spans d n) (hL : Light P u d) : n ≤ reachBytes := by
  rcases h with ⟨rfl, rfl⟩ | ⟨elems, spare, rfl, rfl⟩
  · exact Nat.zero_le _
  · have := light_len hu hL
    rw [hb] at this
    omega
/-- a slice of slices of bytes -/
theorem open_lists {v u e : TypeId} {fuel : Nat} {cs : List Value} {d : DataW H} {p : List MemPlace} (hv : P.underlying v = some (.slice u)) (hu : P.underlying u = some (.slice e)) (he : P.underlying e = some (.int .u8)) (hc : P.cellsOf e = 1) (hcu : P.cellsOf u = 1)
    (h : DataW.trod enc P w base (fun _ => true) held fuel v cs = some (d, p)) :
    ∃ (a0 : Option Addr) (cap : Nat) (ls : List (List UInt8)), cs = [.slice a0 ls.length cap] ∧ IsL w a0 cap ls ∧
      ((d = .nil ∧ ls = []) ∨ ∃ elems spare, d = .slice elems spare ∧ elems.length = ls.length ∧ ∀ (j : Nat) x l, elems[j]? = some x → ls[j]? = some l → Spans x l.length) := by
  rcases Go.Deep.open_slice1 hv hcu h with ⟨hcs, hx⟩ | ⟨a, len, cap, m, n, V, D, Pl, hcs, _, hl, _, hm, hx, hcell⟩
  · injection hx with hd _
    exact ⟨none, 0, [], hcs, IsL.nil w, Or.inl ⟨hd, rfl⟩⟩
  · simp only [if_true] at hm
    subst hm
    injection hx with hd _
    have each : ∀ i, i < len → ∃ q : Option Addr × Nat × List UInt8, V i = .slice q.1 q.2.2.length q.2.1 ∧ IsB w q.1 q.2.1 q.2.2 ∧ Spans (D i) q.2.2.length := by
      intro i hi
      obtain ⟨_, k2⟩ := hcell i (by omega)
      obtain ⟨a1, c1, l, e1, h1, h2⟩ := open_bytes hu he hc k2
      injection e1 with e1 _
      exact ⟨(a1, c1, l), e1, h1, h2⟩
    obtain ⟨F, hF⟩ := Go.Deep.choose_lt each
    have hlen : ((List.range len).map fun i => (F i).2.2).length = len := by simp
    refine ⟨some a, m, (List.range len).map (fun i => (F i).2.2), by rw [hlen]; exact hcs, ⟨by omega, (fun h => by cases h), fun j hj => ?_⟩, Or.inr ⟨_, _, hd, by simp, fun j x l hx hl => ?_⟩⟩
    · rw [hlen] at hj
      have hf := hF j hj
      have hk := (hcell j (by omega)).1
      rw [hf.1] at hk
      refine ⟨a, (F j).1, (F j).2.1, rfl, ?_, ?_⟩
      · rw [hk]; simp
      · simpa using hf.2.1
    · have hj : j < len := by
        have := (List.getElem?_eq_some_iff.1 hl).1
        rwa [hlen] at this
      have e1 : D j = x := by simpa [hj] using hx
      have e2 : (F j).2.2 = l := by simpa [hj] using hl
      rw [← e1, ← e2]
      exact (hF j hj).2.2
end
end Go.Proofs.Ytankilclhknbkaa
