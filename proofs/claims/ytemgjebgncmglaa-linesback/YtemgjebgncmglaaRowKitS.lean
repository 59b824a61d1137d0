/- A slice of texts as an argument is read: its elements, once. -/
import Derived.Test.YtemgjebgncmglaaMemV
import Derived.Test.YtemgjebgncmglaaRowKitB
import Derived.Deep.Strs
namespace Go.Proofs.Ytemgjebgncmglaa
open Go.ChangeShapes Go.WideShapes Go.ChangeAt Go.RowKit

theorem cells_str : Try.prog.cellsOf 9 = 1 := by kernel_rfl

/-- a slice of texts -/
theorem view_strs {H : Type} {enc : TypeId × Value → H} {W : World} {fuel : Nat} {a0 : Option Addr} {len cap : Nat} {d : DataW H} {p : List MemPlace}
    (hf : DataW.trod enc Try.prog W 0 (fun _ => true) true fuel 41 (Value.slice a0 len cap).cells.toList = some (d, p)) :
    ∃ l : List ByteArray, l.length = len ∧ IsV W a0 cap l.length (strV l) ∧ ∀ s ∈ l, s.size ≤ maxLen := by
  rcases Go.Deep.open_strs Try.underlying41 Try.underlying9 cells_str hf with ⟨hcs, _⟩ | ⟨a, len', cap', m, Sx, hcs, _, hl, _, hm, _, hcell⟩
  · simp [Value.cells] at hcs
    obtain ⟨rfl, rfl, rfl⟩ := hcs
    exact ⟨[], rfl, IsV.nil W, fun s hs => by cases hs⟩
  · simp [Value.cells] at hcs
    obtain ⟨rfl, rfl, rfl⟩ := hcs
    simp only [if_true] at hm
    subst hm
    have hlen : ((List.range len).map Sx).length = len := by simp
    refine ⟨(List.range len).map Sx, hlen, ⟨by omega, (fun h => by cases h), fun j u hj => ⟨a, rfl, ?_⟩⟩, fun s hs => ?_⟩
    · have hlt : j < len := by
        have := (List.getElem?_eq_some_iff.1 hj).1
        rwa [strV_length, hlen] at this
      rw [strV_at _ j (by omega)] at hj
      injection hj with hj
      subst hj
      rw [(hcell j (by omega)).1]; simp
    · obtain ⟨j, hj, rfl⟩ := List.mem_map.1 hs
      exact (hcell j (by have := List.mem_range.1 hj; omega)).2
end Go.Proofs.Ytemgjebgncmglaa
