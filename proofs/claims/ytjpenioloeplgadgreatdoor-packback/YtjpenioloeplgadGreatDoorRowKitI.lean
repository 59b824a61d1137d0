/- A slice of ints, as an argument is read: cells. -/
import Derived.Test.YtjpenioloeplgadGreatDoorPk4
import Derived.Test.YtjpenioloeplgadGreatDoorRowKit0
namespace Go.Proofs.YtjpenioloeplgadGreatDoor
open Go.ChangeShapes Go.WideShapes Go.ChangeAt Go.RowKit

theorem cells_i64 : Tryz.prog.cellsOf 3 = 1 := by kernel_rfl
theorem open_intsV {H : Type} {enc : TypeId × Value → H} {W : World} {fuel : Nat} {a0 : Option Addr} {len cap : Nat} {d : DataW H} {p : List MemPlace}
    (hf : DataW.trod enc Tryz.prog W 0 (fun _ => true) true fuel 37 (Value.slice a0 len cap).cells.toList = some (d, p)) :
    ∃ l : List Int, l.length = len ∧ IsV W a0 cap len (l.map fun c => Value.int .i64 c) := by
  rcases open_ints Tryz.underlying37 Tryz.underlying3 cells_i64 hf with ⟨hcs, _⟩ | ⟨a, len', cap', zs, hcs, _, hl, _, hz, _, hcell, _⟩
  · simp [Value.cells] at hcs
    obtain ⟨rfl, rfl, rfl⟩ := hcs
    exact ⟨[], rfl, IsV.nil W⟩
  · simp [Value.cells] at hcs
    obtain ⟨rfl, rfl, rfl⟩ := hcs
    simp only [if_true] at hz
    have hlen : (zs.take len).length = len := by rw [List.length_take]; omega
    refine ⟨zs.take len, hlen, ⟨by omega, (fun h => by cases h), fun j u hj => ⟨a, rfl, ?_⟩⟩⟩
    rw [List.getElem?_map] at hj
    have hjl : j < (zs.take len).length := by
      rcases Nat.lt_or_ge j (zs.take len).length with g | g
      · exact g
      · rw [List.getElem?_eq_none g] at hj; cases hj
    rw [List.getElem?_eq_getElem hjl] at hj
    have hj' : j < zs.length := by omega
    rw [hcell j hj', ← Option.some.inj hj]
    simp [List.getD, hj']
end Go.Proofs.YtjpenioloeplgadGreatDoor
