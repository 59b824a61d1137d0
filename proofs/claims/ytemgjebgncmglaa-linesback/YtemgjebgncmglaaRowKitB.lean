/- A slice of bytes, and one of ints, as an argument is read: its elements, once. -/
import Derived.Test.YtemgjebgncmglaaMem
import Derived.Test.YtemgjebgncmglaaProg
import Derived.ProofKit
import Derived.OpenShut
namespace Go.Proofs.Ytemgjebgncmglaa
open Go.ChangeShapes Go.WideShapes Go.ChangeAt Go.RowKit

theorem cells_u8 : Try.prog.cellsOf 5 = 1 := by kernel_rfl
theorem cells_int : Try.prog.cellsOf 3 = 1 := by kernel_rfl
theorem laid_out : laidOutB Try.prog = true := by kernel_rfl

/-- a slice of bytes -/
theorem view_bytes {H : Type} {enc : TypeId × Value → H} {W : World} {fuel : Nat} {a0 : Option Addr} {len cap : Nat} {d : DataW H} {p : List MemPlace}
    (hf : DataW.trod enc Try.prog W 0 (fun _ => true) true fuel 22 (Value.slice a0 len cap).cells.toList = some (d, p)) :
    ∃ l : List UInt8, l.length = len ∧ IsB W a0 cap l := by
  rcases open_ints Try.underlying22 Try.underlying5 cells_u8 hf with ⟨hcs, _⟩ | ⟨a, len', cap', zs, hcs, _, hl, _, hz, _, hcell, hwz⟩
  · simp [Value.cells] at hcs
    obtain ⟨rfl, rfl, rfl⟩ := hcs
    exact ⟨[], rfl, IsB.nil W⟩
  · simp [Value.cells] at hcs
    obtain ⟨rfl, rfl, rfl⟩ := hcs
    simp only [if_true] at hz
    have hlen : ((zs.take len).map fun z => UInt8.ofNat z.toNat).length = len := by rw [List.length_map, List.length_take]; omega
    refine ⟨(zs.take len).map (fun z => UInt8.ofNat z.toNat), hlen, ⟨by omega, (fun h => by cases h), fun j hj => ⟨a, rfl, ?_⟩⟩⟩
    rw [hlen] at hj
    have hj' : j < zs.length := by omega
    rw [hcell j hj']
    have hg : zs.getD j 0 = zs[j] := by simp [List.getD, hj']
    have hw := hwz zs[j] (List.getElem_mem _)
    have hx : 0 ≤ zs[j] ∧ zs[j] ≤ 255 := by simpa [Lit.wf, IntKind.min, IntKind.max, IntKind.signed, IntKind.bits] using hw
    rw [hg]
    simp only [List.getElem_map, List.getElem_take]
    have e : ((UInt8.ofNat zs[j].toNat).toNat : Int) = zs[j] := by
      rw [UInt8.toNat_ofNat']; omega
    rw [e]

/-- a slice of ints -/
theorem view_ints {H : Type} {enc : TypeId × Value → H} {W : World} {fuel : Nat} {a0 : Option Addr} {len cap : Nat} {d : DataW H} {p : List MemPlace}
    (hf : DataW.trod enc Try.prog W 0 (fun _ => true) true fuel 23 (Value.slice a0 len cap).cells.toList = some (d, p)) :
    ∃ l : List Int, l.length = len ∧ ∀ j (hj : j < l.length), ∃ a, a0 = some a ∧ W.cell? (a.add j) = some (.int .i64 l[j]) := by
  rcases open_ints Try.underlying23 Try.underlying3 cells_int hf with ⟨hcs, _⟩ | ⟨a, len', cap', zs, hcs, _, hl, _, hz, _, hcell, _⟩
  · simp [Value.cells] at hcs
    obtain ⟨rfl, rfl, rfl⟩ := hcs
    exact ⟨[], rfl, fun j hj => by simp at hj⟩
  · simp [Value.cells] at hcs
    obtain ⟨rfl, rfl, rfl⟩ := hcs
    simp only [if_true] at hz
    have hlen : (zs.take len).length = len := by rw [List.length_take]; omega
    refine ⟨zs.take len, hlen, fun j hj => ⟨a, rfl, ?_⟩⟩
    rw [hlen] at hj
    have hj' : j < zs.length := by omega
    rw [hcell j hj']
    simp [List.getD, hj']
end Go.Proofs.Ytemgjebgncmglaa
