/- The document's own answer, walked: Requests, whatever the bytes. -/
import Derived.Test.YtkafbifogdoneacGreatDoorPk33
namespace Go.Proofs.YtkafbifogdoneacGreatDoor
open Go.RowKit

theorem requests_any (b : List UInt8) (ab : Option Addr) (cap : Nat) (w : World) (hb : IsB w ab cap b) (h9 : b.length ≤ 20000) :
    Calls Tryz.prog 13 #[.slice ab b.length cap] w fun e w' => ∃ a2 c2, e = .returned (.tuple #[.slice a2 (Rq.of b).1.length c2, .bool (Rq.of b).2]) ∧ IsEs w' a2 c2 ((Rq.of b).1.map Rq.Ev.d) ∧ Below w.heap.size w w' := by
  by_cases h0 : 0 < b.length
  · obtain ⟨bb, oo, rfl, _⟩ := hb.lit h0
    refine (requests_some b bb oo cap w hb h9).mono ?_
    rintro e w' ⟨a2, c2, he, hw, hB⟩
    exact ⟨a2, c2, he, hw.isEs, hB⟩
  · obtain rfl : b = [] := List.eq_nil_of_length_eq_zero (by omega)
    exact requests_none ab cap w hb
end Go.Proofs.YtkafbifogdoneacGreatDoor
