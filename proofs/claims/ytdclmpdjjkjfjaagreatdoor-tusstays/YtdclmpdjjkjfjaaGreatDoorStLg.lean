/- Package store, walked: Log answers new memory. -/
import Derived.Test.YtdclmpdjjkjfjaaGreatDoorPk19
import Derived.Test.YtdclmpdjjkjfjaaGreatDoorPk18
import Derived.Deep.RegionHeld3
namespace Go.Proofs.YtdclmpdjjkjfjaaGreatDoor
open Go.RowKit

section
variable {s : Sr.Sh} {S : Nat → Prop} {g : Nat} {w : World}
set_option maxHeartbeats 800000 in
theorem logStS_any (h : StAt w S g s) :
    Calls Tryz.prog 12 #[.pointer (some ⟨g, 0, none⟩)] w fun e w' => ∃ ao' ca', e = .returned (.tuple #[.slice ao' s.log.length ca', .int .i64 (s.sure : Int)]) ∧ IsBS w' (fun k => w.heap.size ≤ k) ao' ca' s.log ∧ Below w.heap.size w w' := by
  have hlt := h.lt
  obtain ⟨gs, gl, ao, ca, P, hI⟩ := h
  obtain ⟨⟨c0, c1⟩, _⟩ := row2 hI.row
  have HB := Hid.mk' (bytesLogS_any (hI.log.stay (below_drew w.heap.size w)))
  have HS : Hid (∀ W, Below w.heap.size w W → Calls Tryz.prog 38 #[.pointer (some ⟨gl, 0, none⟩)] W fun e w' => e = .returned (.int .i64 (s.sure : Int)) ∧ w' = W) := fun W hW => sureLog_any (hI.log.stay hW)
  have HC : Hid (∀ W, Below w.heap.size w W → W.cell? ⟨g, 1, none⟩ = some (.pointer (some ⟨gl, 0, none⟩))) := fun W hW => (hW.cell (p := ⟨g, 1, none⟩) hlt).trans c1
  have HB0 := Hid.mk' (below_drew w.heap.size w)
  clear hI c0
  generalize s.log.length = n at *
  go_enter Tryz.func12, Tryz.ntmps12
  go_wp2_with fail
  go_region_held3 (fun w' => w'.cell? ⟨g, 1, none⟩ = some (.pointer (some ⟨gl, 0, none⟩))) (go_keep) (first | (go_at_call 37; refine HB.out.mono ?_; rintro e w1 ⟨ao', ca', rfl, hb1, hb2⟩; have hb3 := HB0.out.trans hb2; have c1' := HC.out w1 hb3; have HX1 := Hid.mk' hb1; have HX2 := Hid.mk' hb3; clear hb1 hb2 hb3) | (go_at_call 38; refine (HS.out _ (by first | with_reducible exact HB0.out | with_reducible exact HX2.out)).mono ?_; rintro e w1 ⟨rfl, hw⟩; rw [hw]; clear hw))
  all_goals
    go_wp2
    go_ret2
    exact ⟨_, _, rfl, HX1.out, HX2.out⟩
end
end Go.Proofs.YtdclmpdjjkjfjaaGreatDoor
