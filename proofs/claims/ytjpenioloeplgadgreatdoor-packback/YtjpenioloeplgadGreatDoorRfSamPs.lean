/- The document's own answer, walked where both are the same: SameParts. -/
import Derived.Test.YtjpenioloeplgadGreatDoorPk11
import Derived.Test.YtjpenioloeplgadGreatDoorPk16
import Derived.Deep.RegionHeld3
namespace Go.Proofs.YtjpenioloeplgadGreatDoor
open Go.RowKit

set_option maxRecDepth 100000 in
set_option maxHeartbeats 1600000 in
theorem sameParts_yes (ps : List Fm.Pt) (a1 a2 : Option Addr) (c1 c2 : Nat) (w : World) (h1 : IsPts w a1 c1 ps) (h2 : IsPts w a2 c2 ps) (hN : ps.length ≤ 1000000) :
    Calls Tryz.prog 18 #[.slice a1 ps.length c1, .slice a2 ps.length c2] w fun e w' => e = .returned (.bool true) ∧ Below w.heap.size w w' := by
  have H1 := Hid.mk' h1; have H2 := Hid.mk' h2
  obtain ⟨_, _, g1, _⟩ := h1
  obtain ⟨_, _, g2, _⟩ := h2
  have hc1 := g1.1
  have hc2 := g2.1
  clear g1 g2
  go_enter Tryz.func18, Tryz.ntmps18
  go_wp2
  go_loopw [5] (fun t wr => ∃ k : Nat, k ≤ ps.length ∧ t = .int .i64 k ∧ Below w.heap.size w wr) (fun t _ => ps.length - (intOf t).toNat)
  case atStart => exact ⟨0, Nat.zero_le _, rfl, Below.refl _ _⟩
  case round =>
    obtain ⟨k, hk, rfl, hB⟩ := hrel
    have HB := Hid.mk' hB
    clear hB
    by_cases hlt : k < ps.length
    · have e1 : (k : Int) < ps.length := by omega
      obtain ⟨b1, o1, s1, rfl, x0, x1, x2, x3, x4⟩ := (H1.out.stay HB.out).at_ k hlt
      obtain ⟨b2, o2, s2, rfl, y0, y1, y2, y3, y4⟩ := (H2.out.stay HB.out).at_ k hlt
      have hbd : Below wr.heap.size wr wr.drew := below_drew _ _
      have HSp := Hid.mk' (samePart_yes ps[k].name ps[k].file ps[k].type ps[k].bytes s1.bo s2.bo s1.bcap s2.bcap wr.drew (x4.stay hbd) (y4.stay hbd))
      clear x4 y4 hbd
      generalize ps[k] = p at *
      generalize p.bytes.length = pn at *
      go_wp2
      go_region_held3 (fun w' => w'.cell? ⟨b1, o1 + k * 4, none⟩ = some (.string p.name) ∧ w'.cell? ⟨b1, o1 + k * 4 + 1, none⟩ = some (.string p.file) ∧ w'.cell? ⟨b1, o1 + k * 4 + 2, none⟩ = some (.string p.type) ∧ w'.cell? ⟨b1, o1 + k * 4 + 3, none⟩ = some (.slice s1.bo pn s1.bcap) ∧ w'.cell? ⟨b2, o2 + k * 4, none⟩ = some (.string p.name) ∧ w'.cell? ⟨b2, o2 + k * 4 + 1, none⟩ = some (.string p.file) ∧ w'.cell? ⟨b2, o2 + k * 4 + 2, none⟩ = some (.string p.type) ∧ w'.cell? ⟨b2, o2 + k * 4 + 3, none⟩ = some (.slice s2.bo pn s2.bcap)) (first | go_keep | exact HK3.out) (first
        | (go_at_call 10; refine HSp.out.mono ?_; rintro e' w3 ⟨rfl, hb3⟩; have HB3 := Hid.mk' ((HB.out.trans (below_drew _ _)).trans (hb3.mono HB.out.size)); have HK3 : Hid (w3.cell? ⟨b1, o1 + k * 4, none⟩ = some (.string p.name) ∧ w3.cell? ⟨b1, o1 + k * 4 + 1, none⟩ = some (.string p.file) ∧ w3.cell? ⟨b1, o1 + k * 4 + 2, none⟩ = some (.string p.type) ∧ w3.cell? ⟨b1, o1 + k * 4 + 3, none⟩ = some (.slice s1.bo pn s1.bcap) ∧ w3.cell? ⟨b2, o2 + k * 4, none⟩ = some (.string p.name) ∧ w3.cell? ⟨b2, o2 + k * 4 + 1, none⟩ = some (.string p.file) ∧ w3.cell? ⟨b2, o2 + k * 4 + 2, none⟩ = some (.string p.type) ∧ w3.cell? ⟨b2, o2 + k * 4 + 3, none⟩ = some (.slice s2.bo pn s2.bcap)) := ⟨(hb3.cell (World.block_lt_of_cell? wr _ x0)).trans x0, (hb3.cell (World.block_lt_of_cell? wr _ x1)).trans x1, (hb3.cell (World.block_lt_of_cell? wr _ x2)).trans x2, (hb3.cell (World.block_lt_of_cell? wr _ x3)).trans x3, (hb3.cell (World.block_lt_of_cell? wr _ y0)).trans y0, (hb3.cell (World.block_lt_of_cell? wr _ y1)).trans y1, (hb3.cell (World.block_lt_of_cell? wr _ y2)).trans y2, (hb3.cell (World.block_lt_of_cell? wr _ y3)).trans y3⟩; clear hb3))
      all_goals
        go_wp2
        go_roundw
        case rel => exact ⟨k + 1, by omega, by go_num, HB3.out⟩
        case measure => simp [intOf]; omega
    · go_wp2
      go_ret
      exact ⟨rfl, HB.out⟩
end Go.Proofs.YtjpenioloeplgadGreatDoor
