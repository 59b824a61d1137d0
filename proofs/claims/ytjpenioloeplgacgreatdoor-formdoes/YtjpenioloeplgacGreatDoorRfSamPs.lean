/- Parts in a row as they are read; the document's own answer, walked where both are the same: SameParts. -/
import Derived.Test.YtjpenioloeplgacGreatDoorPk10
import Derived.Test.YtjpenioloeplgacGreatDoorPk16
import Derived.Deep.RegionHeld3
namespace Go.Proofs.YtjpenioloeplgacGreatDoor
open Go.RowKit

/-- parts in a row, as they are read -/
def IsPts (w : World) (ao : Option Addr) (cap : Nat) (ps : List Fm.Pt) : Prop := ∃ qs : List (Fm.Pt × PtS), qs.map (·.1) = ps ∧ IsV w ao cap ps.length (ptsV qs) ∧ ∀ q ∈ qs, IsB w q.2.bo q.2.bcap q.1.bytes
theorem PtRel.isPts {w wr : World} {ps : List Fm.Pt} {ao : Option Addr} {cap n : Nat} (h : PtRel w ps ao cap n wr) : IsPts wr ao cap ps := by
  obtain ⟨qs, h1, h2, h3⟩ := h.own
  refine ⟨qs, h1, ?_, fun q hq => (h3 q hq).stay h.below⟩
  rw [← h.len]; exact h2.isV
theorem IsPts.stay {w w' : World} {ao : Option Addr} {cap : Nat} {ps : List Fm.Pt} (h : IsPts w ao cap ps) (hb : Below w.heap.size w w') : IsPts w' ao cap ps := by
  obtain ⟨qs, h1, h2, h3⟩ := h
  exact ⟨qs, h1, h2.stay hb, fun q hq => (h3 q hq).stay hb⟩
theorem IsPts.nil (w : World) : IsPts w none 0 [] := ⟨[], rfl, IsV.nil w, fun q hq => by cases hq⟩
/-- a part's cells -/
theorem IsPts.at_ {w : World} {ao : Option Addr} {cap : Nat} {ps : List Fm.Pt} (h : IsPts w ao cap ps) (k : Nat) (hk : k < ps.length) : ∃ (b o : Nat) (s : PtS), ao = some ⟨b, o, none⟩ ∧ w.cell? ⟨b, o + k * 4, none⟩ = some (.string ps[k].name) ∧ w.cell? ⟨b, o + k * 4 + 1, none⟩ = some (.string ps[k].file) ∧ w.cell? ⟨b, o + k * 4 + 2, none⟩ = some (.string ps[k].type) ∧ w.cell? ⟨b, o + k * 4 + 3, none⟩ = some (.slice s.bo ps[k].bytes.length s.bcap) ∧ IsB w s.bo s.bcap ps[k].bytes := by
  obtain ⟨qs, rfl, hv, hb⟩ := h
  have hk' : k < qs.length := by simpa using hk
  obtain ⟨b, o, rfl, hc⟩ := hv.lit (by rw [ptsV_length]; omega)
  have hq := hb _ (List.getElem_mem hk')
  have e0 := ptsV_at qs k hk' 0 (by decide)
  have e1 := ptsV_at qs k hk' 1 (by decide)
  have e2 := ptsV_at qs k hk' 2 (by decide)
  have e3 := ptsV_at qs k hk' 3 (by decide)
  refine ⟨b, o, qs[k].2, rfl, ?_, ?_, ?_, ?_, ?_⟩
  · rw [List.getElem_map]; exact hc _ _ (by rw [Nat.add_zero] at e0; exact e0)
  · rw [List.getElem_map, Nat.add_assoc]; exact hc _ _ e1
  · rw [List.getElem_map, Nat.add_assoc]; exact hc _ _ e2
  · rw [List.getElem_map, Nat.add_assoc]; exact hc _ _ e3
  · rw [List.getElem_map]; exact hq

set_option maxRecDepth 100000 in
set_option maxHeartbeats 1600000 in
theorem sameParts_yes (ps : List Fm.Pt) (a1 a2 : Option Addr) (c1 c2 : Nat) (w : World) (h1 : IsPts w a1 c1 ps) (h2 : IsPts w a2 c2 ps) (hN : ps.length ≤ 1000000) :
    Calls Tryz.prog 32 #[.slice a1 ps.length c1, .slice a2 ps.length c2] w fun e w' => e = .returned (.bool true) ∧ Below w.heap.size w w' := by
  have H1 := Hid.mk' h1; have H2 := Hid.mk' h2
  obtain ⟨_, _, g1, _⟩ := h1
  obtain ⟨_, _, g2, _⟩ := h2
  have hc1 := g1.1
  have hc2 := g2.1
  clear g1 g2
  go_enter Tryz.func32, Tryz.ntmps32
  go_wp2
  go_loopw [5] (fun t wr => ∃ k : Nat, k ≤ ps.length ∧ t = .int .i64 k ∧ Below w.heap.size w wr) (fun t _ => ps.length - (intOf t).toNat)
  case atStart => exact ⟨0, Nat.zero_le _, rfl, Below.refl _ _⟩
  case round =>
    obtain ⟨k, hk, rfl, hB⟩ := hrel
    have HB := Hid.mk' hB
    clear hB
    by_cases hlt : k < ps.length
    · have e1 : (k : Int) < ps.length := by omega
      obtain ⟨b1, o1, s1, rfl, x0, x1, x2, x3, x4⟩ := (H1.out.stay HB.out).at_ k hlt
      obtain ⟨b2, o2, s2, rfl, y0, y1, y2, y3, y4⟩ := (H2.out.stay HB.out).at_ k hlt
      have hbd : Below wr.heap.size wr wr.drew := below_drew _ _
      have HSp := Hid.mk' (samePart_yes ps[k].name ps[k].file ps[k].type ps[k].bytes s1.bo s2.bo s1.bcap s2.bcap wr.drew (x4.stay hbd) (y4.stay hbd))
      clear x4 y4 hbd
      generalize ps[k] = p at *
      generalize p.bytes.length = pn at *
      go_wp2
      go_region_held3 (fun w' => w'.cell? ⟨b1, o1 + k * 4, none⟩ = some (.string p.name) ∧ w'.cell? ⟨b1, o1 + k * 4 + 1, none⟩ = some (.string p.file) ∧ w'.cell? ⟨b1, o1 + k * 4 + 2, none⟩ = some (.string p.type) ∧ w'.cell? ⟨b1, o1 + k * 4 + 3, none⟩ = some (.slice s1.bo pn s1.bcap) ∧ w'.cell? ⟨b2, o2 + k * 4, none⟩ = some (.string p.name) ∧ w'.cell? ⟨b2, o2 + k * 4 + 1, none⟩ = some (.string p.file) ∧ w'.cell? ⟨b2, o2 + k * 4 + 2, none⟩ = some (.string p.type) ∧ w'.cell? ⟨b2, o2 + k * 4 + 3, none⟩ = some (.slice s2.bo pn s2.bcap)) (first | go_keep | exact HK3.out) (first
        | (go_at_call 46; refine HSp.out.mono ?_; rintro e' w3 ⟨rfl, hb3⟩; have HB3 := Hid.mk' ((HB.out.trans (below_drew _ _)).trans (hb3.mono HB.out.size)); have HK3 : Hid (w3.cell? ⟨b1, o1 + k * 4, none⟩ = some (.string p.name) ∧ w3.cell? ⟨b1, o1 + k * 4 + 1, none⟩ = some (.string p.file) ∧ w3.cell? ⟨b1, o1 + k * 4 + 2, none⟩ = some (.string p.type) ∧ w3.cell? ⟨b1, o1 + k * 4 + 3, none⟩ = some (.slice s1.bo pn s1.bcap) ∧ w3.cell? ⟨b2, o2 + k * 4, none⟩ = some (.string p.name) ∧ w3.cell? ⟨b2, o2 + k * 4 + 1, none⟩ = some (.string p.file) ∧ w3.cell? ⟨b2, o2 + k * 4 + 2, none⟩ = some (.string p.type) ∧ w3.cell? ⟨b2, o2 + k * 4 + 3, none⟩ = some (.slice s2.bo pn s2.bcap)) := ⟨(hb3.cell (World.block_lt_of_cell? wr _ x0)).trans x0, (hb3.cell (World.block_lt_of_cell? wr _ x1)).trans x1, (hb3.cell (World.block_lt_of_cell? wr _ x2)).trans x2, (hb3.cell (World.block_lt_of_cell? wr _ x3)).trans x3, (hb3.cell (World.block_lt_of_cell? wr _ y0)).trans y0, (hb3.cell (World.block_lt_of_cell? wr _ y1)).trans y1, (hb3.cell (World.block_lt_of_cell? wr _ y2)).trans y2, (hb3.cell (World.block_lt_of_cell? wr _ y3)).trans y3⟩; clear hb3))
      all_goals
        go_wp2
        go_roundw
        case rel => exact ⟨k + 1, by omega, by go_num, HB3.out⟩
        case measure => simp [intOf]; omega
    · go_wp2
      go_ret
      exact ⟨rfl, HB.out⟩
end Go.Proofs.YtjpenioloeplgacGreatDoor
