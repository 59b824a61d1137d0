/- The document's own answer, walked: CopyUploads, a Hold's Copy. -/
import Derived.Test.YtdclmpdjjkjfjaaGreatDoorRfHD
import Derived.Test.YtdclmpdjjkjfjaaGreatDoorSqJ
namespace Go.Proofs.YtdclmpdjjkjfjaaGreatDoor
open Go.RowKit

set_option maxRecDepth 100000 in
set_option maxHeartbeats 2000000 in
theorem copyUps_any (l : List Sp.Up) (ao : Option Addr) (cap n : Nat) (w : World) (hl : IsUps w ao cap l) (hcap : n ≤ cap) (hn : l.length = n) (hz : SmallU l) :
    Calls Tryz.prog 118 #[.slice ao n cap] w fun e w' => ∃ ao' cap', e = .returned (.slice ao' n cap') ∧ UpO w' (fun k => w.heap.size ≤ k) 67 5 ao' cap' l ∧ Below w.heap.size w w' := by
  subst hn
  have hN := hz.1
  have H := Hid.mk' hl
  have HZ := Hid.mk' hz
  obtain ⟨i0, hi0, hz0, hz1, hz2⟩ := info_parts info_u8
  have Hi := Hid.mk' hi0; have Hz0 := Hid.mk' hz0; have Hz1 := Hid.mk' hz1; have Hz2 := Hid.mk' hz2
  obtain ⟨j0, hj0, hy0, hy1, hy2⟩ := info_parts info_up
  have Hj := Hid.mk' hj0; have Hy0 := Hid.mk' hy0; have Hy1 := Hid.mk' hy1; have Hy2 := Hid.mk' hy2
  clear hl hz hi0 hz0 hz1 hz2 hj0 hy0 hy1 hy2
  go_enter Tryz.func118, Tryz.ntmps118
  go_wp2
  go_loopw [3, 4] (fun v t wr => ∃ (k : Nat) (ao' : Option Addr) (cap' : Nat), k ≤ l.length ∧ t = .int .i64 k ∧ v = .slice ao' k cap' ∧ Below w.heap.size w wr ∧ UpO wr (fun k => w.heap.size ≤ k) 67 5 ao' cap' (l.take k)) (fun _ t _ => l.length - (intOf t).toNat)
  case atStart => exact ⟨0, none, 0, Nat.zero_le _, rfl, rfl, Below.refl _ _, UpO.nil _ _ _ _⟩
  case round =>
    obtain ⟨k, ao', cap', hk, rfl, rfl, hB, hU⟩ := hrel
    have HB := Hid.mk' hB
    have HU := Hid.mk' hU
    clear hB hU
    by_cases hlt : k < l.length
    · obtain ⟨bb, oo, q, rfl, hc0, hc1, hc2, hc3, hc4, hIB⟩ := (H.out.stay HB.out).at_ k hlt
      have hlt' : (k : Int) < l.length := by omega
      have hz := HZ.out.2 l[k] (List.getElem_mem hlt)
      have HT : Hid (l.take (k + 1) = l.take k ++ [l[k]]) := List.take_succ_eq_append_getElem hlt
      have hszr := HB.out.size
      have hbA := (Below.refl _ wr).alloc (Nat.le_refl _) (.cells #[.int .i64 l[k].id, .int .i64 l[k].size, .string l[k].note, .slice q.bo l[k].bytes.length q.bcap, .int .i64 l[k].sent] 67)
      have HIB := Hid.mk' (hIB.stay hbA)
      have hd3 : (wr.alloc (.cells #[.int .i64 l[k].id, .int .i64 l[k].size, .string l[k].note, .slice q.bo l[k].bytes.length q.bcap, .int .i64 l[k].sent] 67)).cell? ⟨bb, oo + k * 5 + 3, none⟩ = some (.slice q.bo l[k].bytes.length q.bcap) := by
        rw [hbA.cell (p := ⟨bb, oo + k * 5 + 3, none⟩) (World.block_lt_of_cell? wr _ hc3)]; exact hc3
      have HX : Hid (∀ w2 bo3 bc3, GrowB w2 (fun j => blkB [] none = some j ∨ (wr.alloc (.cells #[.int .i64 l[k].id, .int .i64 l[k].size, .string l[k].note, .slice q.bo l[k].bytes.length q.bcap, .int .i64 l[k].sent] 67)).heap.size ≤ j) 5 bo3 bc3 ([] ++ l[k].bytes) → Turns (fun j => blkB [] none = some j) (wr.alloc (.cells #[.int .i64 l[k].id, .int .i64 l[k].size, .string l[k].note, .slice q.bo l[k].bytes.length q.bcap, .int .i64 l[k].sent] 67)) w2 →
          w2.heap[wr.heap.size]? = some (.cells #[.int .i64 l[k].id, .int .i64 l[k].size, .string l[k].note, .slice q.bo l[k].bytes.length q.bcap, .int .i64 l[k].sent] 67 (0, 0)) ∧
          (w2.setCell ⟨wr.heap.size, 3, none⟩ (.slice bo3 l[k].bytes.length bc3)).heap[wr.heap.size]? = some (.cells #[.int .i64 l[k].id, .int .i64 l[k].size, .string l[k].note, .slice bo3 l[k].bytes.length bc3, .int .i64 l[k].sent] 67 (0, 0)) ∧
          GrowB (w2.setCell ⟨wr.heap.size, 3, none⟩ (.slice bo3 l[k].bytes.length bc3)) (fun j => wr.heap.size < j) 5 bo3 bc3 l[k].bytes ∧ Below wr.heap.size wr (w2.setCell ⟨wr.heap.size, 3, none⟩ (.slice bo3 l[k].bytes.length bc3))) := fun w2 bo3 bc3 hG hT => by
        have hb2 : Below (wr.alloc (.cells #[.int .i64 l[k].id, .int .i64 l[k].size, .string l[k].note, .slice q.bo l[k].bytes.length q.bcap, .int .i64 l[k].sent] 67)).heap.size _ w2 := hT.below (fun k e => by simp [blkB] at e) (Nat.le_refl _)
        have hr2 := (hb2.block wr.heap.size (by simp)).trans (heap_alloc_new wr _)
        have hTs : Turns (fun j => j = wr.heap.size) w2 (w2.setCell ⟨wr.heap.size, 3, none⟩ (.slice bo3 l[k].bytes.length bc3)) := Turns.setCell (fun j => j = wr.heap.size) w2 _ _ rfl
        rw [List.nil_append] at hG
        refine ⟨hr2, heap_setCell_same _ _ 3 _ _ _ hr2, (hG.to (S' := fun j => wr.heap.size < j) (fun j e _ _ => ?_)).turns hTs (fun j e h => by omega), (then_ hbA hb2).trans (hTs.below (fun j e => by omega) ?_)⟩
        · rcases e with e | e
          · simp [blkB] at e
          · simp at e; omega
        · have := hb2.size; simp at this; omega
      clear hIB hbA
      generalize l[k] = p at *
      go_upto_region 8 with (at_builtin; refine wpList_append_grown (S := fun _ => False) rfl (.tmp 17) (.tmp 22) 30 rfl 5 i0 Tryz.underlying30 Hi.out Hz0.out Hz1.out Hz2.out (l := []) rfl rfl (GrowB.nil _ _ _) rfl HIB.out rfl (by omega) ?_; intro bo3 bc3 w2 hO3 hT3; obtain ⟨r2, x1, x2, x3⟩ := HX.out w2 bo3 bc3 hO3 hT3; have z0 := cell_of_row w2 _ 3 _ _ _ r2; have y0 := frozen_of_row w2 _ 3 _ _ r2; simp at z0; have HX1 := Hid.mk' x1; have HX2 := Hid.mk' x2; have HX3 := Hid.mk' x3; clear x1 x2 x3 hO3 hT3 r2)
      generalize w2.setCell ⟨wr.heap.size, 3, none⟩ (Value.slice bo3 p.bytes.length bc3) = w3 at *
      have hr3 := HX1.out
      have e0 : w3.cell? ⟨wr.heap.size, 0, none⟩ = some (.int .i64 p.id) := cell_of_row w3 _ 0 _ _ _ hr3
      have e1 : w3.cell? ⟨wr.heap.size, 1, none⟩ = some (.int .i64 p.size) := cell_of_row w3 _ 1 _ _ _ hr3
      have e2 : w3.cell? ⟨wr.heap.size, 2, none⟩ = some (.string p.note) := cell_of_row w3 _ 2 _ _ _ hr3
      have e3 : w3.cell? ⟨wr.heap.size, 3, none⟩ = some (.slice bo3 p.bytes.length bc3) := cell_of_row w3 _ 3 _ _ _ hr3
      have e4 : w3.cell? ⟨wr.heap.size, 4, none⟩ = some (.int .i64 p.sent) := cell_of_row w3 _ 4 _ _ _ hr3
      obtain ⟨xs, hO, hP⟩ := ((HU.out.mono (S' := fun j => w.heap.size ≤ j ∧ j < wr.heap.size) (fun j hj e => ⟨e, hj⟩)).stay HX3.out).push (.cells #[.int .i64 p.id, .int .i64 p.size, .string p.note, .slice bo3 p.bytes.length bc3, .int .i64 p.sent] 67)
      have hlk : (l.take k).length = k := by rw [List.length_take]; omega
      rw [hlk] at hO hP
      have HO := Hid.mk' hO; have HP := Hid.mk' hP
      have HNw : Hid (IsV (w3.alloc (.cells #[.int .i64 p.id, .int .i64 p.size, .string p.note, .slice bo3 p.bytes.length bc3, .int .i64 p.sent] 67)) (some ⟨w3.heap.size, 0, none⟩) 1 1 (upC p ⟨bo3, bc3⟩)) := IsV.made w3 _ 1 _ _
      have hsz3 := HX3.out.size
      have HN : Hid (k + 1 ≤ 9223372036854775807 ∧ (k + 1) * 64 ≤ 140737488355328) := ⟨by omega, by omega⟩
      clear hO hP hr3 hlk
      go_wp2_with (at_builtin; refine wpList_append_v rfl (.tmp 25) (.tmp 27) 43 rfl 0 67 j0 (.agg #[.int .i64 0, .int .i64 0, .string ⟨#[]⟩, .slice none 0 0, .int .i64 0]) 5 64 Tryz.underlying43 Hj.out Hy0.out Hy1.out Hy2.out rfl (by decide) rfl HO.out rfl HNw.out rfl (upC_one _ _) HN.out.1 HN.out.2 (Nat.zero_le _) ?_; intro ao5 cap5 w5 hO5 hG5 hat5; obtain ⟨hU5, hT5⟩ := HP.out ao5 cap5 w5 p ⟨bo3, bc3⟩ (fun j => wr.heap.size < j) HX2.out (fun j e h => by omega) hO5 hG5 hat5; have HU5 := Hid.mk' hU5; have HT5 := Hid.mk' hT5; clear hO5 hG5 hat5 hU5 hT5)
      go_roundw
      case rel =>
        refine ⟨k + 1, ao5, cap5, by omega, by go_num, rfl, ?_, ?_⟩
        · exact (HB.out.trans (HX3.out.mono hszr)).trans (HT5.out.below (fun j e => e.1) (by omega))
        · rw [HT.out]
          refine HU5.out.mono (fun j _ e => ?_)
          rcases e with e | e | e
          · exact e.1
          · omega
          · omega
      case measure => simp [intOf]; omega
    · obtain rfl : k = l.length := by omega
      go_wp2
      go_ret
      refine ⟨ao', cap', rfl, ?_, HB.out⟩
      have := HU.out
      rw [List.take_length] at this
      exact this
set_option maxHeartbeats 800000 in
theorem copyH_any (s : Sp.St) (S : Nat → Prop) (g : Nat) (w : World) (h : HoldAt w S g s) (hz : SmallU s.l) :
    Calls Tryz.prog 88 #[.pointer (some ⟨g, 0, none⟩)] w fun e w' => ∃ g', e = .returned (.pointer (some ⟨g', 0, none⟩)) ∧ HoldAt w' (fun k => w.heap.size ≤ k) g' s ∧ Below w.heap.size w w' := by
  have hlt := h.lt
  obtain ⟨ao, cap, c0, c1, f0, f1, hg, hS, hU⟩ := h.cells
  have HC := Hid.mk' (copyUps_any s.l ao cap s.l.length w.drew (hU.isUps.stay (below_drew _ _)) hU.cap_ rfl hz)
  clear h hU hg hS f0 f1 hz
  have HE : Hid (∀ w1 ao' cap', UpO w1 (fun k => w.drew.heap.size ≤ k) 67 5 ao' cap' s.l → Below w.drew.heap.size w.drew w1 → w1.cell? ⟨g, 0, none⟩ = some (.slice ao s.l.length cap) ∧ w1.cell? ⟨g, 1, none⟩ = some (.int .i64 s.last) ∧ HoldAt (w1.alloc (.cells #[.slice ao' s.l.length cap', .int .i64 s.last] 50)) (fun k => w.heap.size ≤ k) w1.heap.size s ∧ Below w.heap.size w (w1.alloc (.cells #[.slice ao' s.l.length cap', .int .i64 s.last] 50))) := fun w1 ao' cap' hU1 hb1 => by
    have hb2 : Below w.heap.size w w1 := (below_drew _ _).trans hb1
    have hbA := (Below.refl _ w1).alloc (Nat.le_refl _) (.cells #[.slice ao' s.l.length cap', .int .i64 s.last] 50)
    exact ⟨(hb2.cell (p := ⟨g, 0, none⟩) hlt).trans c0, (hb2.cell (p := ⟨g, 1, none⟩) hlt).trans c1, ⟨ao', cap', heap_alloc_new w1 _, hb2.size, ((hU1.mono (S' := fun k => w.heap.size ≤ k ∧ k < w1.heap.size) (fun k hk e => ⟨e, hk⟩)).stay hbA).mono (fun k _ e => ⟨e.1, by omega⟩)⟩, then_ hb2 hbA⟩
  generalize s.l.length = n at *
  generalize hl : s.last = la at *
  go_enter Tryz.func88, Tryz.ntmps88
  go_wp2_with fail
  go_region_held3 (fun w' => w'.cell? ⟨g, 0, none⟩ = some (.slice ao n cap) ∧ w'.cell? ⟨g, 1, none⟩ = some (.int .i64 la)) (go_keep) (first | (go_at_call 118; refine HC.out.mono ?_; rintro e w1 ⟨ao', cap', rfl, hU1, hb1⟩; obtain ⟨d0, d1, hx, hy⟩ := HE.out w1 ao' cap' hU1 hb1; have HX := Hid.mk' hx; have HY := Hid.mk' hy; clear hx hy hU1 hb1))
  all_goals
    go_wp2
    go_ret
    exact ⟨_, rfl, HX.out, HY.out⟩
end Go.Proofs.YtdclmpdjjkjfjaaGreatDoor
