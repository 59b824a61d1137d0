/- Package spool, walked: cloneAll, List, Copy. -/
import Derived.Test.YtdclmpdjjkjfjaaGreatDoorSqI
import Derived.Test.YtdclmpdjjkjfjaaGreatDoorPk9
import Derived.Laws.OwnMore
namespace Go.Proofs.YtdclmpdjjkjfjaaGreatDoor
open Go.RowKit

/-- uploads that are small -/
def SmallU (l : List Sp.Up) : Prop := l.length ≤ 1000 ∧ ∀ u ∈ l, u.note.size ≤ 1000000 ∧ u.bytes.length ≤ 1000000
theorem Sp.Ok.small {s : Sp.St} (ok : Sp.Ok s) : SmallU s.l := ⟨by have := ok.few; omega, fun u hu => ⟨by have := (ok.all u hu).note; omega, by have := (ok.all u hu).long; omega⟩⟩
set_option maxRecDepth 100000 in
set_option maxHeartbeats 2000000 in
theorem cloneAll_any (l : List Sp.Up) (ao : Option Addr) (cap n : Nat) (w : World) (hl : IsUps w ao cap l) (hcap : n ≤ cap) (hn : l.length = n) (hz : SmallU l) :
    Calls Tryz.prog 40 #[.slice ao n cap] w fun e w' => ∃ ao', e = .returned (.slice ao' n n) ∧ UpO w' (fun k => w.heap.size ≤ k) 67 5 ao' n l ∧ Below w.heap.size w w' := by
  subst hn
  have hN := hz.1
  obtain ⟨i0, hi0, hz0, hz1, hz2⟩ := info_parts info_up
  obtain ⟨w1, hmk, hO1, hG1⟩ := run_make_full (P := Tryz.prog) w 0 43 67 i0 (.agg #[.int .i64 0, .int .i64 0, .string ⟨#[]⟩, .slice none 0 0, .int .i64 0]) 5 Tryz.underlying43 hi0 hz0 hz1 .i64 .i64 l.length (by rw [hz2]; omega) (by unfold maxLen; omega) (Nat.zero_le _)
  rw [show (Value.agg #[.int .i64 0, .int .i64 0, .string ⟨#[]⟩, .slice none 0 0, .int .i64 0]).cells = #[.int .i64 0, .int .i64 0, .string ⟨#[]⟩, .slice none 0 0, .int .i64 0] from rfl, upV_zeros] at hO1
  have hb1 : Below w.heap.size w w1 := ⟨hG1.os, hG1.tape, hG1.output, hG1.size, fun k hk => hG1.block k hk (by simp)⟩
  have hU1 : UpO w1 (fun k => w.heap.size ≤ k) 67 5 (some ⟨w.heap.size, 0, none⟩) l.length (List.replicate l.length zUp) := UpO.zeros hO1 (Nat.le_refl _)
  have H := Hid.mk' hl
  have HZ := Hid.mk' hz
  have HB1 := Hid.mk' hb1
  have HU1 := Hid.mk' hU1
  clear hl hz hi0 hz0 hz1 hz2 hO1 hG1 hb1 hU1
  go_enter Tryz.func40, Tryz.ntmps40
  go_wp2
  go_loopw [11] (fun t wr => ∃ k : Nat, k ≤ l.length ∧ t = .int .i64 k ∧ Below w.heap.size w wr ∧ UpO wr (fun k => w.heap.size ≤ k) 67 5 (some ⟨w.heap.size, 0, none⟩) l.length (l.take k ++ List.replicate (l.length - k) zUp)) (fun t _ => l.length - (intOf t).toNat)
  case atStart => exact ⟨0, Nat.zero_le _, rfl, HB1.out, HU1.out⟩
  case round =>
    obtain ⟨k, hk, rfl, hB, hU⟩ := hrel
    have HB := Hid.mk' hB
    have HU := Hid.mk' hU
    clear hB hU
    by_cases hlt : k < l.length
    · obtain ⟨bb, oo, q, rfl, hc0, hc1, hc2, hc3, hc4, hIB⟩ := (H.out.stay HB.out).at_ k hlt
      have hlt' : (k : Int) < l.length := by omega
      have hz := HZ.out.2 l[k] (List.getElem_mem hlt)
      have HT : Hid ((l.take k ++ List.replicate (l.length - k) zUp).set k l[k] = l.take (k + 1) ++ List.replicate (l.length - (k + 1)) zUp) := laid_next l k hlt
      have hL : k < (l.take k ++ List.replicate (l.length - k) zUp).length := by rw [List.length_append, List.length_take, List.length_replicate]; omega
      have hbA := (Below.refl _ wr).alloc (Nat.le_refl _) (.cells #[.int .i64 l[k].id, .int .i64 l[k].size, .string l[k].note, .slice q.bo l[k].bytes.length q.bcap, .int .i64 l[k].sent] 67)
      have HC := Hid.mk' (cloneU_any l[k].id l[k].size l[k].sent l[k].note q.bo l[k].bytes.length q.bcap l[k].bytes (wr.alloc (.cells #[.int .i64 l[k].id, .int .i64 l[k].size, .string l[k].note, .slice q.bo l[k].bytes.length q.bcap, .int .i64 l[k].sent] 67)) (hIB.stay hbA) rfl hz.2 hz.1)
      have hszr := HB.out.size
      have HX : Hid (∀ w3 ao' cap', GrowB w3 (fun j => (wr.alloc (.cells #[.int .i64 l[k].id, .int .i64 l[k].size, .string l[k].note, .slice q.bo l[k].bytes.length q.bcap, .int .i64 l[k].sent] 67)).heap.size ≤ j) 5 ao' cap' l[k].bytes → Below (wr.alloc (.cells #[.int .i64 l[k].id, .int .i64 l[k].size, .string l[k].note, .slice q.bo l[k].bytes.length q.bcap, .int .i64 l[k].sent] 67)).heap.size (wr.alloc (.cells #[.int .i64 l[k].id, .int .i64 l[k].size, .string l[k].note, .slice q.bo l[k].bytes.length q.bcap, .int .i64 l[k].sent] 67)) w3 →
          (∀ j, j < 5 → (∃ v, w3.cell? ⟨w.heap.size, k * 5 + j, none⟩ = some v) ∧ w3.frozen? ⟨w.heap.size, k * 5 + j, none⟩ = false) ∧
          Below w.heap.size w (((((w3.setCell ⟨w.heap.size, k * 5, none⟩ (.int .i64 l[k].id)).setCell ⟨w.heap.size, k * 5 + 1, none⟩ (.int .i64 l[k].size)).setCell ⟨w.heap.size, k * 5 + 2, none⟩ (.string l[k].note)).setCell ⟨w.heap.size, k * 5 + 3, none⟩ (.slice ao' l[k].bytes.length cap')).setCell ⟨w.heap.size, k * 5 + 4, none⟩ (.int .i64 l[k].sent)) ∧
          UpO (((((w3.setCell ⟨w.heap.size, k * 5, none⟩ (.int .i64 l[k].id)).setCell ⟨w.heap.size, k * 5 + 1, none⟩ (.int .i64 l[k].size)).setCell ⟨w.heap.size, k * 5 + 2, none⟩ (.string l[k].note)).setCell ⟨w.heap.size, k * 5 + 3, none⟩ (.slice ao' l[k].bytes.length cap')).setCell ⟨w.heap.size, k * 5 + 4, none⟩ (.int .i64 l[k].sent)) (fun k => w.heap.size ≤ k) 67 5 (some ⟨w.heap.size, 0, none⟩) l.length (l.take (k + 1) ++ List.replicate (l.length - (k + 1)) zUp)) := fun w3 ao' cap' hO hb3 => by
        have hb4 : Below wr.heap.size wr w3 := then_ hbA hb3
        have hU3 := (HU.out.mono (S' := fun j => w.heap.size ≤ j ∧ j < wr.heap.size) (fun j hj e => ⟨e, hj⟩)).stay hb4
        obtain ⟨g2, e2, _, _, hcf⟩ := hU3.at_.row k hL
        injection e2 with e2; injection e2 with e2; subst e2
        obtain ⟨hU5, hT5⟩ := hU3.put5 (u := l[k]) hL hO (fun j e h => by rw [World.size_alloc] at e; omega) rfl
        refine ⟨hcf, (HB.out.trans (hb4.mono hszr)).trans (hT5.below (fun j e => by subst e; exact Nat.le_refl _) (by have := hb4.size; omega)), ?_⟩
        rw [← HT.out]
        refine hU5.mono (fun j _ e => ?_)
        rcases e with e | e
        · exact e.1
        · rw [World.size_alloc] at e; omega
      clear hIB hbA HT hL HU
      generalize l[k] = p at *
      go_wp2_with fail
      refine HC.out.mono ?_
      rintro e w3 ⟨ao', cap', rfl, hO, hb3⟩
      obtain ⟨hcf, hx1, hx2⟩ := HX.out w3 ao' cap' hO hb3
      obtain ⟨⟨v0, d0⟩, f0⟩ := hcf 0 (by decide); obtain ⟨⟨v1, d1⟩, f1⟩ := hcf 1 (by decide); obtain ⟨⟨v2, d2⟩, f2⟩ := hcf 2 (by decide); obtain ⟨⟨v3, d3⟩, f3⟩ := hcf 3 (by decide); obtain ⟨⟨v4, d4⟩, f4⟩ := hcf 4 (by decide)
      rw [Nat.add_zero] at d0 f0
      have HX1 := Hid.mk' hx1; have HX2 := Hid.mk' hx2
      clear hcf hx1 hx2 hO hb3 HX
      go_wp2
      go_roundw
      case rel => exact ⟨k + 1, by omega, by go_num, HX1.out, HX2.out⟩
      case measure => simp [intOf]; omega
    · obtain rfl : k = l.length := by omega
      go_wp2
      go_ret
      refine ⟨some ⟨w.heap.size, 0, none⟩, rfl, ?_, HB.out⟩
      have := HU.out
      rw [List.take_length, Nat.sub_self, List.replicate_zero, List.append_nil] at this
      exact this
set_option maxHeartbeats 800000 in
theorem listU_any (s : Sp.St) (S : Nat → Prop) (g : Nat) (w : World) (h : SpoolAt w S g s) (hz : SmallU s.l) :
    Calls Tryz.prog 15 #[.pointer (some ⟨g, 0, none⟩)] w fun e w' => ∃ ao', e = .returned (.slice ao' s.l.length s.l.length) ∧ UpO w' (fun k => w.heap.size ≤ k) 67 5 ao' s.l.length s.l ∧ Below w.heap.size w w' := by
  obtain ⟨ao, cap, c0, c1, f0, f1, hg, hS, hU⟩ := h.cells
  have HC := Hid.mk' (cloneAll_any s.l ao cap s.l.length w hU.isUps hU.cap_ rfl hz)
  clear h hU hg hS c1 f0 f1 hz
  generalize s.l = l at *
  go_enter Tryz.func15, Tryz.ntmps15
  go_wp2_with fail
  refine HC.out.mono ?_
  rintro e w1 ⟨ao', rfl, hU1, hb1⟩
  have HU1 := Hid.mk' hU1; have HB1 := Hid.mk' hb1
  clear hU1 hb1
  go_wp2
  go_ret
  exact ⟨ao', rfl, HU1.out, HB1.out⟩
set_option maxHeartbeats 800000 in
theorem copyU_any (s : Sp.St) (S : Nat → Prop) (g : Nat) (w : World) (h : SpoolAt w S g s) (hz : SmallU s.l) :
    Calls Tryz.prog 142 #[.pointer (some ⟨g, 0, none⟩)] w fun e w' => ∃ g', e = .returned (.pointer (some ⟨g', 0, none⟩)) ∧ SpoolAt w' (fun k => w.heap.size ≤ k) g' s ∧ Below w.heap.size w w' := by
  have hlt := h.lt
  obtain ⟨ao, cap, c0, c1, f0, f1, hg, hS, hU⟩ := h.cells
  have HC := Hid.mk' (cloneAll_any s.l ao cap s.l.length w.drew (hU.isUps.stay (below_drew _ _)) hU.cap_ rfl hz)
  clear h hU hg hS f0 f1 hz
  have HE : Hid (∀ w1 ao', UpO w1 (fun k => w.drew.heap.size ≤ k) 67 5 ao' s.l.length s.l → Below w.drew.heap.size w.drew w1 → w1.cell? ⟨g, 0, none⟩ = some (.slice ao s.l.length cap) ∧ w1.cell? ⟨g, 1, none⟩ = some (.int .i64 s.last) ∧ SpoolAt (w1.alloc (.cells #[.slice ao' s.l.length s.l.length, .int .i64 s.last] 88)) (fun k => w.heap.size ≤ k) w1.heap.size s ∧ Below w.heap.size w (w1.alloc (.cells #[.slice ao' s.l.length s.l.length, .int .i64 s.last] 88))) := fun w1 ao' hU1 hb1 => by
    have hb2 : Below w.heap.size w w1 := (below_drew _ _).trans hb1
    have hbA := (Below.refl _ w1).alloc (Nat.le_refl _) (.cells #[.slice ao' s.l.length s.l.length, .int .i64 s.last] 88)
    exact ⟨(hb2.cell (p := ⟨g, 0, none⟩) hlt).trans c0, (hb2.cell (p := ⟨g, 1, none⟩) hlt).trans c1, ⟨ao', s.l.length, heap_alloc_new w1 _, hb2.size, ((hU1.mono (S' := fun k => w.heap.size ≤ k ∧ k < w1.heap.size) (fun k hk e => ⟨e, hk⟩)).stay hbA).mono (fun k _ e => ⟨e.1, by omega⟩)⟩, then_ hb2 hbA⟩
  generalize s.l.length = n at *
  generalize hl : s.last = la at *
  go_enter Tryz.func142, Tryz.ntmps142
  go_wp2_with fail
  go_region_held3 (fun w' => w'.cell? ⟨g, 0, none⟩ = some (.slice ao n cap) ∧ w'.cell? ⟨g, 1, none⟩ = some (.int .i64 la)) (go_keep) (first | (go_at_call 40; refine HC.out.mono ?_; rintro e w1 ⟨ao', rfl, hU1, hb1⟩; obtain ⟨d0, d1, hx, hy⟩ := HE.out w1 ao' hU1 hb1; have HX := Hid.mk' hx; have HY := Hid.mk' hy; clear hx hy hU1 hb1))
  all_goals
    go_wp2
    go_ret
    exact ⟨_, rfl, HX.out, HY.out⟩
set_option maxHeartbeats 800000 in
theorem getU_none (s : Sp.St) (S : Nat → Prop) (g : Nat) (id : Int) (w : World) (h : SpoolAt w S g s) (ok : Sp.Ok s) (hp : Sp.place s.l id = none) :
    Calls Tryz.prog 80 #[.pointer (some ⟨g, 0, none⟩), .int .i64 id] w fun e w' => e = .returned (.tuple #[.agg #[.int .i64 0, .int .i64 0, .string ⟨#[]⟩, .slice none 0 0, .int .i64 0], .bool false]) ∧ Below w.heap.size w w' := by
  have hbA := (Below.refl _ w).alloc (Nat.le_refl _) (.cells #[.int .i64 0, .int .i64 0, .string ⟨#[]⟩, .slice none 0 0, .int .i64 0] 67)
  have HI := Hid.mk' (findU_any s S g id _ (h.stay hbA) (by have := ok.few; omega))
  rw [Sp.pl_none hp] at HI
  have HB := Hid.mk' hbA
  clear h ok hp hbA
  go_enter Tryz.func80, Tryz.ntmps80
  go_wp2_with fail
  refine HI.out.mono ?_
  rintro e w1 ⟨rfl, hb⟩
  have hb2 := then_ HB.out hb
  have hr : w1.heap[w.heap.size]? = some (.cells #[.int .i64 0, .int .i64 0, .string ⟨#[]⟩, .slice none 0 0, .int .i64 0] 67 (0, 0)) := (hb.block w.heap.size (by simp)).trans (heap_alloc_new w _)
  have z0 := cell_of_row w1 _ 0 _ _ _ hr; have z1 := cell_of_row w1 _ 1 _ _ _ hr; have z2 := cell_of_row w1 _ 2 _ _ _ hr; have z3 := cell_of_row w1 _ 3 _ _ _ hr; have z4 := cell_of_row w1 _ 4 _ _ _ hr
  have y0 := frozen_of_row w1 _ 0 _ _ hr; have y1 := frozen_of_row w1 _ 1 _ _ hr; have y2 := frozen_of_row w1 _ 2 _ _ hr; have y3 := frozen_of_row w1 _ 3 _ _ hr; have y4 := frozen_of_row w1 _ 4 _ _ hr
  simp at z0 z1 z2 z3 z4
  have HB2 := Hid.mk' hb2; have HR := Hid.mk' hr
  clear hb hb2 hr
  go_wp2
  have hb6 := ((((HB2.out.setCell (p := ⟨w.heap.size, 0, none⟩) (Nat.le_refl _) (.int .i64 0)).setCell (p := ⟨w.heap.size, 1, none⟩) (Nat.le_refl _) (.int .i64 0)).setCell (p := ⟨w.heap.size, 2, none⟩) (Nat.le_refl _) (.string ⟨#[]⟩)).setCell (p := ⟨w.heap.size, 3, none⟩) (Nat.le_refl _) (.slice none 0 0)).setCell (p := ⟨w.heap.size, 4, none⟩) (Nat.le_refl _) (.int .i64 0)
  have hr6 := heap_setCell_same _ _ 4 _ _ (.int .i64 0) (heap_setCell_same _ _ 3 _ _ (.slice none 0 0) (heap_setCell_same _ _ 2 _ _ (.string ⟨#[]⟩) (heap_setCell_same _ _ 1 _ _ (.int .i64 0) (heap_setCell_same _ _ 0 _ _ (.int .i64 0) HR.out))))
  generalize (((((w1.setCell ⟨w.heap.size, 0, none⟩ (Value.int .i64 0)).setCell ⟨w.heap.size, 1, none⟩ (Value.int .i64 0)).setCell ⟨w.heap.size, 2, none⟩ (Value.string ⟨#[]⟩)).setCell ⟨w.heap.size, 3, none⟩ (Value.slice none 0 0)).setCell ⟨w.heap.size, 4, none⟩ (Value.int .i64 0)) = w6 at hb6 hr6 ⊢
  have r0 : w6.cell? ⟨w.heap.size, 0, none⟩ = some (.int .i64 0) := cell_of_row w6 _ 0 _ _ _ hr6
  have r1 : w6.cell? ⟨w.heap.size, 1, none⟩ = some (.int .i64 0) := cell_of_row w6 _ 1 _ _ _ hr6
  have r2 : w6.cell? ⟨w.heap.size, 2, none⟩ = some (.string ⟨#[]⟩) := cell_of_row w6 _ 2 _ _ _ hr6
  have r3 : w6.cell? ⟨w.heap.size, 3, none⟩ = some (.slice none 0 0) := cell_of_row w6 _ 3 _ _ _ hr6
  have r4 : w6.cell? ⟨w.heap.size, 4, none⟩ = some (.int .i64 0) := cell_of_row w6 _ 4 _ _ _ hr6
  refine bodyPost_ret (v := .tuple #[.agg #[.int .i64 0, .int .i64 0, .string ⟨#[]⟩, .slice none 0 0, .int .i64 0], .bool false]) (by simp [results, Tryz.results80, go_sem, r0, r1, r2, r3, r4]) rfl ⟨rfl, hb6⟩
set_option maxHeartbeats 1600000 in
theorem getU_some (s : Sp.St) (S : Nat → Prop) (g : Nat) (id : Int) (i : Nat) (w : World) (h : SpoolAt w S g s) (ok : Sp.Ok s) (hp : Sp.place s.l id = some i) (hi : i < s.l.length) :
    Calls Tryz.prog 80 #[.pointer (some ⟨g, 0, none⟩), .int .i64 id] w fun e w' => ∃ ao cap, e = .returned (.tuple #[.agg #[.int .i64 s.l[i].id, .int .i64 s.l[i].size, .string s.l[i].note, .slice ao s.l[i].bytes.length cap, .int .i64 s.l[i].sent], .bool true]) ∧ IsB w' ao cap s.l[i].bytes ∧ Below w.heap.size w w' := by
  have hbA := (Below.refl _ w).alloc (Nat.le_refl _) (.cells #[.int .i64 0, .int .i64 0, .string ⟨#[]⟩, .slice none 0 0, .int .i64 0] 67)
  have HI := Hid.mk' (findU_any s S g id _ (h.stay hbA) (by have := ok.few; omega))
  rw [Sp.pl_some hp] at HI
  have HB := Hid.mk' hbA
  have HA := Hid.mk' h
  have hk := ok.all _ (List.getElem_mem hi)
  have k1 := hk.long; have k2 := hk.note; have hfew := ok.few
  have hi' : (i : Int) < s.l.length := by omega
  obtain ⟨u, hu⟩ : ∃ u, s.l[i] = u := ⟨_, rfl⟩
  rw [hu] at k1 k2 ⊢
  have HUE := Hid.mk' hu
  clear h ok hp hbA hk hu
  go_enter Tryz.func80, Tryz.ntmps80
  go_wp2_with fail
  refine HI.out.mono ?_
  rintro e w1 ⟨rfl, hb⟩
  have hb2 := then_ HB.out hb
  obtain ⟨gu, hgu⟩ := RowAt.of (HA.out.stay hb2) hi
  obtain ⟨q, h0, h1, h2, h3, h4, hf, hIB⟩ := RowAt.up (HA.out.stay hb2) hgu hi
  rw [HUE.out] at h0 h1 h2 h3 h4 hIB
  obtain ⟨cap, hcap, hc⟩ := hgu
  have HC := Hid.mk' (cloneU_any u.id u.size u.sent u.note q.bo u.bytes.length q.bcap u.bytes w1 hIB rfl (by omega) (by omega))
  have hr : w1.heap[w.heap.size]? = some (.cells #[.int .i64 0, .int .i64 0, .string ⟨#[]⟩, .slice none 0 0, .int .i64 0] 67 (0, 0)) := (hb.block w.heap.size (by simp)).trans (heap_alloc_new w _)
  have hlw : w.heap.size < w1.heap.size := (Array.getElem?_eq_some_iff.1 hr).1
  have HB2 := Hid.mk' hb2; have HR := Hid.mk' hr
  clear hb hb2 hr hf hIB HA HI HB
  go_wp2_with fail
  refine HC.out.mono ?_
  rintro e w3 ⟨ao', cap', rfl, hO, hb3⟩
  have hb4 := then_ HB2.out hb3
  have hr := (hb3.block w.heap.size hlw).trans HR.out
  have z0 := cell_of_row w3 _ 0 _ _ _ hr; have z1 := cell_of_row w3 _ 1 _ _ _ hr; have z2 := cell_of_row w3 _ 2 _ _ _ hr; have z3 := cell_of_row w3 _ 3 _ _ _ hr; have z4 := cell_of_row w3 _ 4 _ _ _ hr
  have y0 := frozen_of_row w3 _ 0 _ _ hr; have y1 := frozen_of_row w3 _ 1 _ _ hr; have y2 := frozen_of_row w3 _ 2 _ _ hr; have y3 := frozen_of_row w3 _ 3 _ _ hr; have y4 := frozen_of_row w3 _ 4 _ _ hr
  simp at z0 z1 z2 z3 z4
  have HB4 := Hid.mk' hb4; have HR4 := Hid.mk' hr; have HO := Hid.mk' hO
  clear hb4 hr hb3 hO HR HC
  go_wp2
  have hb6 := ((((HB4.out.setCell (p := ⟨w.heap.size, 0, none⟩) (Nat.le_refl _) (.int .i64 u.id)).setCell (p := ⟨w.heap.size, 1, none⟩) (Nat.le_refl _) (.int .i64 u.size)).setCell (p := ⟨w.heap.size, 2, none⟩) (Nat.le_refl _) (.string u.note)).setCell (p := ⟨w.heap.size, 3, none⟩) (Nat.le_refl _) (.slice ao' u.bytes.length cap')).setCell (p := ⟨w.heap.size, 4, none⟩) (Nat.le_refl _) (.int .i64 u.sent)
  have hr6 := heap_setCell_same _ _ 4 _ _ (.int .i64 u.sent) (heap_setCell_same _ _ 3 _ _ (.slice ao' u.bytes.length cap') (heap_setCell_same _ _ 2 _ _ (.string u.note) (heap_setCell_same _ _ 1 _ _ (.int .i64 u.size) (heap_setCell_same _ _ 0 _ _ (.int .i64 u.id) HR4.out))))
  have hO6 := (HO.out.turns (turns_setCells w.heap.size [.int .i64 u.id, .int .i64 u.size, .string u.note, .slice ao' u.bytes.length cap', .int .i64 u.sent] 0 w3) (fun k e h => by subst h; omega)).isB
  change IsB (((((w3.setCell ⟨w.heap.size, 0, none⟩ (Value.int .i64 u.id)).setCell ⟨w.heap.size, 1, none⟩ (Value.int .i64 u.size)).setCell ⟨w.heap.size, 2, none⟩ (Value.string u.note)).setCell ⟨w.heap.size, 3, none⟩ (Value.slice ao' u.bytes.length cap')).setCell ⟨w.heap.size, 4, none⟩ (Value.int .i64 u.sent)) _ _ _ at hO6
  generalize (((((w3.setCell ⟨w.heap.size, 0, none⟩ (Value.int .i64 u.id)).setCell ⟨w.heap.size, 1, none⟩ (Value.int .i64 u.size)).setCell ⟨w.heap.size, 2, none⟩ (Value.string u.note)).setCell ⟨w.heap.size, 3, none⟩ (Value.slice ao' u.bytes.length cap')).setCell ⟨w.heap.size, 4, none⟩ (Value.int .i64 u.sent)) = w6 at hb6 hr6 hO6 ⊢
  have r0 : w6.cell? ⟨w.heap.size, 0, none⟩ = some (.int .i64 u.id) := cell_of_row w6 _ 0 _ _ _ hr6
  have r1 : w6.cell? ⟨w.heap.size, 1, none⟩ = some (.int .i64 u.size) := cell_of_row w6 _ 1 _ _ _ hr6
  have r2 : w6.cell? ⟨w.heap.size, 2, none⟩ = some (.string u.note) := cell_of_row w6 _ 2 _ _ _ hr6
  have r3 : w6.cell? ⟨w.heap.size, 3, none⟩ = some (.slice ao' u.bytes.length cap') := cell_of_row w6 _ 3 _ _ _ hr6
  have r4 : w6.cell? ⟨w.heap.size, 4, none⟩ = some (.int .i64 u.sent) := cell_of_row w6 _ 4 _ _ _ hr6
  refine bodyPost_ret (v := .tuple #[.agg #[.int .i64 u.id, .int .i64 u.size, .string u.note, .slice ao' u.bytes.length cap', .int .i64 u.sent], .bool true]) (by simp [results, Tryz.results80, go_sem, r0, r1, r2, r3, r4]) rfl ⟨ao', cap', rfl, hO6, hb6⟩
end Go.Proofs.YtdclmpdjjkjfjaaGreatDoor
