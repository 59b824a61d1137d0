/- The statements' own: head (a request's head, with fields). -/
import Derived.Test.YtdclmpdjjkjfjaaGreatDoorPk6
import Derived.Test.YtdclmpdjjkjfjaaGreatDoorPk9
import Derived.Test.YtdclmpdjjkjfjaaGreatDoorPk11
import Derived.Test.YtdclmpdjjkjfjaaGreatDoorPk12
import Derived.Deep.RegionLaw
import Derived.Deep.AppendLies
namespace Go.Proofs.YtdclmpdjjkjfjaaGreatDoor
open Go.RowKit

/-- a head that grows -/
structure HeAt (w : World) (m t : ByteArray) (ps : List (ByteArray × ByteArray)) (k : Nat) (ao : Option Addr) (cap : Nat) (W : World) : Prop where
  z : W.heap[w.heap.size]? = some (.cells #[.string ⟨#[]⟩, .string ⟨#[]⟩, .int .i64 0, .slice none 0 0, .int .i64 0] 35 (0, 0))
  r : W.heap[w.heap.size + 1 + 1]? = some (.cells #[.string m, .string t, .int .i64 1, .slice ao (k + 1) cap, .int .i64 0] 35 (0, 0))
  own : OwnV W w.heap.size 58 2 ao cap (k + 1) (pairV ((Tu.fTR, Tu.v100) :: ps.take k))
  below : Below w.heap.size w W
theorem HeAt.start (w : World) (m t : ByteArray) (ps : List (ByteArray × ByteArray)) : HeAt w m t ps 0 (some ⟨w.heap.size + 1, 0, none⟩) 1 (((w.alloc (.cells #[.string ⟨#[]⟩, .string ⟨#[]⟩, .int .i64 0, .slice none 0 0, .int .i64 0] 35)).alloc (.cells #[.string Tu.fTR, .string Tu.v100] 58)).alloc (.cells #[.string m, .string t, .int .i64 1, .slice (some ⟨w.heap.size + 1, 0, none⟩) 1 1, .int .i64 0] 35)) := by
  have h1 := heap_alloc_new w (.cells #[.string ⟨#[]⟩, .string ⟨#[]⟩, .int .i64 0, .slice none 0 0, .int .i64 0] 35)
  have b1 := (Below.refl _ w).alloc (Nat.le_refl _) (.cells #[.string ⟨#[]⟩, .string ⟨#[]⟩, .int .i64 0, .slice none 0 0, .int .i64 0] 35)
  generalize hw1 : w.alloc (.cells #[.string ⟨#[]⟩, .string ⟨#[]⟩, .int .i64 0, .slice none 0 0, .int .i64 0] 35) = w1 at *
  have s1 : w1.heap.size = w.heap.size + 1 := by rw [← hw1, World.size_alloc]
  have b2 := (Below.refl _ w1).alloc (Nat.le_refl _) (.cells #[.string Tu.fTR, .string Tu.v100] 58)
  have o2 : OwnV (w1.alloc (.cells #[.string Tu.fTR, .string Tu.v100] 58)) w.heap.size 58 2 (some ⟨w1.heap.size, 0, none⟩) 1 1 [.string Tu.fTR, .string Tu.v100] := World.ownsRow_lit w1 #[.string Tu.fTR, .string Tu.v100] 1 (by omega) (by decide) rfl
  have s2 : (w1.alloc (.cells #[.string Tu.fTR, .string Tu.v100] 58)).heap.size = w.heap.size + 1 + 1 := by rw [World.size_alloc, s1]
  generalize w1.alloc (.cells #[.string Tu.fTR, .string Tu.v100] 58) = w2 at *
  have h3 := heap_alloc_new w2 (.cells #[.string m, .string t, .int .i64 1, .slice (some ⟨w.heap.size + 1, 0, none⟩) 1 1, .int .i64 0] 35)
  have b3 := (Below.refl _ w2).alloc (Nat.le_refl _) (.cells #[.string m, .string t, .int .i64 1, .slice (some ⟨w.heap.size + 1, 0, none⟩) 1 1, .int .i64 0] 35)
  rw [s2] at h3
  rw [s1] at o2
  refine ⟨?_, h3, o2.alloc _, then_ (then_ b1 b2) b3⟩
  rw [b3.block _ (by omega), b2.block _ (by omega)]
  exact h1
theorem HeAt.push {w W W5 : World} {m t : ByteArray} {ps : List (ByteArray × ByteArray)} {k : Nat} {ao : Option Addr} {cap g5 cap5 : Nat} (h : HeAt w m t ps k ao cap W) (hk : k < ps.length) {o : Obj}
    (hO : OwnV W5 w.heap.size 58 2 (some ⟨g5, 0, none⟩) cap5 (k + 1 + 1) (pairV ((Tu.fTR, Tu.v100) :: ps.take k) ++ [.string ps[k].1, .string ps[k].2])) (hG : (W.alloc o).drew.grownBy W5 (Value.slice ao (k + 1) cap).ownBlock) :
    W5.heap[w.heap.size + 1 + 1]? = some (.cells #[.string m, .string t, .int .i64 1, .slice ao (k + 1) cap, .int .i64 0] 35 (0, 0)) ∧ HeAt w m t ps (k + 1) (some ⟨g5, 0, none⟩) cap5 (W5.setCell ⟨w.heap.size + 1 + 1, 3, none⟩ (.slice (some ⟨g5, 0, none⟩) (k + 1 + 1) cap5)) := by
  have hb : Below W.heap.size W (W.alloc o).drew := ((Below.refl _ W).alloc (Nat.le_refl _) o).trans (below_drew _ _)
  have hz := (hb.block _ (Array.getElem?_eq_some_iff.1 h.z).1).trans h.z
  have hr := (hb.block _ (Array.getElem?_eq_some_iff.1 h.r).1).trans h.r
  have ho := h.own.stay hb
  have nz := row_ne hz ho (by decide)
  have nr := row_ne hr ho (by decide)
  have hz5 := (hG.block _ (Array.getElem?_eq_some_iff.1 hz).1 (fun e => nz e.symm)).trans hz
  have hr5 := (hG.block _ (Array.getElem?_eq_some_iff.1 hr).1 (fun e => nr e.symm)).trans hr
  refine ⟨hr5, ?_⟩
  have hT : Turns (fun k => k = w.heap.size + 1 + 1) W5 (W5.setCell ⟨w.heap.size + 1 + 1, 3, none⟩ (.slice (some ⟨g5, 0, none⟩) (k + 1 + 1) cap5)) := Turns.setCell _ W5 _ _ rfl
  have nr5 := row_ne hr5 hO (by decide)
  rw [ownBlock_slice] at nr5
  refine ⟨hT.row hz5 (by omega), heap_setCell_same W5 _ 3 _ _ _ hr5, ?_, ?_⟩
  · have := hO.turns hT (fun a e e2 => nr5 (by rw [e]; show some a.block = _; rw [e2]))
    rw [List.take_succ_eq_append_getElem hk, ← List.cons_append, pairV_append]
    exact this
  · have h1 : Below w.heap.size w (W.alloc o).drew := then_ h.below hb
    have h2 : Below w.heap.size w W5 := h1.grown hG h1.size (fun q e => by
      rw [ownBlock_slice] at e
      cases ao with
      | none => cases e
      | some a => injection e with e; subst e; exact (h.own.block a rfl).1)
    exact h2.trans (hT.below (fun k e => by omega) h2.size)
/-- .. as it is answered -/
theorem HeAt.ends {w W : World} {m t : ByteArray} {ps : List (ByteArray × ByteArray)} {k : Nat} {ao : Option Addr} {cap : Nat} (h : HeAt w m t ps k ao cap W) : OwnV (W.setCells w.heap.size 0 [.string m, .string t, .int .i64 1, .slice ao (k + 1) cap, .int .i64 0]) w.heap.size 58 2 ao cap (k + 1) (pairV ((Tu.fTR, Tu.v100) :: ps.take k)) ∧ Below w.heap.size w (W.setCells w.heap.size 0 [.string m, .string t, .int .i64 1, .slice ao (k + 1) cap, .int .i64 0]) ∧ (W.setCells w.heap.size 0 [.string m, .string t, .int .i64 1, .slice ao (k + 1) cap, .int .i64 0]).heap[w.heap.size]? = some (.cells #[.string m, .string t, .int .i64 1, .slice ao (k + 1) cap, .int .i64 0] 35 (0, 0)) := by
  have nz := row_ne h.z h.own (by decide)
  rw [ownBlock_slice] at nz
  have hT := setCells_turns w.heap.size [.string m, .string t, .int .i64 1, .slice ao (k + 1) cap, .int .i64 0] 0 W
  refine ⟨h.own.turns hT (fun a e e2 => nz (by rw [e]; show some a.block = _; rw [e2])), h.below.trans (hT.below (fun k e => by omega) h.below.size), ?_⟩
  have h1 := heap_setCell_same W w.heap.size 0 _ _ (.string m) h.z
  have h2 := heap_setCell_same _ w.heap.size 1 _ _ (.string t) h1
  have h3 := heap_setCell_same _ w.heap.size 2 _ _ (.int .i64 1) h2
  have h4 := heap_setCell_same _ w.heap.size 3 _ _ (.slice ao (k + 1) cap) h3
  exact heap_setCell_same _ w.heap.size 4 _ _ (.int .i64 0) h4
set_option maxRecDepth 100000 in
set_option maxHeartbeats 1600000 in
theorem headL_any (m t : ByteArray) (ps : List (ByteArray × ByteArray)) (lo : Option Addr) (lcap nl : Nat) (w : World) (hl : IsV w lo lcap nl (pairV ps)) (hn : ps.length * 2 = nl) (hN : ps.length ≤ 1000) :
    Calls Tryz.prog 23 #[.string m, .string t, .slice lo nl lcap] w fun e w' => ∃ (ao : Option Addr) (cap : Nat), e = .returned (.agg #[.string m, .string t, .int .i64 1, .slice ao (ps.length + 1) cap, .int .i64 0]) ∧ OwnV w' w.heap.size 58 2 ao cap (ps.length + 1) (pairV ((Tu.fTR, Tu.v100) :: ps)) ∧ Below w.heap.size w w' := by
  have HNl := Hid.mk' hn
  have hnl : nl ≤ 2000 := by omega
  clear hn
  obtain ⟨i0, hi0, hz0, hz1, hz2⟩ := info_parts info_fld
  have Hi := Hid.mk' hi0; have Hz0 := Hid.mk' hz0; have Hz1 := Hid.mk' hz1; have Hz2 := Hid.mk' hz2
  have HL := Hid.mk' hl
  have H0 := Hid.mk' (HeAt.start w m t ps)
  unfold Tu.fTR Tu.v100 at H0
  clear hl hi0 hz0 hz1 hz2
  go_enter Tryz.func23, Tryz.ntmps23
  go_wp2
  go_loopw [8] (fun v6 wr => ∃ (k j : Nat) (ao : Option Addr) (cap : Nat), k ≤ ps.length ∧ j = k * 2 ∧ v6 = .int .i64 (j : Int) ∧ HeAt w m t ps k ao cap wr) (fun v6 _ => nl - (intOf v6).toNat)
  case atStart => exact ⟨0, 0, _, _, Nat.zero_le _, rfl, rfl, H0.out⟩
  case round =>
    obtain ⟨k, j, ao, cap, hk, hj, rfl, hR⟩ := hrel
    have HR := Hid.mk' hR
    clear hR H0
    have x0 : wr.cell? ⟨w.heap.size + 1 + 1, 0, none⟩ = some (.string m) := cell_of_row wr _ 0 _ _ _ HR.out.r
    have x2 : wr.cell? ⟨w.heap.size + 1 + 1, 1, none⟩ = some (.string t) := cell_of_row wr _ 1 _ _ _ HR.out.r
    have x3 : wr.cell? ⟨w.heap.size + 1 + 1, 2, none⟩ = some (.int .i64 1) := cell_of_row wr _ 2 _ _ _ HR.out.r
    have x1 : wr.cell? ⟨w.heap.size + 1 + 1, 3, none⟩ = some (.slice ao (k + 1) cap) := cell_of_row wr _ 3 _ _ _ HR.out.r
    have x4 : wr.cell? ⟨w.heap.size + 1 + 1, 4, none⟩ = some (.int .i64 0) := cell_of_row wr _ 4 _ _ _ HR.out.r
    by_cases hlt : k < ps.length
    · have hnn := HNl.out
      have hlt' : (j : Int) + 1 < (nl : Int) := by omega
      have hlt1 : (j : Int) < (nl : Int) := by omega
      have hlt0 : (0 : Int) ≤ (j : Int) + 1 := by omega
      have wj : IntKind.i64.wrap ((j : Int) + 1) = (j : Int) + 1 := wrap_id (by omega) (by omega)
      obtain ⟨lb, lof, rfl, hcs⟩ := (HL.out.stay HR.out.below).lit (by rw [pairV_length]; omega)
      have c1 := hcs _ _ (pairV_at ps k hlt).1
      have c2 := hcs _ _ (pairV_at ps k hlt).2
      rw [← hj] at c1 c2
      have hcp := HL.out.1
      have HJ := Hid.mk' hj
      have hj2 : j + 1 < nl := by omega
      clear hnn
      have HOw : Hid (OwnV (wr.alloc (.cells #[.string ps[k].1, .string ps[k].2] 58)).drew w.heap.size 58 2 ao cap (k + 1) (pairV ((Tu.fTR, Tu.v100) :: ps.take k))) := (HR.out.own.alloc _).stay (below_drew _ _)
      have HNw : Hid (∀ j u, ([.string ps[k].1, .string ps[k].2] : List Value)[j]? = some u → (wr.alloc (.cells #[.string ps[k].1, .string ps[k].2] 58)).drew.cell? (Addr.add ⟨wr.heap.size, 0, none⟩ j) = some u) := fun j u hu => prNew wr _ _ _ rfl j u hu
      have HPu : Hid (∀ g5 cap5 W5, OwnV W5 w.heap.size 58 2 (some ⟨g5, 0, none⟩) cap5 (k + 1 + 1) (pairV ((Tu.fTR, Tu.v100) :: ps.take k) ++ [.string ps[k].1, .string ps[k].2]) → (wr.alloc (.cells #[.string ps[k].1, .string ps[k].2] 58)).drew.grownBy W5 (Value.slice ao (k + 1) cap).ownBlock → W5.heap[w.heap.size + 1 + 1]? = some (.cells #[.string m, .string t, .int .i64 1, .slice ao (k + 1) cap, .int .i64 0] 35 (0, 0)) ∧ HeAt w m t ps (k + 1) (some ⟨g5, 0, none⟩) cap5 (W5.setCell ⟨w.heap.size + 1 + 1, 3, none⟩ (.slice (some ⟨g5, 0, none⟩) (k + 1 + 1) cap5))) := fun g5 cap5 W5 h1 h2 => HR.out.push hlt h1 h2
      have HN1 : Hid (k + 1 + 1 ≤ maxLen ∧ (k + 1 + 1) * 32 ≤ 140737488355328) := ⟨by unfold maxLen; omega, by omega⟩
      have HBs : Hid (w.heap.size ≤ (wr.alloc (.cells #[.string ps[k].1, .string ps[k].2] 58)).drew.heap.size) := by
        have := HR.out.below.size
        show w.heap.size ≤ (wr.alloc _).heap.size
        rw [World.size_alloc]; omega
      have x1a : (wr.alloc (.cells #[.string ps[k].1, .string ps[k].2] 58)).cell? ⟨w.heap.size + 1 + 1, 3, none⟩ = some (.slice ao (k + 1) cap) := (((Below.refl _ wr).alloc (Nat.le_refl _) _).cell (World.block_lt_of_cell? wr _ x1)).trans x1
      generalize ps[k] = p at *
      clear hcs hj HR
      go_wp2
      go_region_law
        ((refine step_append_lies _ (by rfl) _ _ _ (by rfl) w.heap.size 58 i0 (.agg #[.string ⟨#[]⟩, .string ⟨#[]⟩]) 2 32 Tryz.underlying29 Hi.out Hz0.out Hz1.out Hz2.out (by rfl) (by decide) (.slice ao (k + 1) cap) (k + 1) _ (by rfl) HOw.out ⟨wr.heap.size, 0, none⟩ 1 1 [.string p.1, .string p.2] (by rfl) (by rfl) HNw.out (prOnes _ _) (by decide) HN1.out.1 HN1.out.2 HBs.out (wr.heap.size + 1) (by simp) ?_; intro g5 cap5 w5 hown5 hgrow hat5 hlt5; obtain ⟨r5, r6⟩ := HPu.out g5 cap5 w5 hown5 hgrow; have q0 : w5.cell? ⟨w.heap.size + 1 + 1, 3, none⟩ = some (.slice ao (k + 1) cap) := cell_of_row w5 _ 3 _ _ _ r5; have q1 : w5.frozen? ⟨w.heap.size + 1 + 1, 3, none⟩ = false := frozen_of_row w5 _ 3 _ _ r5; have HR5 := Hid.mk' r6; clear hgrow hown5 hat5 r5 r6 hlt5))
      all_goals
        go_wp2
        go_roundw
        case rel => exact ⟨k + 1, j + 2, _, _, by omega, by have := HJ.out; omega, by go_num, HR5.out⟩
        case measure => simp [intOf]; omega
    · obtain rfl : k = ps.length := by omega
      have hnn := HNl.out
      have hlt' : ¬ (j : Int) + 1 < (nl : Int) := by omega
      have hjb : j ≤ 2000 := by omega
      clear hnn
      have hE := HR.out.ends
      rw [List.take_length] at hE
      have z0 : wr.cell? ⟨w.heap.size, 0, none⟩ = some (.string ⟨#[]⟩) := cell_of_row wr _ 0 _ _ _ HR.out.z
      have z1 : wr.cell? ⟨w.heap.size, 1, none⟩ = some (.string ⟨#[]⟩) := cell_of_row wr _ 1 _ _ _ HR.out.z
      have z2 : wr.cell? ⟨w.heap.size, 2, none⟩ = some (.int .i64 0) := cell_of_row wr _ 2 _ _ _ HR.out.z
      have z3 : wr.cell? ⟨w.heap.size, 3, none⟩ = some (.slice none 0 0) := cell_of_row wr _ 3 _ _ _ HR.out.z
      have z4 : wr.cell? ⟨w.heap.size, 4, none⟩ = some (.int .i64 0) := cell_of_row wr _ 4 _ _ _ HR.out.z
      have y0 : wr.frozen? ⟨w.heap.size, 0, none⟩ = false := frozen_of_row wr _ 0 _ _ HR.out.z
      have y1 : wr.frozen? ⟨w.heap.size, 1, none⟩ = false := frozen_of_row wr _ 1 _ _ HR.out.z
      have y2 : wr.frozen? ⟨w.heap.size, 2, none⟩ = false := frozen_of_row wr _ 2 _ _ HR.out.z
      have y3 : wr.frozen? ⟨w.heap.size, 3, none⟩ = false := frozen_of_row wr _ 3 _ _ HR.out.z
      have y4 : wr.frozen? ⟨w.heap.size, 4, none⟩ = false := frozen_of_row wr _ 4 _ _ HR.out.z
      have hE2 : OwnV (((((wr.setCell ⟨w.heap.size, 0, none⟩ (.string m)).setCell ⟨w.heap.size, 1, none⟩ (.string t)).setCell ⟨w.heap.size, 2, none⟩ (.int .i64 1)).setCell ⟨w.heap.size, 3, none⟩ (.slice ao (ps.length + 1) cap)).setCell ⟨w.heap.size, 4, none⟩ (.int .i64 0)) w.heap.size 58 2 ao cap (ps.length + 1) (pairV ((Tu.fTR, Tu.v100) :: ps)) ∧ Below w.heap.size w (((((wr.setCell ⟨w.heap.size, 0, none⟩ (.string m)).setCell ⟨w.heap.size, 1, none⟩ (.string t)).setCell ⟨w.heap.size, 2, none⟩ (.int .i64 1)).setCell ⟨w.heap.size, 3, none⟩ (.slice ao (ps.length + 1) cap)).setCell ⟨w.heap.size, 4, none⟩ (.int .i64 0)) ∧ (((((wr.setCell ⟨w.heap.size, 0, none⟩ (.string m)).setCell ⟨w.heap.size, 1, none⟩ (.string t)).setCell ⟨w.heap.size, 2, none⟩ (.int .i64 1)).setCell ⟨w.heap.size, 3, none⟩ (.slice ao (ps.length + 1) cap)).setCell ⟨w.heap.size, 4, none⟩ (.int .i64 0)).heap[w.heap.size]? = some (.cells #[.string m, .string t, .int .i64 1, .slice ao (ps.length + 1) cap, .int .i64 0] 35 (0, 0)) := hE
      have HE2 := Hid.mk' hE2
      clear hj HR hE hE2
      go_wp2
      generalize (((((wr.setCell ⟨w.heap.size, 0, none⟩ (.string m)).setCell ⟨w.heap.size, 1, none⟩ (.string t)).setCell ⟨w.heap.size, 2, none⟩ (.int .i64 1)).setCell ⟨w.heap.size, 3, none⟩ (.slice ao (ps.length + 1) cap)).setCell ⟨w.heap.size, 4, none⟩ (.int .i64 0)) = wf at *
      obtain ⟨q1, q2, q3⟩ := HE2.out
      have r0 : wf.cell? ⟨w.heap.size, 0, none⟩ = some (.string m) := cell_of_row wf _ 0 _ _ _ q3
      have r1 : wf.cell? ⟨w.heap.size, 1, none⟩ = some (.string t) := cell_of_row wf _ 1 _ _ _ q3
      have r2 : wf.cell? ⟨w.heap.size, 2, none⟩ = some (.int .i64 1) := cell_of_row wf _ 2 _ _ _ q3
      have r3 : wf.cell? ⟨w.heap.size, 3, none⟩ = some (.slice ao (ps.length + 1) cap) := cell_of_row wf _ 3 _ _ _ q3
      have r4 : wf.cell? ⟨w.heap.size, 4, none⟩ = some (.int .i64 0) := cell_of_row wf _ 4 _ _ _ q3
      refine bodyPost_ret (v := .agg #[.string m, .string t, .int .i64 1, .slice ao (ps.length + 1) cap, .int .i64 0]) (by simp [results, Tryz.results23, go_sem, r0, r1, r2, r3, r4]) rfl ⟨ao, cap, rfl, q1, q2⟩
theorem headL_none (m t : ByteArray) (w : World) :
    Calls Tryz.prog 23 #[.string m, .string t, .slice none 0 0] w fun e w' => ∃ (ao : Option Addr) (cap : Nat), e = .returned (.agg #[.string m, .string t, .int .i64 1, .slice ao 1 cap, .int .i64 0]) ∧ OwnV w' w.heap.size 58 2 ao cap 1 (pairV [(Tu.fTR, Tu.v100)]) ∧ Below w.heap.size w w' :=
  headL_any m t [] none 0 0 w (IsV.nil _) rfl (by simp)
theorem headL_one (m t a b : ByteArray) (lo : Option Addr) (lcap : Nat) (w : World) (hl : IsV w lo lcap 2 [.string a, .string b]) :
    Calls Tryz.prog 23 #[.string m, .string t, .slice lo 2 lcap] w fun e w' => ∃ (ao : Option Addr) (cap : Nat), e = .returned (.agg #[.string m, .string t, .int .i64 1, .slice ao 2 cap, .int .i64 0]) ∧ OwnV w' w.heap.size 58 2 ao cap 2 (pairV ((Tu.fTR, Tu.v100) :: [(a, b)])) ∧ Below w.heap.size w w' :=
  headL_any m t [(a, b)] lo lcap 2 w hl rfl (by simp)
theorem headL_two (m t a b c d : ByteArray) (lo : Option Addr) (lcap : Nat) (w : World) (hl : IsV w lo lcap 4 [.string a, .string b, .string c, .string d]) :
    Calls Tryz.prog 23 #[.string m, .string t, .slice lo 4 lcap] w fun e w' => ∃ (ao : Option Addr) (cap : Nat), e = .returned (.agg #[.string m, .string t, .int .i64 1, .slice ao 3 cap, .int .i64 0]) ∧ OwnV w' w.heap.size 58 2 ao cap 3 (pairV ((Tu.fTR, Tu.v100) :: [(a, b), (c, d)])) ∧ Below w.heap.size w w' :=
  headL_any m t [(a, b), (c, d)] lo lcap 4 w hl rfl (by simp)
end Go.Proofs.YtdclmpdjjkjfjaaGreatDoor
