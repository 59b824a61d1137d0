/- Small texts, one behind the other: FsB, PtA. -/
import Derived.Test.YtjpenioloeplgacGreatDoorPk14
import Derived.Test.YtjpenioloeplgacGreatDoorPk6
import Derived.Test.YtjpenioloeplgacGreatDoorPk7
import Derived.Test.YtjpenioloeplgacGreatDoorPk11
import Derived.Test.YtjpenioloeplgacGreatDoorPk9
/- Package forms, walked: Safe. -/
namespace Go.Proofs.YtjpenioloeplgacGreatDoor
open Go.RowKit

/-- a byte of them is stored -/
theorem Buf.set {w : World} {base g cap : Nat} {l : List UInt8} (h : Buf w base g cap l) (j : Nat) (c : UInt8) : Buf (w.setCell ⟨g, j, none⟩ (.int .u8 (c.toNat : Int))) base g cap (l.set j c) ∧ Turns (fun k => k = g) w (w.setCell ⟨g, j, none⟩ (.int .u8 (c.toNat : Int))) := by
  refine ⟨⟨h.base_, by simpa using h.lt, by rw [List.length_set]; exact h.le, h.max, fun i u hu => ?_, fun i hi => ?_⟩, Turns.setCell (fun k => k = g) w ⟨g, j, none⟩ _ rfl⟩
  · have hil : i < l.length := by
      have := (List.getElem?_eq_some_iff.1 hu).1
      rwa [byteV_length, List.length_set] at this
    rw [byteV_at _ i (by rw [List.length_set]; exact hil)] at hu
    by_cases e : i = j
    · subst e
      have hs := h.holds i _ (byteV_at l i hil)
      rw [World.cell?_setCell_same w _ _ hs, ← hu, List.getElem_set_self]
    · rw [World.cell?_setCell_other (h := by intro e2; injection e2 with _ e2; exact e e2.symm), ← hu]
      rw [List.getElem_set_ne (fun e2 => e e2.symm)]
      exact h.holds i _ (byteV_at l i hil)
  · obtain ⟨h1, h2⟩ := h.there i hi
    refine ⟨?_, by rw [World.frozen?_setCell]; exact h2⟩
    by_cases e : i = j
    · subst e
      obtain ⟨v, hv⟩ := Option.isSome_iff_exists.1 h1
      rw [World.cell?_setCell_same w _ _ hv]; rfl
    · rw [World.cell?_setCell_other (h := by intro e2; injection e2 with _ e2; exact e e2.symm)]
      exact h1
/-- what stands behind the last stroke -/
theorem last_tail {l : List UInt8} {a b : Int} (ha : LastIs 47 l a) (hb : LastIs 92 l b) : -1 ≤ max a b ∧ max a b < l.length ∧ l.drop (max a b + 1).toNat = Fm.tail l := by
  have hs : ∀ c : UInt8, Fm.stroke c = false ↔ c ≠ 47 ∧ c ≠ 92 := fun c => by
    unfold Fm.stroke
    rw [Bool.or_eq_false_iff, beq_eq_false_iff_ne, beq_eq_false_iff_ne]
  have ht : ∀ c : UInt8, (c = 47 ∨ c = 92) → Fm.stroke c = true := fun c h => by
    unfold Fm.stroke
    rw [Bool.or_eq_true, beq_iff_eq, beq_iff_eq]; exact h
  rcases ha with ⟨ha, na⟩ | ⟨i, hi, ha, ca, na⟩
  · rcases hb with ⟨hb, nb⟩ | ⟨k, hk, hb, cb, nb⟩
    · have e : max a b = -1 := by omega
      rw [e]
      exact ⟨by omega, by omega, (Fm.tail_at (p := 0) (Nat.zero_le _) (fun j hj _ => (hs _).2 ⟨na j hj, nb j hj⟩) (Or.inl rfl)).symm⟩
    · have e : max a b = k := by omega
      rw [e]
      refine ⟨by omega, by omega, ?_⟩
      rw [show ((k : Int) + 1).toNat = k + 1 by omega]
      exact (Fm.tail_at (p := k + 1) hk (fun j hj h => (hs _).2 ⟨na j hj, nb j hj h⟩) (Or.inr ⟨by simpa using hk, by omega, ht _ (Or.inr (by simpa using cb))⟩)).symm
  · rcases hb with ⟨hb, nb⟩ | ⟨k, hk, hb, cb, nb⟩
    · have e : max a b = i := by omega
      rw [e]
      refine ⟨by omega, by omega, ?_⟩
      rw [show ((i : Int) + 1).toNat = i + 1 by omega]
      exact (Fm.tail_at (p := i + 1) hi (fun j hj h => (hs _).2 ⟨na j hj h, nb j hj⟩) (Or.inr ⟨by simpa using hi, by omega, ht _ (Or.inl (by simpa using ca))⟩)).symm
    · rcases Nat.lt_or_ge i k with h | h
      · have e : max a b = k := by omega
        rw [e]
        refine ⟨by omega, by omega, ?_⟩
        rw [show ((k : Int) + 1).toNat = k + 1 by omega]
        exact (Fm.tail_at (p := k + 1) hk (fun j hj h2 => (hs _).2 ⟨na j hj (by omega), nb j hj h2⟩) (Or.inr ⟨by simpa using hk, by omega, ht _ (Or.inr (by simpa using cb))⟩)).symm
      · have e : max a b = i := by omega
        rw [e]
        refine ⟨by omega, by omega, ?_⟩
        rw [show ((i : Int) + 1).toNat = i + 1 by omega]
        exact (Fm.tail_at (p := i + 1) hi (fun j hj h2 => (hs _).2 ⟨na j hj h2, nb j hj (by omega)⟩) (Or.inr ⟨by simpa using hi, by omega, ht _ (Or.inl (by simpa using ca))⟩)).symm
end Go.Proofs.YtjpenioloeplgacGreatDoor

/- Parts of a form in memory, in a row of the call's own; their bytes lie in older memory. -/
namespace Go.Proofs.YtjpenioloeplgacGreatDoor
open Go.RowKit

theorem info_part : (Tryz.prog.info? 30).map (fun i => (i.zero, i.size, i.bytes)) = some (some (.agg #[.string ⟨#[]⟩, .string ⟨#[]⟩, .string ⟨#[]⟩, .slice none 0 0]), 4, 72) := by kernel_rfl
/-- where a part's bytes lie -/
structure PtS where
  bo : Option Addr
  bcap : Nat
def ptC (p : Fm.Pt) (s : PtS) : List Value := [.string p.name, .string p.file, .string p.type, .slice s.bo p.bytes.length s.bcap]
def ptsV (ps : List (Fm.Pt × PtS)) : List Value := ps.flatMap fun p => ptC p.1 p.2
theorem ptsV_append (a b : List (Fm.Pt × PtS)) : ptsV (a ++ b) = ptsV a ++ ptsV b := by simp [ptsV]
theorem ptsV_one (p : Fm.Pt) (s : PtS) : ptsV [(p, s)] = ptC p s := by simp [ptsV]
theorem ptsV_length (ps : List (Fm.Pt × PtS)) : (ptsV ps).length = ps.length * 4 := by
  induction ps with
  | nil => rfl
  | cons p t ih =>
    have e : (ptC p.1 p.2).length = 4 := rfl
    simp only [ptsV, List.flatMap_cons, List.length_append, List.length_cons] at ih ⊢
    rw [ih, e]; omega
theorem ptC_one (p : Fm.Pt) (s : PtS) : ∀ u ∈ ptC p s, u.oneCell' = true := by
  intro u hu
  simp only [ptC, List.mem_cons, List.not_mem_nil, or_false] at hu
  rcases hu with rfl | rfl | rfl | rfl <;> rfl
theorem ptsV_at : ∀ (ps : List (Fm.Pt × PtS)) (i : Nat) (hi : i < ps.length) (j : Nat), j < 4 → (ptsV ps)[i * 4 + j]? = (ptC ps[i].1 ps[i].2)[j]?
  | p :: t, 0, _, j, hj => by
    show (ptC p.1 p.2 ++ ptsV t)[0 * 4 + j]? = _
    rw [List.getElem?_append_left (by rw [show (ptC p.1 p.2).length = 4 from rfl]; omega), Nat.zero_mul, Nat.zero_add]
    rfl
  | p :: t, i + 1, hi, j, hj => by
    show (ptC p.1 p.2 ++ ptsV t)[(i + 1) * 4 + j]? = _
    rw [List.getElem?_append_right (by rw [show (ptC p.1 p.2).length = 4 from rfl]; omega), show (ptC p.1 p.2).length = 4 from rfl, show (i + 1) * 4 + j - 4 = i * 4 + j by omega]
    exact ptsV_at t i (by simpa using hi) j hj
/-- parts that are gathered out of the memory of world w -/
structure PtRel (w : World) (ps : List Fm.Pt) (ao : Option Addr) (cap n : Nat) (wr : World) : Prop where
  own : ∃ qs : List (Fm.Pt × PtS), qs.map (·.1) = ps ∧ OwnV wr w.heap.size 30 4 ao cap n (ptsV qs) ∧ ∀ q ∈ qs, IsB w q.2.bo q.2.bcap q.1.bytes
  len : n = ps.length
  below : Below w.heap.size w wr
theorem PtRel.start (w : World) : PtRel w [] none 0 0 w := ⟨⟨[], rfl, OwnV.nil _ _ _ _, fun q hq => (by cases hq)⟩, rfl, Below.refl _ _⟩
theorem PtRel.stay {w wr w' : World} {ps : List Fm.Pt} {ao : Option Addr} {cap n : Nat} (h : PtRel w ps ao cap n wr) (hb : Below wr.heap.size wr w') : PtRel w ps ao cap n w' := by
  obtain ⟨qs, h1, h2, h3⟩ := h.own
  exact ⟨⟨qs, h1, h2.stay hb, h3⟩, h.len, then_ h.below hb⟩
/-- one part more -/
theorem PtRel.push {w W : World} {ps : List Fm.Pt} {ao : Option Addr} {cap n : Nat} (h : PtRel w ps ao cap n W) : ∃ xs, OwnV W w.heap.size 30 4 ao cap n xs ∧
    ∀ ao' cap' w' (p : Fm.Pt) (s : PtS), IsB w s.bo s.bcap p.bytes → OwnV w' w.heap.size 30 4 ao' cap' (n + 1) (xs ++ ptC p s) → W.grownBy w' (blockOf ao) → PtRel w (ps ++ [p]) ao' cap' (n + 1) w' := by
  obtain ⟨qs, h1, h2, h3⟩ := h.own
  refine ⟨ptsV qs, h2, fun ao' cap' w' p s hB hO hG => ⟨⟨qs ++ [(p, s)], by simp [h1], by rw [ptsV_append, ptsV_one]; exact hO, fun q hq => ?_⟩, by rw [List.length_append, h.len]; rfl, h.below.grown hG h.below.size (fun k e => ?_)⟩⟩
  · rcases List.mem_append.1 hq with hq | hq
    · exact h3 q hq
    · rw [List.mem_singleton.1 hq]; exact hB
  · cases ao with
    | none => cases e
    | some a => injection e with e; subst e; exact (h2.block a rfl).1
/-- bytes for the last part -/
theorem PtRel.bytes {w wr : World} {qs : List Fm.Pt} {p : Fm.Pt} {ao : Option Addr} {cap n : Nat} (h : PtRel w (qs ++ [p]) ao cap (n + 1) wr) : ∃ g, ao = some ⟨g, 0, none⟩ ∧ (∃ v, wr.cell? ⟨g, n * 4 + 3, none⟩ = some v) ∧ wr.frozen? ⟨g, n * 4 + 3, none⟩ = false ∧ n + 1 ≤ cap ∧
    ∀ (l : List UInt8) (bo : Option Addr) (bc m : Nat), IsB w bo bc l → m = l.length → PtRel w (qs ++ [{ p with bytes := l }]) ao cap (n + 1) (wr.setCell ⟨g, n * 4 + 3, none⟩ (.slice bo m bc)) := by
  obtain ⟨rs, h1, h2, h3⟩ := h.own
  have hn : n = qs.length := by have := h.len; rw [List.length_append] at this; simpa using this
  obtain ⟨rs', ps, rfl, hrs, hps⟩ : ∃ rs' ps, rs = rs' ++ [ps] ∧ rs'.map (·.1) = qs ∧ ps.1 = p := by
    rcases List.eq_nil_or_concat rs with rfl | ⟨q, x, rfl⟩
    · have := congrArg List.length h1; simp at this
    · rw [List.concat_eq_append, List.map_append] at h1
      obtain ⟨e1, e2⟩ := List.append_inj' h1 rfl
      exact ⟨q, x, by rw [List.concat_eq_append], e1, by simpa using e2⟩
  obtain ⟨pp, ss⟩ := ps
  have hps : pp = p := hps
  subst hps
  have hl : rs'.length = n := by have := congrArg List.length hrs; rw [List.length_map] at this; omega
  have hv := h2.isV
  have hpos : 0 < (ptsV (rs' ++ [(pp, ss)])).length := by rw [ptsV_length, List.length_append]; simp
  obtain ⟨a, rfl⟩ : ∃ a, ao = some a := by
    cases ao with
    | none => have := h2.isV.2.1 rfl; have := h2.isV.1; omega
    | some a => exact ⟨a, rfl⟩
  obtain ⟨g, rfl⟩ : ∃ g, a = ⟨g, 0, none⟩ := by
    rcases h2.2 with ⟨e, _⟩ | ⟨g, cap', cur, e, _⟩
    · injection e with e; cases e
    · injection e with e; injection e with e; exact ⟨g, e⟩
  have hat : (ptsV (rs' ++ [(pp, ss)]))[n * 4 + 3]? = some (.slice ss.bo pp.bytes.length ss.bcap) := by
    rw [ptsV_at _ n (by rw [List.length_append, hl]; simp) 3 (by omega)]
    simp [← hl, ptC]
  refine ⟨g, rfl, ⟨_, (World.ownsRow.cellAt h2 (n * 4 + 3) (by omega)).trans hat⟩, World.ownsRow.frozenAt h2 _, h2.isV.1, fun l bo bc m hB hm => ?_⟩
  subst hm
  have hS := (World.ownsRow.stored h2 (n * 4 + 3) (.slice bo l.length bc)).1
  have e1 : (ptsV (rs' ++ [(pp, ss)])).set (n * 4 + 3) (.slice bo l.length bc) = ptsV (rs' ++ [({ pp with bytes := l }, ⟨bo, bc⟩)]) := by
    rw [ptsV_append, ptsV_append, ptsV_one, ptsV_one, List.set_append_right _ _ (by rw [ptsV_length, hl]; omega), ptsV_length, hl, show n * 4 + 3 - n * 4 = 3 by omega]
    rfl
  have hS2 : OwnV (wr.setCell ⟨g, n * 4 + 3, none⟩ (.slice bo l.length bc)) w.heap.size 30 4 (some ⟨g, 0, none⟩) cap (n + 1) (ptsV (rs' ++ [({ pp with bytes := l }, ⟨bo, bc⟩)])) := by rw [← e1]; exact hS
  have hb : w.heap.size ≤ (⟨g, n * 4 + 3, none⟩ : Addr).block := (h2.block _ rfl).1
  refine ⟨⟨rs' ++ [({ pp with bytes := l }, ⟨bo, bc⟩)], by simp [hrs], hS2, fun q hq => ?_⟩, by rw [List.length_append, hn]; rfl, h.below.setCell hb _⟩
  rcases List.mem_append.1 hq with hq | hq
  · exact h3 q (List.mem_append_left _ hq)
  · rw [List.mem_singleton.1 hq]; exact hB
end Go.Proofs.YtjpenioloeplgacGreatDoor
