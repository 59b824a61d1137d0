/- Small texts, one behind the other: PtA, PtB, FsB, PmTxB. -/
import Derived.Test.YtjpenioloeplgadGreatDoorPk8
import Derived.Test.YtjpenioloeplgadGreatDoorPk6
import Derived.Test.YtjpenioloeplgadGreatDoorPk10
import Derived.Test.YtjpenioloeplgadGreatDoorPk14
import Derived.Test.YtjpenioloeplgadGreatDoorPk12
import Derived.Test.YtjpenioloeplgadGreatDoorPk2
/- Parts of a form in memory, in a row of the call's own; their bytes lie in older memory. -/
namespace Go.Proofs.YtjpenioloeplgadGreatDoor
open Go.RowKit

theorem info_part : (Tryz.prog.info? 27).map (fun i => (i.zero, i.size, i.bytes)) = some (some (.agg #[.string ⟨#[]⟩, .string ⟨#[]⟩, .string ⟨#[]⟩, .slice none 0 0]), 4, 72) := by kernel_rfl
/-- where a part's bytes lie -/
structure PtS where
  bo : Option Addr
  bcap : Nat
def ptC (p : Fm.Pt) (s : PtS) : List Value := [.string p.name, .string p.file, .string p.type, .slice s.bo p.bytes.length s.bcap]
def ptsV (ps : List (Fm.Pt × PtS)) : List Value := ps.flatMap fun p => ptC p.1 p.2
theorem ptsV_append (a b : List (Fm.Pt × PtS)) : ptsV (a ++ b) = ptsV a ++ ptsV b := by simp [ptsV]
theorem ptsV_one (p : Fm.Pt) (s : PtS) : ptsV [(p, s)] = ptC p s := by simp [ptsV]
theorem ptsV_length (ps : List (Fm.Pt × PtS)) : (ptsV ps).length = ps.length * 4 := by
  induction ps with
  | nil => rfl
  | cons p t ih =>
    have e : (ptC p.1 p.2).length = 4 := rfl
    simp only [ptsV, List.flatMap_cons, List.length_append, List.length_cons] at ih ⊢
    rw [ih, e]; omega
theorem ptC_one (p : Fm.Pt) (s : PtS) : ∀ u ∈ ptC p s, u.oneCell' = true := by
  intro u hu
  simp only [ptC, List.mem_cons, List.not_mem_nil, or_false] at hu
  rcases hu with rfl | rfl | rfl | rfl <;> rfl
theorem ptsV_at : ∀ (ps : List (Fm.Pt × PtS)) (i : Nat) (hi : i < ps.length) (j : Nat), j < 4 → (ptsV ps)[i * 4 + j]? = (ptC ps[i].1 ps[i].2)[j]?
  | p :: t, 0, _, j, hj => by
    show (ptC p.1 p.2 ++ ptsV t)[0 * 4 + j]? = _
    rw [List.getElem?_append_left (by rw [show (ptC p.1 p.2).length = 4 from rfl]; omega), Nat.zero_mul, Nat.zero_add]
    rfl
  | p :: t, i + 1, hi, j, hj => by
    show (ptC p.1 p.2 ++ ptsV t)[(i + 1) * 4 + j]? = _
    rw [List.getElem?_append_right (by rw [show (ptC p.1 p.2).length = 4 from rfl]; omega), show (ptC p.1 p.2).length = 4 from rfl, show (i + 1) * 4 + j - 4 = i * 4 + j by omega]
    exact ptsV_at t i (by simpa using hi) j hj
/-- parts that are gathered out of the memory of world w -/
structure PtRel (w : World) (ps : List Fm.Pt) (ao : Option Addr) (cap n : Nat) (wr : World) : Prop where
  own : ∃ qs : List (Fm.Pt × PtS), qs.map (·.1) = ps ∧ OwnV wr w.heap.size 27 4 ao cap n (ptsV qs) ∧ ∀ q ∈ qs, IsB w q.2.bo q.2.bcap q.1.bytes
  len : n = ps.length
  below : Below w.heap.size w wr
theorem PtRel.start (w : World) : PtRel w [] none 0 0 w := ⟨⟨[], rfl, OwnV.nil _ _ _ _, fun q hq => (by cases hq)⟩, rfl, Below.refl _ _⟩
theorem PtRel.stay {w wr w' : World} {ps : List Fm.Pt} {ao : Option Addr} {cap n : Nat} (h : PtRel w ps ao cap n wr) (hb : Below wr.heap.size wr w') : PtRel w ps ao cap n w' := by
  obtain ⟨qs, h1, h2, h3⟩ := h.own
  exact ⟨⟨qs, h1, h2.stay hb, h3⟩, h.len, then_ h.below hb⟩
/-- one part more -/
theorem PtRel.push {w W : World} {ps : List Fm.Pt} {ao : Option Addr} {cap n : Nat} (h : PtRel w ps ao cap n W) : ∃ xs, OwnV W w.heap.size 27 4 ao cap n xs ∧
    ∀ ao' cap' w' (p : Fm.Pt) (s : PtS), IsB w s.bo s.bcap p.bytes → OwnV w' w.heap.size 27 4 ao' cap' (n + 1) (xs ++ ptC p s) → W.grownBy w' (blockOf ao) → PtRel w (ps ++ [p]) ao' cap' (n + 1) w' := by
  obtain ⟨qs, h1, h2, h3⟩ := h.own
  refine ⟨ptsV qs, h2, fun ao' cap' w' p s hB hO hG => ⟨⟨qs ++ [(p, s)], by simp [h1], by rw [ptsV_append, ptsV_one]; exact hO, fun q hq => ?_⟩, by rw [List.length_append, h.len]; rfl, h.below.grown hG h.below.size (fun k e => ?_)⟩⟩
  · rcases List.mem_append.1 hq with hq | hq
    · exact h3 q hq
    · rw [List.mem_singleton.1 hq]; exact hB
  · cases ao with
    | none => cases e
    | some a => injection e with e; subst e; exact (h2.block a rfl).1
/-- bytes for the last part -/
theorem PtRel.bytes {w wr : World} {qs : List Fm.Pt} {p : Fm.Pt} {ao : Option Addr} {cap n : Nat} (h : PtRel w (qs ++ [p]) ao cap (n + 1) wr) : ∃ g, ao = some ⟨g, 0, none⟩ ∧ (∃ v, wr.cell? ⟨g, n * 4 + 3, none⟩ = some v) ∧ wr.frozen? ⟨g, n * 4 + 3, none⟩ = false ∧ n + 1 ≤ cap ∧
    ∀ (l : List UInt8) (bo : Option Addr) (bc m : Nat), IsB w bo bc l → m = l.length → PtRel w (qs ++ [{ p with bytes := l }]) ao cap (n + 1) (wr.setCell ⟨g, n * 4 + 3, none⟩ (.slice bo m bc)) := by
  obtain ⟨rs, h1, h2, h3⟩ := h.own
  have hn : n = qs.length := by have := h.len; rw [List.length_append] at this; simpa using this
  obtain ⟨rs', ps, rfl, hrs, hps⟩ : ∃ rs' ps, rs = rs' ++ [ps] ∧ rs'.map (·.1) = qs ∧ ps.1 = p := by
    rcases List.eq_nil_or_concat rs with rfl | ⟨q, x, rfl⟩
    · have := congrArg List.length h1; simp at this
    · rw [List.concat_eq_append, List.map_append] at h1
      obtain ⟨e1, e2⟩ := List.append_inj' h1 rfl
      exact ⟨q, x, by rw [List.concat_eq_append], e1, by simpa using e2⟩
  obtain ⟨pp, ss⟩ := ps
  have hps : pp = p := hps
  subst hps
  have hl : rs'.length = n := by have := congrArg List.length hrs; rw [List.length_map] at this; omega
  have hv := h2.isV
  have hpos : 0 < (ptsV (rs' ++ [(pp, ss)])).length := by rw [ptsV_length, List.length_append]; simp
  obtain ⟨a, rfl⟩ : ∃ a, ao = some a := by
    cases ao with
    | none => have := h2.isV.2.1 rfl; have := h2.isV.1; omega
    | some a => exact ⟨a, rfl⟩
  obtain ⟨g, rfl⟩ : ∃ g, a = ⟨g, 0, none⟩ := by
    rcases h2.2 with ⟨e, _⟩ | ⟨g, cap', cur, e, _⟩
    · injection e with e; cases e
    · injection e with e; injection e with e; exact ⟨g, e⟩
  have hat : (ptsV (rs' ++ [(pp, ss)]))[n * 4 + 3]? = some (.slice ss.bo pp.bytes.length ss.bcap) := by
    rw [ptsV_at _ n (by rw [List.length_append, hl]; simp) 3 (by omega)]
    simp [← hl, ptC]
  refine ⟨g, rfl, ⟨_, (World.ownsRow.cellAt h2 (n * 4 + 3) (by omega)).trans hat⟩, World.ownsRow.frozenAt h2 _, h2.isV.1, fun l bo bc m hB hm => ?_⟩
  subst hm
  have hS := (World.ownsRow.stored h2 (n * 4 + 3) (.slice bo l.length bc)).1
  have e1 : (ptsV (rs' ++ [(pp, ss)])).set (n * 4 + 3) (.slice bo l.length bc) = ptsV (rs' ++ [({ pp with bytes := l }, ⟨bo, bc⟩)]) := by
    rw [ptsV_append, ptsV_append, ptsV_one, ptsV_one, List.set_append_right _ _ (by rw [ptsV_length, hl]; omega), ptsV_length, hl, show n * 4 + 3 - n * 4 = 3 by omega]
    rfl
  have hS2 : OwnV (wr.setCell ⟨g, n * 4 + 3, none⟩ (.slice bo l.length bc)) w.heap.size 27 4 (some ⟨g, 0, none⟩) cap (n + 1) (ptsV (rs' ++ [({ pp with bytes := l }, ⟨bo, bc⟩)])) := by rw [← e1]; exact hS
  have hb : w.heap.size ≤ (⟨g, n * 4 + 3, none⟩ : Addr).block := (h2.block _ rfl).1
  refine ⟨⟨rs' ++ [({ pp with bytes := l }, ⟨bo, bc⟩)], by simp [hrs], hS2, fun q hq => ?_⟩, by rw [List.length_append, hn]; rfl, h.below.setCell hb _⟩
  rcases List.mem_append.1 hq with hq | hq
  · exact h3 q (List.mem_append_left _ hq)
  · rw [List.mem_singleton.1 hq]; exact hB
end Go.Proofs.YtjpenioloeplgadGreatDoor

/- Parts in a row, as they are read. -/
namespace Go.Proofs.YtjpenioloeplgadGreatDoor
open Go.RowKit

/-- parts in a row, as they are read -/
def IsPts (w : World) (ao : Option Addr) (cap : Nat) (ps : List Fm.Pt) : Prop := ∃ qs : List (Fm.Pt × PtS), qs.map (·.1) = ps ∧ IsV w ao cap ps.length (ptsV qs) ∧ ∀ q ∈ qs, IsB w q.2.bo q.2.bcap q.1.bytes
theorem PtRel.isPts {w wr : World} {ps : List Fm.Pt} {ao : Option Addr} {cap n : Nat} (h : PtRel w ps ao cap n wr) : IsPts wr ao cap ps := by
  obtain ⟨qs, h1, h2, h3⟩ := h.own
  refine ⟨qs, h1, ?_, fun q hq => (h3 q hq).stay h.below⟩
  rw [← h.len]; exact h2.isV
theorem IsPts.stay {w w' : World} {ao : Option Addr} {cap : Nat} {ps : List Fm.Pt} (h : IsPts w ao cap ps) (hb : Below w.heap.size w w') : IsPts w' ao cap ps := by
  obtain ⟨qs, h1, h2, h3⟩ := h
  exact ⟨qs, h1, h2.stay hb, fun q hq => (h3 q hq).stay hb⟩
theorem IsPts.nil (w : World) : IsPts w none 0 [] := ⟨[], rfl, IsV.nil w, fun q hq => by cases hq⟩
/-- a part's cells -/
theorem IsPts.at_ {w : World} {ao : Option Addr} {cap : Nat} {ps : List Fm.Pt} (h : IsPts w ao cap ps) (k : Nat) (hk : k < ps.length) : ∃ (b o : Nat) (s : PtS), ao = some ⟨b, o, none⟩ ∧ w.cell? ⟨b, o + k * 4, none⟩ = some (.string ps[k].name) ∧ w.cell? ⟨b, o + k * 4 + 1, none⟩ = some (.string ps[k].file) ∧ w.cell? ⟨b, o + k * 4 + 2, none⟩ = some (.string ps[k].type) ∧ w.cell? ⟨b, o + k * 4 + 3, none⟩ = some (.slice s.bo ps[k].bytes.length s.bcap) ∧ IsB w s.bo s.bcap ps[k].bytes := by
  obtain ⟨qs, rfl, hv, hb⟩ := h
  have hk' : k < qs.length := by simpa using hk
  obtain ⟨b, o, rfl, hc⟩ := hv.lit (by rw [ptsV_length]; omega)
  have hq := hb _ (List.getElem_mem hk')
  have e0 := ptsV_at qs k hk' 0 (by decide)
  have e1 := ptsV_at qs k hk' 1 (by decide)
  have e2 := ptsV_at qs k hk' 2 (by decide)
  have e3 := ptsV_at qs k hk' 3 (by decide)
  refine ⟨b, o, qs[k].2, rfl, ?_, ?_, ?_, ?_, ?_⟩
  · rw [List.getElem_map]; exact hc _ _ (by rw [Nat.add_zero] at e0; exact e0)
  · rw [List.getElem_map, Nat.add_assoc]; exact hc _ _ e1
  · rw [List.getElem_map, Nat.add_assoc]; exact hc _ _ e2
  · rw [List.getElem_map, Nat.add_assoc]; exact hc _ _ e3
  · rw [List.getElem_map]; exact hq

end Go.Proofs.YtjpenioloeplgadGreatDoor

/- Package forms, walked: Safe. -/
namespace Go.Proofs.YtjpenioloeplgadGreatDoor
open Go.RowKit

/-- a byte of them is stored -/
theorem Buf.set {w : World} {base g cap : Nat} {l : List UInt8} (h : Buf w base g cap l) (j : Nat) (c : UInt8) : Buf (w.setCell ⟨g, j, none⟩ (.int .u8 (c.toNat : Int))) base g cap (l.set j c) ∧ Turns (fun k => k = g) w (w.setCell ⟨g, j, none⟩ (.int .u8 (c.toNat : Int))) := by
  refine ⟨⟨h.base_, by simpa using h.lt, by rw [List.length_set]; exact h.le, h.max, fun i u hu => ?_, fun i hi => ?_⟩, Turns.setCell (fun k => k = g) w ⟨g, j, none⟩ _ rfl⟩
  · have hil : i < l.length := by
      have := (List.getElem?_eq_some_iff.1 hu).1
      rwa [byteV_length, List.length_set] at this
    rw [byteV_at _ i (by rw [List.length_set]; exact hil)] at hu
    by_cases e : i = j
    · subst e
      have hs := h.holds i _ (byteV_at l i hil)
      rw [World.cell?_setCell_same w _ _ hs, ← hu, List.getElem_set_self]
    · rw [World.cell?_setCell_other (h := by intro e2; injection e2 with _ e2; exact e e2.symm), ← hu]
      rw [List.getElem_set_ne (fun e2 => e e2.symm)]
      exact h.holds i _ (byteV_at l i hil)
  · obtain ⟨h1, h2⟩ := h.there i hi
    refine ⟨?_, by rw [World.frozen?_setCell]; exact h2⟩
    by_cases e : i = j
    · subst e
      obtain ⟨v, hv⟩ := Option.isSome_iff_exists.1 h1
      rw [World.cell?_setCell_same w _ _ hv]; rfl
    · rw [World.cell?_setCell_other (h := by intro e2; injection e2 with _ e2; exact e e2.symm)]
      exact h1
/-- what stands behind the last stroke -/
theorem last_tail {l : List UInt8} {a b : Int} (ha : LastIs 47 l a) (hb : LastIs 92 l b) : -1 ≤ max a b ∧ max a b < l.length ∧ l.drop (max a b + 1).toNat = Fm.tail l := by
  have hs : ∀ c : UInt8, Fm.stroke c = false ↔ c ≠ 47 ∧ c ≠ 92 := fun c => by
    unfold Fm.stroke
    rw [Bool.or_eq_false_iff, beq_eq_false_iff_ne, beq_eq_false_iff_ne]
  have ht : ∀ c : UInt8, (c = 47 ∨ c = 92) → Fm.stroke c = true := fun c h => by
    unfold Fm.stroke
    rw [Bool.or_eq_true, beq_iff_eq, beq_iff_eq]; exact h
  rcases ha with ⟨ha, na⟩ | ⟨i, hi, ha, ca, na⟩
  · rcases hb with ⟨hb, nb⟩ | ⟨k, hk, hb, cb, nb⟩
    · have e : max a b = -1 := by omega
      rw [e]
      exact ⟨by omega, by omega, (Fm.tail_at (p := 0) (Nat.zero_le _) (fun j hj _ => (hs _).2 ⟨na j hj, nb j hj⟩) (Or.inl rfl)).symm⟩
    · have e : max a b = k := by omega
      rw [e]
      refine ⟨by omega, by omega, ?_⟩
      rw [show ((k : Int) + 1).toNat = k + 1 by omega]
      exact (Fm.tail_at (p := k + 1) hk (fun j hj h => (hs _).2 ⟨na j hj, nb j hj h⟩) (Or.inr ⟨by simpa using hk, by omega, ht _ (Or.inr (by simpa using cb))⟩)).symm
  · rcases hb with ⟨hb, nb⟩ | ⟨k, hk, hb, cb, nb⟩
    · have e : max a b = i := by omega
      rw [e]
      refine ⟨by omega, by omega, ?_⟩
      rw [show ((i : Int) + 1).toNat = i + 1 by omega]
      exact (Fm.tail_at (p := i + 1) hi (fun j hj h => (hs _).2 ⟨na j hj h, nb j hj⟩) (Or.inr ⟨by simpa using hi, by omega, ht _ (Or.inl (by simpa using ca))⟩)).symm
    · rcases Nat.lt_or_ge i k with h | h
      · have e : max a b = k := by omega
        rw [e]
        refine ⟨by omega, by omega, ?_⟩
        rw [show ((k : Int) + 1).toNat = k + 1 by omega]
        exact (Fm.tail_at (p := k + 1) hk (fun j hj h2 => (hs _).2 ⟨na j hj (by omega), nb j hj h2⟩) (Or.inr ⟨by simpa using hk, by omega, ht _ (Or.inr (by simpa using cb))⟩)).symm
      · have e : max a b = i := by omega
        rw [e]
        refine ⟨by omega, by omega, ?_⟩
        rw [show ((i : Int) + 1).toNat = i + 1 by omega]
        exact (Fm.tail_at (p := i + 1) hi (fun j hj h2 => (hs _).2 ⟨na j hj h2, nb j hj (by omega)⟩) (Or.inr ⟨by simpa using hi, by omega, ht _ (Or.inl (by simpa using ca))⟩)).symm
end Go.Proofs.YtjpenioloeplgadGreatDoor

/- Package params, walked: appendValue. -/
namespace Go.Proofs.YtjpenioloeplgadGreatDoor
open Go.RowKit

/-- a value's text -/
def Pm.valT (v : List UInt8) : List UInt8 := if Ch.isToken v then v else [34] ++ Pm.esc v ++ [34]
/-- what appendValue answers -/
def ApOut (base : Nat) (l : List UInt8) (w : World) (e : Ending) (w' : World) : Prop :=
  ∃ g cap, e = .returned (.slice (some ⟨g, 0, none⟩) l.length cap) ∧ Buf w' base g cap l ∧ Turns (fun k => base ≤ k) w w'
theorem Buf.up {w w' : World} {base g : Nat} (h : base ≤ g) (ht : Turns (fun k => k = g) w w') : Turns (fun k => base ≤ k) w w' := ht.mono (fun k e => by omega)
theorem turns_alloc (S : Nat → Prop) (w : World) (o : Obj) : Turns S w (w.alloc o) := Turns.of_below ((Below.refl _ _).alloc (Nat.le_refl _) _)

set_option maxHeartbeats 1600000 in
theorem appendValue_any (v : ByteArray) (base g cap n : Nat) (l : List UInt8) (w : World) (h : Buf w base g cap l) (hn : l.length = n) (hl : n ≤ 1000000) (hv : v.size ≤ 9000) :
    Calls Tryz.prog 91 #[.slice (some ⟨g, 0, none⟩) n cap, .string v] w fun e w' => ApOut base (l ++ Pm.valT v.data.toList) w e w' := by
  have HT := Hid.mk' (isToken_any v w (by unfold maxLen; omega))
  have H := Hid.mk' h
  obtain ⟨i0, hi0, hz0, hz1, hz2⟩ := info_parts info_u8
  have Hi := Hid.mk' hi0; have Hz0 := Hid.mk' hz0; have Hz1 := Hid.mk' hz1; have Hz2 := Hid.mk' hz2
  clear h hi0 hz0 hz1 hz2
  have HN := Hid.mk' hn
  clear hn
  cases ht : Ch.isToken v.data.toList
  · rw [ht] at HT
    have HV : Hid (Pm.valT v.data.toList = [34] ++ Pm.esc v.data.toList ++ [34]) := by unfold Hid Pm.valT; rw [ht]; rfl
    clear ht
    go_enter Tryz.func91, Tryz.ntmps91
    go_wp2_with fail
    refine HT.out.mono ?_
    rintro e w1 ⟨rfl, hw⟩
    subst hw
    go_wp2_with (at_builtin; refine wpList_append_buf rfl (.tmp 12) (.tmp 13) 25 25 rfl 5 i0 Tryz.underlying25 Hi.out Hz0.out Hz1.out Hz2.out (l2 := [34]) rfl (H.out.alloc _) HN.out _ 1 rfl (src_one Tryz.underlying25 _ 34 _ _ (by simp)) (by omega) ?_; intro g1 cap1 w2 hB1 hT1; have HB1 := Hid.mk' hB1; have HT1 : Hid (Turns (fun k => base ≤ k) w1 w2) := (turns_alloc _ _ _).trans (Buf.up H.out.base_ hT1) (fun _ h _ => h); clear hB1 hT1)
    go_loopw [0, 17] (fun b t wr => ∃ (k g' cap' m : Nat), k ≤ v.size ∧ t = .int .i64 k ∧ b = .slice (some ⟨g', 0, none⟩) m cap' ∧ m = (l ++ [34] ++ Pm.esc (v.data.toList.take k)).length ∧ Buf wr base g' cap' (l ++ [34] ++ Pm.esc (v.data.toList.take k)) ∧ Turns (fun k => base ≤ k) w1 wr) (fun _ t _ => v.size - (intOf t).toNat)
    case atStart => exact ⟨0, g1, cap1, n + 1, Nat.zero_le _, rfl, rfl, by have := HN.out; simp [Pm.esc]; omega, by simpa [Pm.esc] using HB1.out, HT1.out⟩
    case round =>
      clear HB1 HT1
      obtain ⟨k, g2, cap2, m, hk, rfl, rfl, hm, hB, hT⟩ := hrel
      have HB := Hid.mk' hB
      have HTr := Hid.mk' hT
      have HM := Hid.mk' hm.symm
      have hml : m ≤ 1018001 := by
        have := Pm.esc_length (v.data.toList.take k)
        have h2 := List.length_take_le k v.data.toList
        have h3 := HN.out
        rw [hm]; simp; omega
      clear hB hT hm
      by_cases hlt : k < v.size
      · have HS : Hid (Pm.esc (v.data.toList.take (k + 1)) = Pm.esc (v.data.toList.take k) ++ Pm.escB v[k]) := by
          unfold Hid; rw [Ch.take_snoc v k hlt, Pm.esc_snoc]
        by_cases hq : v[k] = 34 ∨ v[k] = 92
        · have HE : Hid (Pm.escB v[k] = [92, v[k]]) := by unfold Hid Pm.escB; rw [if_pos hq]
          by_cases h34 : v[k] = 34
          · have b1 : ((v[k].toNat : Int) == 34) = true := by rw [h34]; rfl
            have n1 : (v[k].toNat : Int) = 34 := beq_iff_eq.1 b1
            have HC := Hid.mk' h34
            clear hq h34 b1
            go_wp2_with (first | (at_builtin; refine wpList_append_buf rfl (.tmp 29) (.tmp 30) 25 25 rfl 5 i0 Tryz.underlying25 Hi.out Hz0.out Hz1.out Hz2.out (l2 := [92]) rfl (HB.out.alloc _) HM.out _ 1 rfl (src_one Tryz.underlying25 _ 92 _ _ (by simp)) (by omega) ?_; intro g3 cap3 w3 hB3 hT3; have HB3 := Hid.mk' hB3; have HT3 := Hid.mk' (HTr.out.trans ((turns_alloc (fun k => base ≤ k) _ _).trans (Buf.up HB.out.base_ hT3) (fun _ h _ => h)) (fun _ h _ => h)); clear hB3 hT3) | (at_builtin; refine wpList_append_buf rfl (.tmp 32) (.tmp 36) 25 25 rfl 5 i0 Tryz.underlying25 Hi.out Hz0.out Hz1.out Hz2.out (l2 := [34]) rfl (HB3.out.alloc _) (by rw [List.length_append, HM.out]; rfl) _ 1 rfl (src_one Tryz.underlying25 _ 34 _ _ (by simp)) (by omega) ?_; intro g4 cap4 w4 hB4 hT4; have HB4 := Hid.mk' hB4; have HT4 := Hid.mk' (HT3.out.trans ((turns_alloc (fun k => base ≤ k) _ _).trans (Buf.up HB3.out.base_ hT4) (fun _ h _ => h)) (fun _ h _ => h)); clear hB4 hT4))
            go_roundw
            case rel =>
              have e : l ++ [34] ++ Pm.esc (v.data.toList.take k) ++ [92] ++ [34] = l ++ [34] ++ Pm.esc (v.data.toList.take (k + 1)) := by
                rw [HS.out, HE.out, HC.out]; simp
              refine ⟨k + 1, g4, cap4, m + 1 + 1, by omega, by go_num, rfl, ?_, by rw [← e]; exact HB4.out, HT4.out⟩
              rw [← e, List.length_append, List.length_append, HM.out]; rfl
            case measure => simp [intOf]; omega
          · have h92 := hq.resolve_left h34
            have b1 : ((v[k].toNat : Int) == 34) = false := byte_ne' h34
            have b2 : ((v[k].toNat : Int) == 92) = true := by rw [h92]; rfl
            have n1 : ¬ (v[k].toNat : Int) = 34 := beq_eq_false_iff_ne.1 b1
            have n2 : (v[k].toNat : Int) = 92 := beq_iff_eq.1 b2
            have HC := Hid.mk' h92
            clear hq h34 h92 b2
            go_wp2_with (first | (at_builtin; refine wpList_append_buf rfl (.tmp 29) (.tmp 30) 25 25 rfl 5 i0 Tryz.underlying25 Hi.out Hz0.out Hz1.out Hz2.out (l2 := [92]) rfl (HB.out.alloc _) HM.out _ 1 rfl (src_one Tryz.underlying25 _ 92 _ _ (by simp)) (by omega) ?_; intro g3 cap3 w3 hB3 hT3; have HB3 := Hid.mk' hB3; have HT3 := Hid.mk' (HTr.out.trans ((turns_alloc (fun k => base ≤ k) _ _).trans (Buf.up HB.out.base_ hT3) (fun _ h _ => h)) (fun _ h _ => h)); clear hB3 hT3) | (at_builtin; refine wpList_append_buf rfl (.tmp 32) (.tmp 36) 25 25 rfl 5 i0 Tryz.underlying25 Hi.out Hz0.out Hz1.out Hz2.out (l2 := [92]) rfl (HB3.out.alloc _) (by rw [List.length_append, HM.out]; rfl) _ 1 rfl (src_one Tryz.underlying25 _ 92 _ _ (by simp)) (by omega) ?_; intro g4 cap4 w4 hB4 hT4; have HB4 := Hid.mk' hB4; have HT4 := Hid.mk' (HT3.out.trans ((turns_alloc (fun k => base ≤ k) _ _).trans (Buf.up HB3.out.base_ hT4) (fun _ h _ => h)) (fun _ h _ => h)); clear hB4 hT4))
            go_roundw
            case rel =>
              have e : l ++ [34] ++ Pm.esc (v.data.toList.take k) ++ [92] ++ [92] = l ++ [34] ++ Pm.esc (v.data.toList.take (k + 1)) := by
                rw [HS.out, HE.out, HC.out]; simp
              refine ⟨k + 1, g4, cap4, m + 1 + 1, by omega, by go_num, rfl, ?_, by rw [← e]; exact HB4.out, HT4.out⟩
              rw [← e, List.length_append, List.length_append, HM.out]; rfl
            case measure => simp [intOf]; omega
        · have HE : Hid (Pm.escB v[k] = [v[k]]) := by unfold Hid Pm.escB; rw [if_neg hq]
          have b1 : ((v[k].toNat : Int) == 34) = false := byte_ne' (fun e => hq (Or.inl e))
          have b2 : ((v[k].toNat : Int) == 92) = false := byte_ne' (fun e => hq (Or.inr e))
          have n1 : ¬ (v[k].toNat : Int) = 34 := beq_eq_false_iff_ne.1 b1
          have n2 : ¬ (v[k].toNat : Int) = 92 := beq_eq_false_iff_ne.1 b2
          clear hq
          go_wp2_with (at_builtin; refine wpList_append_buf rfl (.tmp 32) (.tmp 36) 25 25 rfl 5 i0 Tryz.underlying25 Hi.out Hz0.out Hz1.out Hz2.out (l2 := [v[k]]) rfl (HB.out.alloc _) HM.out _ 1 rfl (src_one Tryz.underlying25 _ v[k] _ _ (by simp)) (by omega) ?_; intro g4 cap4 w4 hB4 hT4; have HB4 := Hid.mk' hB4; have HT4 := Hid.mk' (HTr.out.trans ((turns_alloc (fun k => base ≤ k) _ _).trans (Buf.up HB.out.base_ hT4) (fun _ h _ => h)) (fun _ h _ => h)); clear hB4 hT4)
          go_roundw
          case rel =>
            have e : l ++ [34] ++ Pm.esc (v.data.toList.take k) ++ [v[k]] = l ++ [34] ++ Pm.esc (v.data.toList.take (k + 1)) := by
              rw [HS.out, HE.out]; simp
            refine ⟨k + 1, g4, cap4, m + 1, by omega, by go_num, rfl, ?_, by rw [← e]; exact HB4.out, HT4.out⟩
            rw [← e, List.length_append, HM.out]; rfl
          case measure => simp [intOf]; omega
      · obtain rfl : k = v.size := by omega
        go_wp2_with (at_builtin; refine wpList_append_buf rfl (.tmp 39) (.tmp 40) 25 25 rfl 5 i0 Tryz.underlying25 Hi.out Hz0.out Hz1.out Hz2.out (l2 := [34]) rfl (HB.out.alloc _) HM.out _ 1 rfl (src_one Tryz.underlying25 _ 34 _ _ (by simp)) (by omega) ?_; intro g4 cap4 w4 hB4 hT4; have HB4 := Hid.mk' hB4; have HT4 := Hid.mk' (HTr.out.trans ((turns_alloc (fun k => base ≤ k) _ _).trans (Buf.up HB.out.base_ hT4) (fun _ h _ => h)) (fun _ h _ => h)); clear hB4 hT4)
        go_ret
        have e : l ++ [34] ++ Pm.esc (v.data.toList.take v.size) ++ [34] = l ++ Pm.valT v.data.toList := by
          rw [HV.out, Ch.take_all v _ (Nat.le_refl _)]; simp
        have hm := HM.out
        refine ⟨g4, cap4, ?_, by rw [← e]; exact HB4.out, HT4.out⟩
        rw [← e, List.length_append, hm]; rfl
  · rw [ht] at HT
    have HV : Hid (Pm.valT v.data.toList = v.data.toList) := by unfold Hid Pm.valT; rw [ht]; rfl
    clear ht
    go_enter Tryz.func91, Tryz.ntmps91
    go_wp2_with fail
    refine HT.out.mono ?_
    rintro e w1 ⟨rfl, hw⟩
    subst hw
    go_wp2_with (at_builtin; refine wpList_append_buf rfl (.tmp 9) (.tmp 10) 25 9 rfl 5 i0 Tryz.underlying25 Hi.out Hz0.out Hz1.out Hz2.out (l2 := v.data.toList) rfl H.out HN.out _ v.size rfl (src_text Tryz.underlying9 v _) (by omega) ?_; intro g1 cap1 w2 hB1 hT1; have HB1 := Hid.mk' hB1; have HT1 := Hid.mk' (Buf.up H.out.base_ hT1); clear hB1 hT1)
    go_ret
    refine ⟨g1, cap1, ?_, by rw [HV.out]; exact HB1.out, HT1.out⟩
    rw [HV.out, List.length_append, HN.out, Ch.len_list]; rfl
end Go.Proofs.YtjpenioloeplgadGreatDoor
