/- Small texts, one behind the other: SqH, StB, SpN, SqI, SqJ, StC, StD, StG, StH, StE, StF. -/
import Derived.Test.YtdclmpdjjkjfjaaGreatDoorPk20
import Derived.Test.YtdclmpdjjkjfjaaGreatDoorPk14
import Derived.Test.YtdclmpdjjkjfjaaGreatDoorPk22
import Derived.Deep.AppendLies
import Derived.Deep.DeepCutAuto
import Derived.Test.YtdclmpdjjkjfjaaGreatDoorPk6
import Derived.Test.YtdclmpdjjkjfjaaGreatDoorPk17
import Derived.Test.YtdclmpdjjkjfjaaGreatDoorPk11
import Derived.Test.YtdclmpdjjkjfjaaGreatDoorPk9
import Derived.Laws.OwnMore
import Derived.Test.YtdclmpdjjkjfjaaGreatDoorPk19
import Derived.Test.YtdclmpdjjkjfjaaGreatDoorJrD
import Derived.Deep.RegionHeld3
import Derived.Test.YtdclmpdjjkjfjaaGreatDoorPk18
/- Package spool, walked: Create. -/
namespace Go.Proofs.YtdclmpdjjkjfjaaGreatDoor
open Go.RowKit

theorem text_same (a b : ByteArray) : (a.toList == b.toList) = decide (a.data.toList = b.data.toList) := by
  rw [Lib.toList_data, Lib.toList_data, Bool.eq_iff_iff]; simp
theorem SpAt.last_ {w : World} {S : Nat → Prop} {tO tU tB g : Nat} {s : Sp.St} (h : SpAt w S tO tU tB g s) (v : Int) : SpAt (w.setCell ⟨g, 1, none⟩ (.int .i64 v)) S tO tU tB g ⟨s.l, v⟩ ∧ Turns (fun k => k = g) w (w.setCell ⟨g, 1, none⟩ (.int .i64 v)) := by
  obtain ⟨ao, cap, h1, h2, h3⟩ := h
  have hT : Turns (fun k => k = g) w (w.setCell ⟨g, 1, none⟩ (.int .i64 v)) := Turns.setCell (fun k => k = g) w _ _ rfl
  exact ⟨⟨ao, cap, heap_setCell_same w g 1 _ tO _ h1, h2, h3.turns hT (fun k e e2 => e.2 e2)⟩, hT⟩
theorem nextU_any (s : Sp.St) (S : Nat → Prop) (g : Nat) (w : World) (h : SpoolAt w S g s) (h0 : 0 ≤ s.last) (h1 : s.last ≤ 1000000) :
    Calls Tryz.prog 18 #[.pointer (some ⟨g, 0, none⟩)] w fun e w' => e = .returned (.int .i64 (s.last + 1)) ∧ w' = w := by
  obtain ⟨ao, cap, c0, c1, f0, f1, hg, hS, hU⟩ := h.cells
  clear hU hg hS c0 f0 f1 h
  generalize s.last = t at *
  go_enter Tryz.func18, Tryz.ntmps18
  go_wp2
  go_ret
  exact ⟨rfl, rfl⟩
/-- what Create answered, and what became of the object -/
structure Made (S : Nat → Prop) (tO : Nat) (w : World) (g : Nat) (r : Sp.St × Int × Nat) (e : Ending) (w' : World) : Prop where
  ret : e = .returned (.tuple #[.int .i64 r.2.1, .int .i64 (r.2.2 : Int)])
  at_ : SpAt w' (orNew S w) tO 67 5 g r.1
  turns : Turns S w w'
theorem Made.none_ {w w' : World} {S : Nat → Prop} {tO g : Nat} {s : Sp.St} {c : Nat} (h : SpAt w S tO 67 5 g s) (hb : Below w.heap.size w w') {r : Sp.St × Int × Nat} (hr : r = (s, 0, c)) : Made S tO w g r (.returned (.tuple #[.int .i64 0, .int .i64 (c : Int)])) w' := by
  subst hr
  exact ⟨rfl, (h.stay hb).mono (fun k _ e => Or.inl e), Turns.of_below hb⟩
set_option maxRecDepth 100000 in
set_option maxHeartbeats 2000000 in
theorem createU_any (s : Sp.St) (S : Nat → Prop) (g : Nat) (sz : Int) (m : ByteArray) (w : World) (h : SpoolAt w S g s) (ok : Sp.Ok s) (hl : s.last ≤ 1000000) (hm : m.size ≤ 1000000) :
    Calls Tryz.prog 99 #[.pointer (some ⟨g, 0, none⟩), .int .i64 sz, .string m] w (Made S 88 w g (Sp.create s sz m)) := by
  have hN := ok.few
  have hl0 := ok.last0
  obtain ⟨ao, cap, c0, c1, f0, f1, hg, hS, hU⟩ := h.cells
  have hcap := hU.cap_
  by_cases h1 : sz < -1
  · have HR : Hid (Made S 88 w g (Sp.create s sz m) (.returned (.tuple #[.int .i64 0, .int .i64 (1 : Nat)])) w) := Made.none_ h (Below.refl _ _) (by unfold Sp.create; rw [if_pos h1])
    clear h ok hU hg c0 c1
    go_enter Tryz.func99, Tryz.ntmps99
    go_wp2
    go_ret2
    exact HR.out
  · have n1 : decide (sz < -1) = false := by rw [decide_eq_false_iff_not]; exact h1
    by_cases h2 : 2000 < sz
    · have HR : Hid (Made S 88 w g (Sp.create s sz m) (.returned (.tuple #[.int .i64 0, .int .i64 (4 : Nat)])) w) := Made.none_ h (Below.refl _ _) (by unfold Sp.create; rw [if_neg h1, if_pos (Or.inl h2)])
      have n2 : decide (sz > 2000) = true := by rw [decide_eq_true_eq]; exact h2
      clear h ok hU hg c0 c1
      go_enter Tryz.func99, Tryz.ntmps99
      go_wp2
      go_ret2
      exact HR.out
    · have n2 : decide (sz > 2000) = false := by rw [decide_eq_false_iff_not]; exact h2
      by_cases h3 : 100 < m.size
      · have HR : Hid (Made S 88 w g (Sp.create s sz m) (.returned (.tuple #[.int .i64 0, .int .i64 (4 : Nat)])) w) := Made.none_ h (Below.refl _ _) (by unfold Sp.create; rw [if_neg h1, if_pos (Or.inr h3)])
        have n3 : decide ((m.size : Int) > 100) = true := by rw [decide_eq_true_eq]; omega
        clear h ok hU hg c0 c1
        go_enter Tryz.func99, Tryz.ntmps99
        go_wp2
        go_ret2
        exact HR.out
      · have n3 : decide ((m.size : Int) > 100) = false := by rw [decide_eq_false_iff_not]; omega
        have e2 : ¬ (2000 < sz ∨ 100 < m.size) := by omega
        have HV := Hid.mk' (isVisible_any m w (by unfold maxLen; omega))
        cases hv : Ch.isVisible m.data.toList with
        | false =>
          rw [hv] at HV
          have HR : Hid (Made S 88 w g (Sp.create s sz m) (.returned (.tuple #[.int .i64 0, .int .i64 (3 : Nat)])) w) := Made.none_ h (Below.refl _ _) (by unfold Sp.create; rw [if_neg h1, if_neg e2, if_pos (Or.inl hv)])
          clear h ok hU hg c0 c1 hv
          go_enter Tryz.func99, Tryz.ntmps99
          go_wp2_with (go_at_call 130; refine HV.out.mono ?_; rintro e w1 ⟨rfl, rfl⟩)
          go_ret2
          exact HR.out
        | true =>
          rw [hv] at HV
          have HTr := Hid.mk' (trim_any m w (by omega))
          have hts := text_same ⟨(Lib.trimS m.data.toList Ch.ws).toArray⟩ m
          obtain ⟨T, hT⟩ : ∃ T : ByteArray, T = ⟨(Lib.trimS m.data.toList Ch.ws).toArray⟩ := ⟨_, rfl⟩
          have hTd : T.data.toList = Lib.trimS m.data.toList Ch.ws := by rw [hT]
          rw [← hT] at HTr hts
          rw [hTd] at hts
          by_cases h4 : Lib.trimS m.data.toList Ch.ws = m.data.toList
          · rw [decide_eq_true h4] at hts
            have e3 : ¬ (Ch.isVisible m.data.toList = false ∨ Lib.trimS m.data.toList Ch.ws ≠ m.data.toList) := by rw [hv]; simpa using h4
            by_cases h5 : 12 ≤ s.l.length
            · have HR : Hid (∀ W, Below w.heap.size w W → W.cell? ⟨g, 0, none⟩ = some (.slice ao s.l.length cap) ∧ Made S 88 w g (Sp.create s sz m) (.returned (.tuple #[.int .i64 0, .int .i64 (8 : Nat)])) W) := fun W hW => ⟨by rw [hW.cell (p := ⟨g, 0, none⟩) h.lt]; exact c0, Made.none_ h hW (by unfold Sp.create; rw [if_neg h1, if_neg e2, if_neg e3, if_pos h5])⟩
              have n5 : decide ((s.l.length : Int) ≥ 12) = true := by rw [decide_eq_true_eq]; omega
              clear h ok hU hg c0 c1 hT hTd h4 hv e3
              go_enter Tryz.func99, Tryz.ntmps99
              go_wp2_with (first | (go_at_call 130; refine HV.out.mono ?_; rintro e w1 ⟨rfl, rfl⟩) | (go_at_call 131; refine HTr.out.mono ?_; rintro e w1 ⟨rfl, hb⟩; obtain ⟨d0, hd⟩ := HR.out w1 hb; have HD := Hid.mk' hd; clear hd hb))
              go_ret2
              exact HD.out
            · have n5 : decide ((s.l.length : Int) ≥ 12) = false := by rw [decide_eq_false_iff_not]; omega
              have HCr : Hid (Sp.create s sz m = (⟨s.l ++ [⟨s.last + 1, sz, m, [], 0⟩], s.last + 1⟩, s.last + 1, 0)) := by unfold Sp.create; rw [if_neg h1, if_neg e2, if_neg e3, if_neg h5]; exact rfl
              have HA := Hid.mk' h
              have HNx : Hid (∀ W, Below w.heap.size w W → Calls Tryz.prog 18 #[.pointer (some ⟨g, 0, none⟩)] W fun e w' => e = .returned (.int .i64 (s.last + 1)) ∧ w' = W) := fun W hW => nextU_any s S g W (h.stay hW) hl0 hl
              have HCl := Hid.mk' (fun W => sclone_any m W hm)
              have HC : Hid (∀ W, Below w.heap.size w W → W.cell? ⟨g, 0, none⟩ = some (.slice ao s.l.length cap) ∧ W.cell? ⟨g, 1, none⟩ = some (.int .i64 s.last) ∧ W.frozen? ⟨g, 1, none⟩ = false) := fun W hW => ⟨by rw [hW.cell (p := ⟨g, 0, none⟩) h.lt]; exact c0, by rw [hW.cell (p := ⟨g, 1, none⟩) h.lt]; exact c1, by rw [hW.frozen (p := ⟨g, 1, none⟩) h.lt]; exact f1⟩
              clear h ok hU hg c0 c1 f0 f1 hS hT hTd h4 hv e3
              go_enter Tryz.func99, Tryz.ntmps99
              go_wp2_with (first | (go_at_call 130; refine HV.out.mono ?_; rintro e w1 ⟨rfl, hw⟩; rw [hw]; clear hw) | (go_at_call 131; refine HTr.out.mono ?_; rintro e w1 ⟨rfl, hb⟩; obtain ⟨d0, d1, d2⟩ := HC.out w1 hb; have HB := Hid.mk' hb; clear hb) | (go_at_call 18; refine (HNx.out _ HB.out).mono ?_; rintro e wn ⟨rfl, hw⟩; rw [hw]; clear hw))
              obtain ⟨hs2, ht2⟩ := (HA.out.stay HB.out).last_ (s.last + 1)
              have hT2 : Turns S w (w1.setCell ⟨g, 1, none⟩ (.int .i64 (s.last + 1))) := (Turns.of_below HB.out).trans (ht2.mono (fun k e => by subst e; exact HA.out.cells.choose_spec.choose_spec.2.2.2.2.2.1)) (fun _ e _ => e)
              generalize hw3 : w1.setCell ⟨g, 1, none⟩ (.int .i64 (s.last + 1)) = w3 at *
              clear hw3 ht2 d0 d1 d2 HC HNx HB HTr HV
              obtain ⟨ao3, cap3, c0, c1, f0, f1, hg3, hS3, hU3⟩ := hs2.cells
              have HA3 := Hid.mk' hs2
              have hlt := hs2.lt
              have HT3 := Hid.mk' hT2
              have HG3 := Hid.mk' hg3; have HU3 := Hid.mk' hU3
              clear hs2 hT2 hg3 hU3 HA
              simp only at c0 c1
              have HClA : Hid (Calls Tryz.prog 95 #[.string m] (w3.alloc (.cells #[.int .i64 0, .int .i64 0, .string ⟨#[]⟩, .slice none 0 0, .int .i64 0] 67)).drew fun e w4 => e = .returned (.string m) ∧ Below w3.heap.size w3 w4 ∧ w4.heap[w3.heap.size]? = some (.cells #[.int .i64 0, .int .i64 0, .string ⟨#[]⟩, .slice none 0 0, .int .i64 0] 67 (0, 0))) := (HCl.out _).mono fun e w4 ⟨he, hb4⟩ => by
                refine ⟨he, (((Below.refl _ w3).alloc (Nat.le_refl _) _).trans (below_drew _ _)).trans (hb4.mono (by show w3.heap.size ≤ (w3.alloc _).heap.size; rw [World.size_alloc]; omega)), ?_⟩
                rw [hb4.block w3.heap.size (by show w3.heap.size < (w3.alloc _).heap.size; rw [World.size_alloc]; omega)]
                exact heap_alloc_new w3 _
              have HClB : Hid (Calls Tryz.prog 95 #[.string m] w3.drew fun e w4 => e = .returned (.string m) ∧ Below w3.heap.size w3 w4) := (HCl.out _).mono fun e w4 ⟨he, hb4⟩ => ⟨he, (below_drew _ _).trans hb4⟩
              have hne3 : ¬ w3.heap.size = g := by omega
              have hne3' : ¬ g = w3.heap.size := by omega
              clear HCl
              have HMt : Hid (∀ w4, Below w3.heap.size w3 w4 → w4.heap[w3.heap.size]? = some (.cells #[.int .i64 0, .int .i64 0, .string ⟨#[]⟩, .slice none 0 0, .int .i64 0] 67 (0, 0)) → Below w3.heap.size w3 (((((w4.setCell ⟨w3.heap.size, 0, none⟩ (.int .i64 (s.last + 1))).setCell ⟨w3.heap.size, 1, none⟩ (.int .i64 sz)).setCell ⟨w3.heap.size, 2, none⟩ (.string m)).setCell ⟨w3.heap.size, 3, none⟩ (.slice none 0 0)).setCell ⟨w3.heap.size, 4, none⟩ (.int .i64 0)) ∧ (((((w4.setCell ⟨w3.heap.size, 0, none⟩ (.int .i64 (s.last + 1))).setCell ⟨w3.heap.size, 1, none⟩ (.int .i64 sz)).setCell ⟨w3.heap.size, 2, none⟩ (.string m)).setCell ⟨w3.heap.size, 3, none⟩ (.slice none 0 0)).setCell ⟨w3.heap.size, 4, none⟩ (.int .i64 0)).heap[w3.heap.size]? = some (.cells #[.int .i64 (s.last + 1), .int .i64 sz, .string m, .slice none 0 0, .int .i64 0] 67 (0, 0))) := fun w4 hb hr => by
                refine ⟨((((hb.setCell (Nat.le_refl _) _).setCell (Nat.le_refl _) _).setCell (Nat.le_refl _) _).setCell (Nat.le_refl _) _).setCell (Nat.le_refl _) _, ?_⟩
                exact heap_setCell_same _ _ 4 _ _ _ (heap_setCell_same _ _ 3 _ _ _ (heap_setCell_same _ _ 2 _ _ _ (heap_setCell_same _ _ 1 _ _ _ (heap_setCell_same _ _ 0 _ _ _ hr))))
              go_cut [8] (fun t wd => ∃ nb, t = .pointer (some ⟨nb, 0, none⟩) ∧ w3.heap.size ≤ nb ∧ Below w3.heap.size w3 wd ∧ wd.heap[nb]? = some (.cells #[.int .i64 (s.last + 1), .int .i64 sz, .string m, .slice none 0 0, .int .i64 0] 67 (0, 0)))
              case first =>
                go_region_held3 (fun w' => w'.cell? ⟨g, 1, none⟩ = some (.int .i64 (s.last + 1))) (go_keep) (first
                  | (go_at_call 95; refine HClA.out.mono ?_; rintro e w4 ⟨rfl, hb5, hr5⟩; have c1' : w4.cell? ⟨g, 1, none⟩ = some (.int .i64 (s.last + 1)) := (hb5.cell (p := ⟨g, 1, none⟩) hlt).trans c1; have z0 := cell_of_row w4 _ 0 _ _ _ hr5; have z1 := cell_of_row w4 _ 1 _ _ _ hr5; have z2 := cell_of_row w4 _ 2 _ _ _ hr5; have z3 := cell_of_row w4 _ 3 _ _ _ hr5; have z4 := cell_of_row w4 _ 4 _ _ _ hr5; have y0 := frozen_of_row w4 _ 0 _ _ hr5; have y1 := frozen_of_row w4 _ 1 _ _ hr5; have y2 := frozen_of_row w4 _ 2 _ _ hr5; have y3 := frozen_of_row w4 _ 3 _ _ hr5; have y4 := frozen_of_row w4 _ 4 _ _ hr5; simp at z0 z1 z2 z3 z4; have HB4 := Hid.mk' hb5; have HR4 := Hid.mk' hr5; clear hb5 hr5)
                  | (go_at_call 95; refine HClB.out.mono ?_; rintro e w4 ⟨rfl, hb5⟩; have c1' : w4.cell? ⟨g, 1, none⟩ = some (.int .i64 (s.last + 1)) := (hb5.cell (p := ⟨g, 1, none⟩) hlt).trans c1; have hne4 : ¬ w4.heap.size = g := (by have := hb5.size; omega); have hne4' : ¬ g = w4.heap.size := (by have := hb5.size; omega); have HB4 := Hid.mk' hb5; clear hb5))
                all_goals go_wp2
                all_goals go_meet
                · exact ⟨_, rfl, HB4.out.size, HB4.out.alloc HB4.out.size _, heap_alloc_new w4 _⟩
                · exact ⟨_, rfl, Nat.le_refl _, HMt.out w4 HB4.out HR4.out⟩
              case rest =>
                obtain ⟨nb, rfl, hnb, hb4, hr4⟩ := hcut
                have hU4 := HU3.out.stay hb4
                obtain ⟨xs, hO, hP⟩ := hU4.push (.cells #[.int .i64 (s.last + 1), .int .i64 sz, .string m, .slice none 0 0, .int .i64 0] 67)
                have hg4 : wc.heap[g]? = some _ := (hb4.block g hlt).trans HG3.out
                have hbA := (Below.refl _ wc).alloc (Nat.le_refl _) (.cells #[.int .i64 (s.last + 1), .int .i64 sz, .string m, .slice none 0 0, .int .i64 0] 67)
                have c0a : (wc.alloc (.cells #[.int .i64 (s.last + 1), .int .i64 sz, .string m, .slice none 0 0, .int .i64 0] 67)).cell? ⟨g, 0, none⟩ = some (.slice ao3 s.l.length cap3) := (hbA.cell (p := ⟨g, 0, none⟩) (by show g < wc.heap.size; have := hb4.size; omega)).trans (cell_of_row wc g 0 _ _ _ hg4)
                have c0b : wc.cell? ⟨g, 0, none⟩ = some (.slice ao3 s.l.length cap3) := cell_of_row wc g 0 _ _ _ hg4
                have z0 : wc.cell? ⟨nb, 0, none⟩ = some (.int .i64 (s.last + 1)) := cell_of_row wc nb 0 _ _ _ hr4
                have z1 : wc.cell? ⟨nb, 1, none⟩ = some (.int .i64 sz) := cell_of_row wc nb 1 _ _ _ hr4
                have z2 : wc.cell? ⟨nb, 2, none⟩ = some (.string m) := cell_of_row wc nb 2 _ _ _ hr4
                have z3 : wc.cell? ⟨nb, 3, none⟩ = some (.slice none 0 0) := cell_of_row wc nb 3 _ _ _ hr4
                have z4 : wc.cell? ⟨nb, 4, none⟩ = some (.int .i64 0) := cell_of_row wc nb 4 _ _ _ hr4
                have hsz4 := hb4.size
                have hbl : ∀ k, blockOf ao3 = some k → (S k ∧ k ≠ g) ∧ k < w3.heap.size := fun k e => by
                  obtain ⟨us, _, h2, h3, _⟩ := HU3.out
                  cases ao3 with
                  | none => cases e
                  | some a => injection e with e; subst e; exact ⟨h3 a rfl, (h2.block a rfl).2⟩
                have hnbl : nb < wc.heap.size := (Array.getElem?_eq_some_iff.1 hr4).1
                have HK : Hid (∀ w5, (wc.alloc (.cells #[.int .i64 (s.last + 1), .int .i64 sz, .string m, .slice none 0 0, .int .i64 0] 67)).drew.grownBy w5 (Value.slice ao3 s.l.length cap3).ownBlock → w5.heap[g]? = some (.cells #[.slice ao3 s.l.length cap3, .int .i64 (s.last + 1)] 88 (0, 0)) ∧ w5.heap[nb]? = some (.cells #[.int .i64 (s.last + 1), .int .i64 sz, .string m, .slice none 0 0, .int .i64 0] 67 (0, 0))) := fun w5 hG => by
                  rw [ownBlock_slice] at hG
                  refine ⟨?_, ?_⟩
                  · rw [hG.block g (by show g < (wc.alloc _).heap.size; rw [World.size_alloc]; omega) (fun e => (hbl g e.symm).1.2 rfl)]
                    exact (hbA.block g (by omega)).trans hg4
                  · rw [hG.block nb (by show nb < (wc.alloc _).heap.size; rw [World.size_alloc]; omega) (fun e => by have := (hbl nb e.symm).2; omega)]
                    exact (hbA.block nb (by omega)).trans hr4
                have HO := Hid.mk' (OwnV.stay hO (below_drew _ _))
                have HNw : Hid (∀ j u, (upC ⟨s.last + 1, sz, m, [], 0⟩ ⟨none, 0⟩)[j]? = some u → (wc.alloc (.cells #[.int .i64 (s.last + 1), .int .i64 sz, .string m, .slice none 0 0, .int .i64 0] 67)).drew.cell? (Addr.add ⟨wc.heap.size, 0, none⟩ j) = some u) := fun j u hu => by
                  rw [Addr.add_lit, Nat.zero_add]
                  show (wc.alloc _).cell? _ = _
                  rw [World.cell?_alloc_at _ _ _ _ rfl, List.getElem?_toArray]
                  exact hu
                have HP := Hid.mk' hP
                have HB4 := Hid.mk' hb4
                have HBL := Hid.mk' hbl
                obtain ⟨i0, hi0, hz0, hz1, hz2⟩ := info_parts info_up
                have Hi := Hid.mk' hi0; have Hz0 := Hid.mk' hz0; have Hz1 := Hid.mk' hz1; have Hz2 := Hid.mk' hz2
                have HN : Hid (s.l.length + 1 ≤ maxLen ∧ (s.l.length + 1) * 64 ≤ 140737488355328) := ⟨by unfold maxLen; omega, by omega⟩
                have hng : ¬ nb = g := by omega
                have hng' : ¬ g = nb := by omega
                clear hi0 hz0 hz1 hz2 hO hP hbl hbA hg4 hU4 hb4 hr4 HMt HClA HClB
                go_wp2
                go_region_law
                  ((refine step_append_lies _ (by rfl) _ _ _ (by rfl) 0 67 i0 (.agg #[.int .i64 0, .int .i64 0, .string ⟨#[]⟩, .slice none 0 0, .int .i64 0]) 5 64 Tryz.underlying43 Hi.out Hz0.out Hz1.out Hz2.out (by rfl) (by decide) (.slice ao3 s.l.length cap3) s.l.length _ (by rfl) HO.out ⟨wc.heap.size, 0, none⟩ 1 1 (upC ⟨s.last + 1, sz, m, [], 0⟩ ⟨none, 0⟩) (by rfl) (by rfl) HNw.out (upC_one _ _) (by decide) HN.out.1 HN.out.2 (Nat.zero_le _) (wc.heap.size + 1) (by simp) ?_; intro g5 cap5 w5 hown5 hgrow hat5 hlt5; obtain ⟨r5, r6⟩ := HK.out _ hgrow; have q0 : w5.cell? ⟨g, 0, none⟩ = some (.slice ao3 s.l.length cap3) := cell_of_row w5 g 0 _ _ _ r5; have q1 : w5.frozen? ⟨g, 0, none⟩ = false := frozen_of_row w5 g 0 _ _ r5; have q2 : w5.cell? ⟨nb, 0, none⟩ = some (.int .i64 (s.last + 1)) := cell_of_row w5 nb 0 _ _ _ r6; have HR5 := Hid.mk' r5; have HG5 := Hid.mk' hgrow; have HO5 := Hid.mk' hown5; have HA5 := Hid.mk' hat5; clear hgrow hown5 hat5 r5 r6 hlt5))
                all_goals
                  go_wp2
                  go_ret2
                  have hG := HG5.out
                  have hat := HA5.out
                  rw [ownBlock_slice] at hG hat
                  obtain ⟨r1, r2⟩ := HP.out (some ⟨g5, 0, none⟩) cap5 w5 ⟨s.last + 1, sz, m, [], 0⟩ ⟨none, 0⟩ (fun _ => False) (GrowB.nil _ _ _) (fun _ _ e => e) HO5.out (grown_trans (grown_drew _ _) hG) (by
                    rcases hat with e | e
                    · exact Or.inl e.symm
                    · exact Or.inr (by rw [World.size_alloc, e]; rfl))
                  have hszw := HT3.out.size
                  obtain ⟨hL, hTL⟩ := SpAt.lay (S := orNew S w) HR5.out (Or.inl hS3) (n := s.l.length + 1) (r1.mono (fun k _ e => by
                    rcases e with e | e | e
                    · exact ⟨Or.inl e.1, e.2⟩
                    · exact e.elim
                    · exact ⟨Or.inr (by omega), by omega⟩)) (by simp)
                  refine ⟨by rw [HCr.out]; rfl, by rw [HCr.out]; exact hL, ?_⟩
                  exact ((HT3.out.trans (Turns.of_below HB4.out) (fun _ e _ => e)).trans (r2.mono (fun k e => e.1)) (fun _ e _ => e)).trans (hTL.mono (fun k e => by subst e; exact hS3)) (fun _ e _ => e)
          · rw [decide_eq_false h4] at hts
            have HR : Hid (∀ W, Below w.heap.size w W → Made S 88 w g (Sp.create s sz m) (.returned (.tuple #[.int .i64 0, .int .i64 (3 : Nat)])) W) := fun W hW => Made.none_ h hW (by unfold Sp.create; rw [if_neg h1, if_neg e2, if_pos (Or.inr h4)])
            clear h ok hU hg c0 c1 hT hTd h4 hv
            go_enter Tryz.func99, Tryz.ntmps99
            go_wp2_with (first | (go_at_call 130; refine HV.out.mono ?_; rintro e w1 ⟨rfl, rfl⟩) | (go_at_call 131; refine HTr.out.mono ?_; rintro e w1 ⟨rfl, hb⟩; have HD := Hid.mk' (HR.out w1 hb); clear hb))
            go_ret2
            exact HD.out
end Go.Proofs.YtdclmpdjjkjfjaaGreatDoor

/- Package store, walked: the closures that are handed to step. -/
namespace Go.Proofs.YtdclmpdjjkjfjaaGreatDoor
open Go.RowKit

set_option maxHeartbeats 800000 in
theorem close_drp (s : Sp.St) (S : Nat → Prop) (g b1 : Nat) (id : Int) (w : World) (h : SpoolAt w S g s) (ok : Sp.Ok s) (d1 : w.cell? ⟨b1, 0, none⟩ = some (.int .i64 id)) :
    Calls Tryz.prog 117 #[.pointer (some ⟨g, 0, none⟩), .pointer (some ⟨b1, 0, none⟩)] w (Did S 88 w g (Sp.drop s id)) := by
  have HC := Hid.mk' (dropU_any s S g id w h ok)
  generalize Sp.drop s id = r at *
  clear ok h
  go_enter Tryz.func117, Tryz.ntmps117
  go_wp2_with fail
  refine HC.out.mono ?_
  intro e w2 hd
  have HD := Hid.mk' hd
  obtain ⟨rfl, _, _⟩ := hd
  go_wp2
  go_ret
  exact HD.out
set_option maxHeartbeats 800000 in
theorem close_dec (s : Sp.St) (S : Nat → Prop) (g b1 b2 : Nat) (id : Int) (sz : Int) (w : World) (h : SpoolAt w S g s) (ok : Sp.Ok s) (d1 : w.cell? ⟨b1, 0, none⟩ = some (.int .i64 id)) (d2 : w.cell? ⟨b2, 0, none⟩ = some (.int .i64 sz)) :
    Calls Tryz.prog 116 #[.pointer (some ⟨g, 0, none⟩), .pointer (some ⟨b1, 0, none⟩), .pointer (some ⟨b2, 0, none⟩)] w (Did S 88 w g (Sp.declare s id sz)) := by
  have HC := Hid.mk' (declareU_any s S g id sz w h ok)
  generalize Sp.declare s id sz = r at *
  clear ok h
  go_enter Tryz.func116, Tryz.ntmps116
  go_wp2_with fail
  refine HC.out.mono ?_
  intro e w2 hd
  have HD := Hid.mk' hd
  obtain ⟨rfl, _, _⟩ := hd
  go_wp2
  go_ret
  exact HD.out
set_option maxHeartbeats 800000 in
theorem close_app (s : Sp.St) (S : Nat → Prop) (g b1 b2 b3 : Nat) (id : Int) (off : Int) (bo : Option Addr) (bn bc : Nat) (l : List UInt8) (w : World) (h : SpoolAt w S g s) (ok : Sp.Ok s) (d1 : w.cell? ⟨b1, 0, none⟩ = some (.int .i64 id)) (d2 : w.cell? ⟨b2, 0, none⟩ = some (.int .i64 off)) (d3 : w.cell? ⟨b3, 0, none⟩ = some (.slice bo bn bc)) (hb : IsB w bo bc l) (hn : l.length = bn) (hN : bn ≤ 1000000) :
    Calls Tryz.prog 115 #[.pointer (some ⟨g, 0, none⟩), .pointer (some ⟨b1, 0, none⟩), .pointer (some ⟨b2, 0, none⟩), .pointer (some ⟨b3, 0, none⟩)] w (Did S 88 w g (Sp.append s id off l)) := by
  have HC := Hid.mk' (appendU_any s S g id off bo bn bc l w h ok hb hn hN)
  generalize Sp.append s id off l = r at *
  clear hN hn hb ok h
  go_enter Tryz.func115, Tryz.ntmps115
  go_wp2_with fail
  refine HC.out.mono ?_
  intro e w2 hd
  have HD := Hid.mk' hd
  obtain ⟨rfl, _, _⟩ := hd
  go_wp2
  go_ret
  exact HD.out
set_option maxHeartbeats 800000 in
theorem close_cre (s : Sp.St) (S : Nat → Prop) (g b1 b2 : Nat) (sz : Int) (m : ByteArray) (w : World) (h : SpoolAt w S g s) (ok : Sp.Ok s) (d1 : w.cell? ⟨b1, 0, none⟩ = some (.int .i64 sz)) (d2 : w.cell? ⟨b2, 0, none⟩ = some (.string m)) (hl : s.last ≤ 1000000) (hm : m.size ≤ 1000000) :
    Calls Tryz.prog 107 #[.pointer (some ⟨g, 0, none⟩), .pointer (some ⟨b1, 0, none⟩), .pointer (some ⟨b2, 0, none⟩)] w (Did S 88 w g (Sr.made s sz m)) := by
  have HC := Hid.mk' (createU_any s S g sz m w h ok hl hm)
  have HP : Hid (Sr.made s sz m = ((Sp.create s sz m).1, (Sp.create s sz m).2.2)) := rfl
  generalize Sp.create s sz m = q at *
  obtain ⟨q1, q2, q3⟩ := q
  generalize Sr.made s sz m = r at *
  clear hm hl ok h
  go_enter Tryz.func107, Tryz.ntmps107
  go_wp2_with fail
  refine HC.out.mono ?_
  intro e w2 hd
  have HD : Hid (Did S 88 w g r (.returned (.int .i64 (q3 : Int))) w2) := by
    rw [HP.out]; exact ⟨rfl, hd.at_, hd.turns⟩
  obtain ⟨rfl, _, _⟩ := hd
  go_wp2
  go_ret
  exact HD.out
end Go.Proofs.YtdclmpdjjkjfjaaGreatDoor

/- A spool all of whose memory is new; two short texts as bytes. -/
namespace Go.Proofs.YtdclmpdjjkjfjaaGreatDoor
open Go.RowKit

/-- a spool all of whose memory is new -/
abbrev SpNew (B : Nat) (w : World) (g : Nat) (s : Sp.St) : Prop := SpoolAt w (fun k => B ≤ k) g s
theorem Did.new_ {B : Nat} {w w' : World} {g : Nat} {r : Sp.St × Nat} {e : Ending} (h : Did (fun k => B ≤ k) 88 w g r e w') (hB : B ≤ w.heap.size) : e = .returned (.int .i64 (r.2 : Int)) ∧ SpNew B w' g r.1 ∧ Below B w w' := by
  refine ⟨h.ret, h.at_.mono (fun k _ e => ?_), h.turns.below (fun k e => e) hB⟩
  rcases e with e | e
  · exact e
  · omega
theorem Made.new_ {B : Nat} {w w' : World} {g : Nat} {r : Sp.St × Int × Nat} {e : Ending} (h : Made (fun k => B ≤ k) 88 w g r e w') (hB : B ≤ w.heap.size) : e = .returned (.tuple #[.int .i64 r.2.1, .int .i64 (r.2.2 : Int)]) ∧ SpNew B w' g r.1 ∧ Below B w w' := by
  refine ⟨h.ret, h.at_.mono (fun k _ e => ?_), h.turns.below (fun k e => e) hB⟩
  rcases e with e | e
  · exact e
  · omega
theorem isB_ab (W : World) : IsB (W.alloc (.cells #[.int .u8 97, .int .u8 98] 5 (2, 3))) (some ⟨W.heap.size, 0, none⟩) 2 [97, 98] := by
  refine ⟨Nat.le_refl _, fun e => by simp at e, fun j hj => ⟨_, rfl, ?_⟩⟩
  rw [Addr.add_lit, World.cell?_alloc_mark, Nat.zero_add]
  match j, hj with
  | 0, _ => rfl
  | 1, _ => rfl
theorem isB_c (W : World) : IsB (W.alloc (.cells #[.int .u8 99] 5 (1, 2))) (some ⟨W.heap.size, 0, none⟩) 1 [99] := by
  refine ⟨Nat.le_refl _, fun e => by simp at e, fun j hj => ⟨_, rfl, ?_⟩⟩
  rw [Addr.add_lit, World.cell?_alloc_mark, Nat.zero_add]
  match j, hj with
  | 0, _ => rfl
end Go.Proofs.YtdclmpdjjkjfjaaGreatDoor

/- Package spool, walked: clone. -/
namespace Go.Proofs.YtdclmpdjjkjfjaaGreatDoor
open Go.RowKit

set_option maxRecDepth 100000 in
set_option maxHeartbeats 2000000 in
theorem cloneU_any (i z t : Int) (m : ByteArray) (bo : Option Addr) (n bcap : Nat) (bs : List UInt8) (w : World) (hB : IsB w bo bcap bs) (hn : bs.length = n) (hN : n ≤ 1000000) (hm : m.size ≤ 1000000) :
    Calls Tryz.prog 65 #[.agg #[.int .i64 i, .int .i64 z, .string m, .slice bo n bcap, .int .i64 t]] w fun e w' => ∃ ao cap, e = .returned (.agg #[.int .i64 i, .int .i64 z, .string m, .slice ao n cap, .int .i64 t]) ∧ GrowB w' (fun k => w.heap.size ≤ k) 5 ao cap bs ∧ Below w.heap.size w w' := by
  have HC1 := Hid.mk' (fun W => sclone_any m W hm)
  have HC2 : Hid (∀ W, Below w.heap.size w W → Calls Tryz.prog 96 #[.slice bo n bcap] W fun e w' => ∃ ao cap, e = .returned (.slice ao n cap) ∧ GrowB w' (fun k => W.heap.size ≤ k) 5 ao cap bs ∧ Below W.heap.size W w') := fun W hW => cloneBytes_any bs bo bcap n W (hB.stay hW) hn (by omega)
  clear hB
  go_enter Tryz.func65, Tryz.ntmps65
  go_upto_region 1 with fail
  have h0 : TwoAt w (.cells #[.int .i64 i, .int .i64 z, .string m, .slice bo n bcap, .int .i64 t] 67 (0, 0)) (.cells #[.int .i64 0, .int .i64 0, .string ⟨#[]⟩, .slice none 0 0, .int .i64 0] 67 (0, 0)) _ := TwoAt.made w #[.int .i64 i, .int .i64 z, .string m, .slice bo n bcap, .int .i64 t] #[.int .i64 0, .int .i64 0, .string ⟨#[]⟩, .slice none 0 0, .int .i64 0] 67 67
  have HCl : Hid (∀ W, TwoAt w (.cells #[.int .i64 i, .int .i64 z, .string m, .slice bo n bcap, .int .i64 t] 67 (0, 0)) (.cells #[.int .i64 0, .int .i64 0, .string ⟨#[]⟩, .slice none 0 0, .int .i64 0] 67 (0, 0)) W → W.cell? ⟨w.heap.size, 2, none⟩ = some (.string m) ∧ W.cell? ⟨w.heap.size, 3, none⟩ = some (.slice bo n bcap) ∧ W.frozen? ⟨w.heap.size, 2, none⟩ = false ∧ W.frozen? ⟨w.heap.size, 3, none⟩ = false) := fun W h => ⟨h.cell 2, h.cell 3, h.fz 2, h.fz 3⟩
  obtain ⟨c2, c3, f2, f3⟩ := HCl.out _ h0
  have hs0 : w.heap.size + 2 ≤ ((w.alloc (.cells #[.int .i64 i, .int .i64 z, .string m, .slice bo n bcap, .int .i64 t] 67)).alloc (.cells #[.int .i64 0, .int .i64 0, .string ⟨#[]⟩, .slice none 0 0, .int .i64 0] 67)).heap.size := by simp
  generalize ((w.alloc (.cells #[.int .i64 i, .int .i64 z, .string m, .slice bo n bcap, .int .i64 t] 67)).alloc (.cells #[.int .i64 0, .int .i64 0, .string ⟨#[]⟩, .slice none 0 0, .int .i64 0] 67)) = w1 at *
  have HX := Hid.mk' h0
  have HS0 := Hid.mk' hs0
  clear h0 hs0
  go_cut [3] (fun _ wd => ∃ ao cap, TwoAt w (.cells #[.int .i64 i, .int .i64 z, .string m, .slice ao n cap, .int .i64 t] 67 (0, 0)) (.cells #[.int .i64 0, .int .i64 0, .string ⟨#[]⟩, .slice none 0 0, .int .i64 0] 67 (0, 0)) wd ∧ GrowB wd (fun k => w.heap.size + 2 ≤ k) 5 ao cap bs)
  case first =>
    go_region_with (first
      | (go_at_call 95; refine (HC1.out _).mono ?_; rintro e w2 ⟨rfl, hb2⟩; have hx2 := HX.out.stay ((below_drew _ _).trans hb2); obtain ⟨d2, d3, g2, g3⟩ := HCl.out _ hx2; have HX2 := Hid.mk' hx2; have HS2 : Hid (w1.heap.size ≤ w2.heap.size) := hb2.size; clear hb2 hx2)
      | (go_at_call 96; refine (HC2.out _ HX2.out.below).mono ?_; rintro e w3 ⟨ao, cap, rfl, hO, hb3⟩; have hx3 := HX2.out.stay hb3; obtain ⟨e2, e3, k2, k3⟩ := HCl.out _ hx3; have HX3 := Hid.mk' hx3; have HO := Hid.mk' hO; clear hb3 hx3 hO))
    all_goals
      go_wp2
      go_meet
      have hx4 := HX3.out.same 2 (.string m) rfl
      obtain ⟨hx5, ht5⟩ := hx4.put1 3 (.slice ao n cap)
      have ht4 : Turns (fun k => w.heap.size ≤ k ∧ k < w.heap.size + 2) w3 (w3.setCell ⟨w.heap.size, 2, none⟩ (.string m)) := Turns.setCell _ w3 _ _ ⟨Nat.le_refl _, by show w.heap.size < _; omega⟩
      have hs0 := HS0.out
      have hs2 := HS2.out
      refine ⟨ao, cap, hx5, ((HO.out.to (S' := fun k => w.heap.size + 2 ≤ k) (fun k e _ _ => by omega)).turns ht4 (fun k e h => by omega)).turns ht5 (fun k e h => by omega)⟩
  case rest =>
    obtain ⟨ao, cap, hx, hO⟩ := hcut
    have HT := Hid.mk' hx
    have HO := Hid.mk' hO
    have d0 := hx.cell 0; have d1 := hx.cell 1; have d2 := hx.cell 2; have d3 := hx.cell 3; have d4 := hx.cell 4
    have g0 := hx.fz2 0; have g1 := hx.fz2 1; have g2 := hx.fz2 2; have g3 := hx.fz2 3; have g4 := hx.fz2 4
    have e0 := hx.cell2 0; have e1 := hx.cell2 1; have e2 := hx.cell2 2; have e3 := hx.cell2 3; have e4 := hx.cell2 4
    simp at d0 d1 d2 d3 d4 e0 e1 e2 e3 e4
    clear hx hO c2 c3 f2 f3 HX HS0 HCl HC1 HC2
    go_wp2
    obtain ⟨a1, t1⟩ := HT.out.put2 0 (.int .i64 i)
    obtain ⟨a2, t2⟩ := a1.put2 1 (.int .i64 z)
    obtain ⟨a3, t3⟩ := a2.put2 2 (.string m)
    obtain ⟨a4, t4⟩ := a3.put2 3 (.slice ao n cap)
    obtain ⟨a5, t5⟩ := a4.put2 4 (.int .i64 t)
    have hno : ∀ k, w.heap.size + 2 ≤ k → ¬ (w.heap.size ≤ k ∧ k < w.heap.size + 2) := fun k e h => by omega
    have hO6 := ((((HO.out.turns t1 hno).turns t2 hno).turns t3 hno).turns t4 hno).turns t5 hno
    generalize (((((wc.setCell ⟨w.heap.size + 1, 0, none⟩ (Value.int .i64 i)).setCell ⟨w.heap.size + 1, 1, none⟩ (Value.int .i64 z)).setCell ⟨w.heap.size + 1, 2, none⟩ (Value.string m)).setCell ⟨w.heap.size + 1, 3, none⟩ (Value.slice ao n cap)).setCell ⟨w.heap.size + 1, 4, none⟩ (Value.int .i64 t)) = w6 at a5 hO6 ⊢
    have r0 : w6.cell? ⟨w.heap.size + 1, 0, none⟩ = some (.int .i64 i) := a5.cell2 0
    have r1 : w6.cell? ⟨w.heap.size + 1, 1, none⟩ = some (.int .i64 z) := a5.cell2 1
    have r2 : w6.cell? ⟨w.heap.size + 1, 2, none⟩ = some (.string m) := a5.cell2 2
    have r3 : w6.cell? ⟨w.heap.size + 1, 3, none⟩ = some (.slice ao n cap) := a5.cell2 3
    have r4 : w6.cell? ⟨w.heap.size + 1, 4, none⟩ = some (.int .i64 t) := a5.cell2 4
    refine bodyPost_ret (v := .agg #[.int .i64 i, .int .i64 z, .string m, .slice ao n cap, .int .i64 t]) (by simp [results, Tryz.results65, go_sem, r0, r1, r2, r3, r4]) rfl ⟨ao, cap, rfl, hO6.mono (fun k _ e => by omega), a5.below⟩
end Go.Proofs.YtdclmpdjjkjfjaaGreatDoor

/- Package spool, walked: cloneAll, List, Copy. -/
namespace Go.Proofs.YtdclmpdjjkjfjaaGreatDoor
open Go.RowKit

/-- uploads that are small -/
def SmallU (l : List Sp.Up) : Prop := l.length ≤ 1000 ∧ ∀ u ∈ l, u.note.size ≤ 1000000 ∧ u.bytes.length ≤ 1000000
theorem Sp.Ok.small {s : Sp.St} (ok : Sp.Ok s) : SmallU s.l := ⟨by have := ok.few; omega, fun u hu => ⟨by have := (ok.all u hu).note; omega, by have := (ok.all u hu).long; omega⟩⟩
set_option maxRecDepth 100000 in
set_option maxHeartbeats 2000000 in
theorem cloneAll_any (l : List Sp.Up) (ao : Option Addr) (cap n : Nat) (w : World) (hl : IsUps w ao cap l) (hcap : n ≤ cap) (hn : l.length = n) (hz : SmallU l) :
    Calls Tryz.prog 40 #[.slice ao n cap] w fun e w' => ∃ ao', e = .returned (.slice ao' n n) ∧ UpO w' (fun k => w.heap.size ≤ k) 67 5 ao' n l ∧ Below w.heap.size w w' := by
  subst hn
  have hN := hz.1
  obtain ⟨i0, hi0, hz0, hz1, hz2⟩ := info_parts info_up
  obtain ⟨w1, hmk, hO1, hG1⟩ := run_make_full (P := Tryz.prog) w 0 43 67 i0 (.agg #[.int .i64 0, .int .i64 0, .string ⟨#[]⟩, .slice none 0 0, .int .i64 0]) 5 Tryz.underlying43 hi0 hz0 hz1 .i64 .i64 l.length (by rw [hz2]; omega) (by unfold maxLen; omega) (Nat.zero_le _)
  rw [show (Value.agg #[.int .i64 0, .int .i64 0, .string ⟨#[]⟩, .slice none 0 0, .int .i64 0]).cells = #[.int .i64 0, .int .i64 0, .string ⟨#[]⟩, .slice none 0 0, .int .i64 0] from rfl, upV_zeros] at hO1
  have hb1 : Below w.heap.size w w1 := ⟨hG1.os, hG1.tape, hG1.output, hG1.size, fun k hk => hG1.block k hk (by simp)⟩
  have hU1 : UpO w1 (fun k => w.heap.size ≤ k) 67 5 (some ⟨w.heap.size, 0, none⟩) l.length (List.replicate l.length zUp) := UpO.zeros hO1 (Nat.le_refl _)
  have H := Hid.mk' hl
  have HZ := Hid.mk' hz
  have HB1 := Hid.mk' hb1
  have HU1 := Hid.mk' hU1
  clear hl hz hi0 hz0 hz1 hz2 hO1 hG1 hb1 hU1
  go_enter Tryz.func40, Tryz.ntmps40
  go_wp2
  go_loopw [11] (fun t wr => ∃ k : Nat, k ≤ l.length ∧ t = .int .i64 k ∧ Below w.heap.size w wr ∧ UpO wr (fun k => w.heap.size ≤ k) 67 5 (some ⟨w.heap.size, 0, none⟩) l.length (l.take k ++ List.replicate (l.length - k) zUp)) (fun t _ => l.length - (intOf t).toNat)
  case atStart => exact ⟨0, Nat.zero_le _, rfl, HB1.out, HU1.out⟩
  case round =>
    obtain ⟨k, hk, rfl, hB, hU⟩ := hrel
    have HB := Hid.mk' hB
    have HU := Hid.mk' hU
    clear hB hU
    by_cases hlt : k < l.length
    · obtain ⟨bb, oo, q, rfl, hc0, hc1, hc2, hc3, hc4, hIB⟩ := (H.out.stay HB.out).at_ k hlt
      have hlt' : (k : Int) < l.length := by omega
      have hz := HZ.out.2 l[k] (List.getElem_mem hlt)
      have HT : Hid ((l.take k ++ List.replicate (l.length - k) zUp).set k l[k] = l.take (k + 1) ++ List.replicate (l.length - (k + 1)) zUp) := laid_next l k hlt
      have hL : k < (l.take k ++ List.replicate (l.length - k) zUp).length := by rw [List.length_append, List.length_take, List.length_replicate]; omega
      have hbA := (Below.refl _ wr).alloc (Nat.le_refl _) (.cells #[.int .i64 l[k].id, .int .i64 l[k].size, .string l[k].note, .slice q.bo l[k].bytes.length q.bcap, .int .i64 l[k].sent] 67)
      have HC := Hid.mk' (cloneU_any l[k].id l[k].size l[k].sent l[k].note q.bo l[k].bytes.length q.bcap l[k].bytes (wr.alloc (.cells #[.int .i64 l[k].id, .int .i64 l[k].size, .string l[k].note, .slice q.bo l[k].bytes.length q.bcap, .int .i64 l[k].sent] 67)) (hIB.stay hbA) rfl hz.2 hz.1)
      have hszr := HB.out.size
      have HX : Hid (∀ w3 ao' cap', GrowB w3 (fun j => (wr.alloc (.cells #[.int .i64 l[k].id, .int .i64 l[k].size, .string l[k].note, .slice q.bo l[k].bytes.length q.bcap, .int .i64 l[k].sent] 67)).heap.size ≤ j) 5 ao' cap' l[k].bytes → Below (wr.alloc (.cells #[.int .i64 l[k].id, .int .i64 l[k].size, .string l[k].note, .slice q.bo l[k].bytes.length q.bcap, .int .i64 l[k].sent] 67)).heap.size (wr.alloc (.cells #[.int .i64 l[k].id, .int .i64 l[k].size, .string l[k].note, .slice q.bo l[k].bytes.length q.bcap, .int .i64 l[k].sent] 67)) w3 →
          (∀ j, j < 5 → (∃ v, w3.cell? ⟨w.heap.size, k * 5 + j, none⟩ = some v) ∧ w3.frozen? ⟨w.heap.size, k * 5 + j, none⟩ = false) ∧
          Below w.heap.size w (((((w3.setCell ⟨w.heap.size, k * 5, none⟩ (.int .i64 l[k].id)).setCell ⟨w.heap.size, k * 5 + 1, none⟩ (.int .i64 l[k].size)).setCell ⟨w.heap.size, k * 5 + 2, none⟩ (.string l[k].note)).setCell ⟨w.heap.size, k * 5 + 3, none⟩ (.slice ao' l[k].bytes.length cap')).setCell ⟨w.heap.size, k * 5 + 4, none⟩ (.int .i64 l[k].sent)) ∧
          UpO (((((w3.setCell ⟨w.heap.size, k * 5, none⟩ (.int .i64 l[k].id)).setCell ⟨w.heap.size, k * 5 + 1, none⟩ (.int .i64 l[k].size)).setCell ⟨w.heap.size, k * 5 + 2, none⟩ (.string l[k].note)).setCell ⟨w.heap.size, k * 5 + 3, none⟩ (.slice ao' l[k].bytes.length cap')).setCell ⟨w.heap.size, k * 5 + 4, none⟩ (.int .i64 l[k].sent)) (fun k => w.heap.size ≤ k) 67 5 (some ⟨w.heap.size, 0, none⟩) l.length (l.take (k + 1) ++ List.replicate (l.length - (k + 1)) zUp)) := fun w3 ao' cap' hO hb3 => by
        have hb4 : Below wr.heap.size wr w3 := then_ hbA hb3
        have hU3 := (HU.out.mono (S' := fun j => w.heap.size ≤ j ∧ j < wr.heap.size) (fun j hj e => ⟨e, hj⟩)).stay hb4
        obtain ⟨g2, e2, _, _, hcf⟩ := hU3.at_.row k hL
        injection e2 with e2; injection e2 with e2; subst e2
        obtain ⟨hU5, hT5⟩ := hU3.put5 (u := l[k]) hL hO (fun j e h => by rw [World.size_alloc] at e; omega) rfl
        refine ⟨hcf, (HB.out.trans (hb4.mono hszr)).trans (hT5.below (fun j e => by subst e; exact Nat.le_refl _) (by have := hb4.size; omega)), ?_⟩
        rw [← HT.out]
        refine hU5.mono (fun j _ e => ?_)
        rcases e with e | e
        · exact e.1
        · rw [World.size_alloc] at e; omega
      clear hIB hbA HT hL HU
      generalize l[k] = p at *
      go_wp2_with fail
      refine HC.out.mono ?_
      rintro e w3 ⟨ao', cap', rfl, hO, hb3⟩
      obtain ⟨hcf, hx1, hx2⟩ := HX.out w3 ao' cap' hO hb3
      obtain ⟨⟨v0, d0⟩, f0⟩ := hcf 0 (by decide); obtain ⟨⟨v1, d1⟩, f1⟩ := hcf 1 (by decide); obtain ⟨⟨v2, d2⟩, f2⟩ := hcf 2 (by decide); obtain ⟨⟨v3, d3⟩, f3⟩ := hcf 3 (by decide); obtain ⟨⟨v4, d4⟩, f4⟩ := hcf 4 (by decide)
      rw [Nat.add_zero] at d0 f0
      have HX1 := Hid.mk' hx1; have HX2 := Hid.mk' hx2
      clear hcf hx1 hx2 hO hb3 HX
      go_wp2
      go_roundw
      case rel => exact ⟨k + 1, by omega, by go_num, HX1.out, HX2.out⟩
      case measure => simp [intOf]; omega
    · obtain rfl : k = l.length := by omega
      go_wp2
      go_ret
      refine ⟨some ⟨w.heap.size, 0, none⟩, rfl, ?_, HB.out⟩
      have := HU.out
      rw [List.take_length, Nat.sub_self, List.replicate_zero, List.append_nil] at this
      exact this
set_option maxHeartbeats 800000 in
theorem listU_any (s : Sp.St) (S : Nat → Prop) (g : Nat) (w : World) (h : SpoolAt w S g s) (hz : SmallU s.l) :
    Calls Tryz.prog 15 #[.pointer (some ⟨g, 0, none⟩)] w fun e w' => ∃ ao', e = .returned (.slice ao' s.l.length s.l.length) ∧ UpO w' (fun k => w.heap.size ≤ k) 67 5 ao' s.l.length s.l ∧ Below w.heap.size w w' := by
  obtain ⟨ao, cap, c0, c1, f0, f1, hg, hS, hU⟩ := h.cells
  have HC := Hid.mk' (cloneAll_any s.l ao cap s.l.length w hU.isUps hU.cap_ rfl hz)
  clear h hU hg hS c1 f0 f1 hz
  generalize s.l = l at *
  go_enter Tryz.func15, Tryz.ntmps15
  go_wp2_with fail
  refine HC.out.mono ?_
  rintro e w1 ⟨ao', rfl, hU1, hb1⟩
  have HU1 := Hid.mk' hU1; have HB1 := Hid.mk' hb1
  clear hU1 hb1
  go_wp2
  go_ret
  exact ⟨ao', rfl, HU1.out, HB1.out⟩
set_option maxHeartbeats 800000 in
theorem copyU_any (s : Sp.St) (S : Nat → Prop) (g : Nat) (w : World) (h : SpoolAt w S g s) (hz : SmallU s.l) :
    Calls Tryz.prog 142 #[.pointer (some ⟨g, 0, none⟩)] w fun e w' => ∃ g', e = .returned (.pointer (some ⟨g', 0, none⟩)) ∧ SpoolAt w' (fun k => w.heap.size ≤ k) g' s ∧ Below w.heap.size w w' := by
  have hlt := h.lt
  obtain ⟨ao, cap, c0, c1, f0, f1, hg, hS, hU⟩ := h.cells
  have HC := Hid.mk' (cloneAll_any s.l ao cap s.l.length w.drew (hU.isUps.stay (below_drew _ _)) hU.cap_ rfl hz)
  clear h hU hg hS f0 f1 hz
  have HE : Hid (∀ w1 ao', UpO w1 (fun k => w.drew.heap.size ≤ k) 67 5 ao' s.l.length s.l → Below w.drew.heap.size w.drew w1 → w1.cell? ⟨g, 0, none⟩ = some (.slice ao s.l.length cap) ∧ w1.cell? ⟨g, 1, none⟩ = some (.int .i64 s.last) ∧ SpoolAt (w1.alloc (.cells #[.slice ao' s.l.length s.l.length, .int .i64 s.last] 88)) (fun k => w.heap.size ≤ k) w1.heap.size s ∧ Below w.heap.size w (w1.alloc (.cells #[.slice ao' s.l.length s.l.length, .int .i64 s.last] 88))) := fun w1 ao' hU1 hb1 => by
    have hb2 : Below w.heap.size w w1 := (below_drew _ _).trans hb1
    have hbA := (Below.refl _ w1).alloc (Nat.le_refl _) (.cells #[.slice ao' s.l.length s.l.length, .int .i64 s.last] 88)
    exact ⟨(hb2.cell (p := ⟨g, 0, none⟩) hlt).trans c0, (hb2.cell (p := ⟨g, 1, none⟩) hlt).trans c1, ⟨ao', s.l.length, heap_alloc_new w1 _, hb2.size, ((hU1.mono (S' := fun k => w.heap.size ≤ k ∧ k < w1.heap.size) (fun k hk e => ⟨e, hk⟩)).stay hbA).mono (fun k _ e => ⟨e.1, by omega⟩)⟩, then_ hb2 hbA⟩
  generalize s.l.length = n at *
  generalize hl : s.last = la at *
  go_enter Tryz.func142, Tryz.ntmps142
  go_wp2_with fail
  go_region_held3 (fun w' => w'.cell? ⟨g, 0, none⟩ = some (.slice ao n cap) ∧ w'.cell? ⟨g, 1, none⟩ = some (.int .i64 la)) (go_keep) (first | (go_at_call 40; refine HC.out.mono ?_; rintro e w1 ⟨ao', rfl, hU1, hb1⟩; obtain ⟨d0, d1, hx, hy⟩ := HE.out w1 ao' hU1 hb1; have HX := Hid.mk' hx; have HY := Hid.mk' hy; clear hx hy hU1 hb1))
  all_goals
    go_wp2
    go_ret
    exact ⟨_, rfl, HX.out, HY.out⟩
set_option maxHeartbeats 800000 in
theorem getU_none (s : Sp.St) (S : Nat → Prop) (g : Nat) (id : Int) (w : World) (h : SpoolAt w S g s) (ok : Sp.Ok s) (hp : Sp.place s.l id = none) :
    Calls Tryz.prog 80 #[.pointer (some ⟨g, 0, none⟩), .int .i64 id] w fun e w' => e = .returned (.tuple #[.agg #[.int .i64 0, .int .i64 0, .string ⟨#[]⟩, .slice none 0 0, .int .i64 0], .bool false]) ∧ Below w.heap.size w w' := by
  have hbA := (Below.refl _ w).alloc (Nat.le_refl _) (.cells #[.int .i64 0, .int .i64 0, .string ⟨#[]⟩, .slice none 0 0, .int .i64 0] 67)
  have HI := Hid.mk' (findU_any s S g id _ (h.stay hbA) (by have := ok.few; omega))
  rw [Sp.pl_none hp] at HI
  have HB := Hid.mk' hbA
  clear h ok hp hbA
  go_enter Tryz.func80, Tryz.ntmps80
  go_wp2_with fail
  refine HI.out.mono ?_
  rintro e w1 ⟨rfl, hb⟩
  have hb2 := then_ HB.out hb
  have hr : w1.heap[w.heap.size]? = some (.cells #[.int .i64 0, .int .i64 0, .string ⟨#[]⟩, .slice none 0 0, .int .i64 0] 67 (0, 0)) := (hb.block w.heap.size (by simp)).trans (heap_alloc_new w _)
  have z0 := cell_of_row w1 _ 0 _ _ _ hr; have z1 := cell_of_row w1 _ 1 _ _ _ hr; have z2 := cell_of_row w1 _ 2 _ _ _ hr; have z3 := cell_of_row w1 _ 3 _ _ _ hr; have z4 := cell_of_row w1 _ 4 _ _ _ hr
  have y0 := frozen_of_row w1 _ 0 _ _ hr; have y1 := frozen_of_row w1 _ 1 _ _ hr; have y2 := frozen_of_row w1 _ 2 _ _ hr; have y3 := frozen_of_row w1 _ 3 _ _ hr; have y4 := frozen_of_row w1 _ 4 _ _ hr
  simp at z0 z1 z2 z3 z4
  have HB2 := Hid.mk' hb2; have HR := Hid.mk' hr
  clear hb hb2 hr
  go_wp2
  have hb6 := ((((HB2.out.setCell (p := ⟨w.heap.size, 0, none⟩) (Nat.le_refl _) (.int .i64 0)).setCell (p := ⟨w.heap.size, 1, none⟩) (Nat.le_refl _) (.int .i64 0)).setCell (p := ⟨w.heap.size, 2, none⟩) (Nat.le_refl _) (.string ⟨#[]⟩)).setCell (p := ⟨w.heap.size, 3, none⟩) (Nat.le_refl _) (.slice none 0 0)).setCell (p := ⟨w.heap.size, 4, none⟩) (Nat.le_refl _) (.int .i64 0)
  have hr6 := heap_setCell_same _ _ 4 _ _ (.int .i64 0) (heap_setCell_same _ _ 3 _ _ (.slice none 0 0) (heap_setCell_same _ _ 2 _ _ (.string ⟨#[]⟩) (heap_setCell_same _ _ 1 _ _ (.int .i64 0) (heap_setCell_same _ _ 0 _ _ (.int .i64 0) HR.out))))
  generalize (((((w1.setCell ⟨w.heap.size, 0, none⟩ (Value.int .i64 0)).setCell ⟨w.heap.size, 1, none⟩ (Value.int .i64 0)).setCell ⟨w.heap.size, 2, none⟩ (Value.string ⟨#[]⟩)).setCell ⟨w.heap.size, 3, none⟩ (Value.slice none 0 0)).setCell ⟨w.heap.size, 4, none⟩ (Value.int .i64 0)) = w6 at hb6 hr6 ⊢
  have r0 : w6.cell? ⟨w.heap.size, 0, none⟩ = some (.int .i64 0) := cell_of_row w6 _ 0 _ _ _ hr6
  have r1 : w6.cell? ⟨w.heap.size, 1, none⟩ = some (.int .i64 0) := cell_of_row w6 _ 1 _ _ _ hr6
  have r2 : w6.cell? ⟨w.heap.size, 2, none⟩ = some (.string ⟨#[]⟩) := cell_of_row w6 _ 2 _ _ _ hr6
  have r3 : w6.cell? ⟨w.heap.size, 3, none⟩ = some (.slice none 0 0) := cell_of_row w6 _ 3 _ _ _ hr6
  have r4 : w6.cell? ⟨w.heap.size, 4, none⟩ = some (.int .i64 0) := cell_of_row w6 _ 4 _ _ _ hr6
  refine bodyPost_ret (v := .tuple #[.agg #[.int .i64 0, .int .i64 0, .string ⟨#[]⟩, .slice none 0 0, .int .i64 0], .bool false]) (by simp [results, Tryz.results80, go_sem, r0, r1, r2, r3, r4]) rfl ⟨rfl, hb6⟩
set_option maxHeartbeats 1600000 in
theorem getU_some (s : Sp.St) (S : Nat → Prop) (g : Nat) (id : Int) (i : Nat) (w : World) (h : SpoolAt w S g s) (ok : Sp.Ok s) (hp : Sp.place s.l id = some i) (hi : i < s.l.length) :
    Calls Tryz.prog 80 #[.pointer (some ⟨g, 0, none⟩), .int .i64 id] w fun e w' => ∃ ao cap, e = .returned (.tuple #[.agg #[.int .i64 s.l[i].id, .int .i64 s.l[i].size, .string s.l[i].note, .slice ao s.l[i].bytes.length cap, .int .i64 s.l[i].sent], .bool true]) ∧ IsB w' ao cap s.l[i].bytes ∧ Below w.heap.size w w' := by
  have hbA := (Below.refl _ w).alloc (Nat.le_refl _) (.cells #[.int .i64 0, .int .i64 0, .string ⟨#[]⟩, .slice none 0 0, .int .i64 0] 67)
  have HI := Hid.mk' (findU_any s S g id _ (h.stay hbA) (by have := ok.few; omega))
  rw [Sp.pl_some hp] at HI
  have HB := Hid.mk' hbA
  have HA := Hid.mk' h
  have hk := ok.all _ (List.getElem_mem hi)
  have k1 := hk.long; have k2 := hk.note; have hfew := ok.few
  have hi' : (i : Int) < s.l.length := by omega
  obtain ⟨u, hu⟩ : ∃ u, s.l[i] = u := ⟨_, rfl⟩
  rw [hu] at k1 k2 ⊢
  have HUE := Hid.mk' hu
  clear h ok hp hbA hk hu
  go_enter Tryz.func80, Tryz.ntmps80
  go_wp2_with fail
  refine HI.out.mono ?_
  rintro e w1 ⟨rfl, hb⟩
  have hb2 := then_ HB.out hb
  obtain ⟨gu, hgu⟩ := RowAt.of (HA.out.stay hb2) hi
  obtain ⟨q, h0, h1, h2, h3, h4, hf, hIB⟩ := RowAt.up (HA.out.stay hb2) hgu hi
  rw [HUE.out] at h0 h1 h2 h3 h4 hIB
  obtain ⟨cap, hcap, hc⟩ := hgu
  have HC := Hid.mk' (cloneU_any u.id u.size u.sent u.note q.bo u.bytes.length q.bcap u.bytes w1 hIB rfl (by omega) (by omega))
  have hr : w1.heap[w.heap.size]? = some (.cells #[.int .i64 0, .int .i64 0, .string ⟨#[]⟩, .slice none 0 0, .int .i64 0] 67 (0, 0)) := (hb.block w.heap.size (by simp)).trans (heap_alloc_new w _)
  have hlw : w.heap.size < w1.heap.size := (Array.getElem?_eq_some_iff.1 hr).1
  have HB2 := Hid.mk' hb2; have HR := Hid.mk' hr
  clear hb hb2 hr hf hIB HA HI HB
  go_wp2_with fail
  refine HC.out.mono ?_
  rintro e w3 ⟨ao', cap', rfl, hO, hb3⟩
  have hb4 := then_ HB2.out hb3
  have hr := (hb3.block w.heap.size hlw).trans HR.out
  have z0 := cell_of_row w3 _ 0 _ _ _ hr; have z1 := cell_of_row w3 _ 1 _ _ _ hr; have z2 := cell_of_row w3 _ 2 _ _ _ hr; have z3 := cell_of_row w3 _ 3 _ _ _ hr; have z4 := cell_of_row w3 _ 4 _ _ _ hr
  have y0 := frozen_of_row w3 _ 0 _ _ hr; have y1 := frozen_of_row w3 _ 1 _ _ hr; have y2 := frozen_of_row w3 _ 2 _ _ hr; have y3 := frozen_of_row w3 _ 3 _ _ hr; have y4 := frozen_of_row w3 _ 4 _ _ hr
  simp at z0 z1 z2 z3 z4
  have HB4 := Hid.mk' hb4; have HR4 := Hid.mk' hr; have HO := Hid.mk' hO
  clear hb4 hr hb3 hO HR HC
  go_wp2
  have hb6 := ((((HB4.out.setCell (p := ⟨w.heap.size, 0, none⟩) (Nat.le_refl _) (.int .i64 u.id)).setCell (p := ⟨w.heap.size, 1, none⟩) (Nat.le_refl _) (.int .i64 u.size)).setCell (p := ⟨w.heap.size, 2, none⟩) (Nat.le_refl _) (.string u.note)).setCell (p := ⟨w.heap.size, 3, none⟩) (Nat.le_refl _) (.slice ao' u.bytes.length cap')).setCell (p := ⟨w.heap.size, 4, none⟩) (Nat.le_refl _) (.int .i64 u.sent)
  have hr6 := heap_setCell_same _ _ 4 _ _ (.int .i64 u.sent) (heap_setCell_same _ _ 3 _ _ (.slice ao' u.bytes.length cap') (heap_setCell_same _ _ 2 _ _ (.string u.note) (heap_setCell_same _ _ 1 _ _ (.int .i64 u.size) (heap_setCell_same _ _ 0 _ _ (.int .i64 u.id) HR4.out))))
  have hO6 := (HO.out.turns (turns_setCells w.heap.size [.int .i64 u.id, .int .i64 u.size, .string u.note, .slice ao' u.bytes.length cap', .int .i64 u.sent] 0 w3) (fun k e h => by subst h; omega)).isB
  change IsB (((((w3.setCell ⟨w.heap.size, 0, none⟩ (Value.int .i64 u.id)).setCell ⟨w.heap.size, 1, none⟩ (Value.int .i64 u.size)).setCell ⟨w.heap.size, 2, none⟩ (Value.string u.note)).setCell ⟨w.heap.size, 3, none⟩ (Value.slice ao' u.bytes.length cap')).setCell ⟨w.heap.size, 4, none⟩ (Value.int .i64 u.sent)) _ _ _ at hO6
  generalize (((((w3.setCell ⟨w.heap.size, 0, none⟩ (Value.int .i64 u.id)).setCell ⟨w.heap.size, 1, none⟩ (Value.int .i64 u.size)).setCell ⟨w.heap.size, 2, none⟩ (Value.string u.note)).setCell ⟨w.heap.size, 3, none⟩ (Value.slice ao' u.bytes.length cap')).setCell ⟨w.heap.size, 4, none⟩ (Value.int .i64 u.sent)) = w6 at hb6 hr6 hO6 ⊢
  have r0 : w6.cell? ⟨w.heap.size, 0, none⟩ = some (.int .i64 u.id) := cell_of_row w6 _ 0 _ _ _ hr6
  have r1 : w6.cell? ⟨w.heap.size, 1, none⟩ = some (.int .i64 u.size) := cell_of_row w6 _ 1 _ _ _ hr6
  have r2 : w6.cell? ⟨w.heap.size, 2, none⟩ = some (.string u.note) := cell_of_row w6 _ 2 _ _ _ hr6
  have r3 : w6.cell? ⟨w.heap.size, 3, none⟩ = some (.slice ao' u.bytes.length cap') := cell_of_row w6 _ 3 _ _ _ hr6
  have r4 : w6.cell? ⟨w.heap.size, 4, none⟩ = some (.int .i64 u.sent) := cell_of_row w6 _ 4 _ _ _ hr6
  refine bodyPost_ret (v := .tuple #[.agg #[.int .i64 u.id, .int .i64 u.size, .string u.note, .slice ao' u.bytes.length cap', .int .i64 u.sent], .bool true]) (by simp [results, Tryz.results80, go_sem, r0, r1, r2, r3, r4]) rfl ⟨ao', cap', rfl, hO6, hb6⟩
end Go.Proofs.YtdclmpdjjkjfjaaGreatDoor

/- Package store, walked: step, by each closure that is handed to it. -/
namespace Go.Proofs.YtdclmpdjjkjfjaaGreatDoor
open Go.RowKit

theorem encOut_no {x : Jn.E} (h : Jn.fits x = false) : encOut x = ([], 1) := by unfold encOut; rw [if_neg (by simp [h])]
theorem encOut_yes {x : Jn.E} (h : Jn.fits x = true) : encOut x = (Jn.enc x, 0) := by unfold encOut; rw [if_pos h]
theorem small_of {s : Sp.St} (ok : Sp.Ok s) : SmallU s.l := Sp.Ok.small ok
set_option maxRecDepth 100000 in
set_option maxHeartbeats 1600000 in
theorem step_drp (s : Sr.Sh) (S : Nat → Prop) (g b1 : Nat) (x : Jn.E) (ta : Option Addr) (tn tc : Nat) (r : Sp.St × Nat) (w : World) (h : StAt w S g s) (ok : Sr.Ok s) (hT : IsB w ta tc x.text) (hn : x.text.length = tn)
    (hF : ∀ W g', Below w.heap.size w W → w.heap.size + 1 ≤ W.heap.size → SpoolAt W (fun k => w.heap.size + 1 ≤ k) g' s.h → Calls Tryz.prog 117 #[.pointer (some ⟨g', 0, none⟩), .pointer (some ⟨b1, 0, none⟩)] W (Did (fun k => w.heap.size + 1 ≤ k) 88 W g' r)) :
    Calls Tryz.prog 106 #[.pointer (some ⟨g, 0, none⟩), .agg #[.int .i64 x.kind, .int .i64 x.id, .int .i64 x.n, .slice ta tn tc], .func (.func 117) #[] #[.pointer (some ⟨b1, 0, none⟩)]] w (StDid S w g (Sr.write s r x)) := by
  obtain ⟨gs, gl, ao, ca, P, hI⟩ := h
  have hbA := (Below.refl _ w).alloc (Nat.le_refl _) (.cells #[.int .i64 x.kind, .int .i64 x.id, .int .i64 x.n, .slice ta tn tc] 121)
  have hI1 := hI.stay hbA
  obtain ⟨⟨c0, c1⟩, _⟩ := row2 hI1.row
  have HC := Hid.mk' (copyU_any s.h P gs _ hI1.spool (small_of ok.h))
  have HI := Hid.mk' hI; have HBA := Hid.mk' hbA; have HF := Hid.mk' hF; have HT := Hid.mk' hT
  have hlt := hI.lt
  clear hI hI1 hbA hF hT
  go_enter Tryz.func106, Tryz.ntmps106
  go_wp2_with fail
  refine HC.out.mono ?_
  rintro e w2 ⟨g', rfl, hS2, hb2⟩
  have hB2 : Below w.heap.size w w2 := then_ HBA.out hb2
  have HD := Hid.mk' (HF.out w2 g' hB2 (by have := hb2.size; simpa using this) (hS2.mono (fun k _ e => by simpa using e)))
  have HB2 := Hid.mk' hB2; have Hb2 := Hid.mk' hb2
  clear hS2 hb2 hB2 HC HF c0 c1
  go_wp2_with fail
  refine HD.out.mono ?_
  intro e w3 hd
  have hsz2 := Hb2.out.size
  have hs3 : w.heap.size + 1 ≤ w2.heap.size := by simpa using hsz2
  obtain ⟨he, hS3, hb3⟩ := hd.new_ hs3
  have hbx : Below (w.heap.size + 1) (w.alloc (.cells #[.int .i64 x.kind, .int .i64 x.id, .int .i64 x.n, .slice ta tn tc] 121)) w3 := (Hb2.out.mono (by simp)).trans hb3
  have hB3 : Below w.heap.size w w3 := HB2.out.trans (hb3.mono (Nat.le_succ _))
  obtain ⟨x0, x1, x2, x3⟩ := cells4 (Nat.lt_succ_self _) hbx
  have HB3 := Hid.mk' hB3; have HS3 := Hid.mk' hS3
  clear hd hS3 hb3 hbx hB3 hsz2 hs3 HD HB2 Hb2
  subst he
  by_cases hc : r.2 = 0
  · have HX := Hid.mk' (encode_any x ta tn tc w3 (HT.out.stay HB3.out) hn)
    rw [hc]
    cases hf : Jn.fits x with
    | false =>
      have HR : Hid (∀ W, Below w.heap.size w W → StDid S w g (Sr.write s r x) (.returned (.int .i64 (1 : Nat))) W) := fun W hb => StDid.none_ ⟨gs, gl, ao, ca, P, HI.out⟩ hb (Sr.write_bad hc hf)
      unfold EncPost at HX
      rw [encOut_no hf] at HX
      clear hc hf HI
      go_wp2_with fail
      refine HX.out.mono ?_
      rintro e w4 ⟨ao4, ca4, rfl, _, hb4⟩
      have HB4 := Hid.mk' (then_ HB3.out hb4)
      clear hb4
      go_wp2
      go_ret
      exact HR.out _ HB4.out
    | true =>
      unfold EncPost at HX
      rw [encOut_yes hf] at HX
      have hlx : (Jn.enc x).length ≤ 1048600 := by have := Jn.enc_len hf; have := Jn.inn_len hf; omega
      by_cases hl : 100000 < s.log.length + (Jn.enc x).length
      · have HR : Hid (∀ W, Below w.heap.size w W → StDid S w g (Sr.write s r x) (.returned (.int .i64 (16 : Nat))) W) := fun W hb => StDid.none_ ⟨gs, gl, ao, ca, P, HI.out⟩ hb (Sr.write_full hc hf hl)
        have HL := Hid.mk' (show ¬ s.log.length + (Jn.enc x).length ≤ 100000 by omega)
        clear hc hf hl
        generalize Jn.enc x = y at *
        go_wp2_with fail
        refine HX.out.mono ?_
        rintro e w4 ⟨ao4, ca4, rfl, _, hb4⟩
        have hB4 := then_ HB3.out hb4
        have hI4 := HI.out.stay hB4
        obtain ⟨⟨c0, c1⟩, _⟩ := row2 hI4.row
        have HW := Hid.mk' (writeLog_no hI4.log ao4 ca4 y.length HL.out)
        have HB4 := Hid.mk' hB4
        clear hb4 hB4 hI4
        go_wp2_with fail
        refine HW.out.mono ?_
        rintro e w5 ⟨rfl, hw5⟩
        rw [hw5]; clear hw5
        go_wp2
        go_ret
        exact HR.out _ HB4.out
      · have HR : Hid (∀ W, StAt W (orNew S w) g ⟨r.1, s.log ++ Jn.enc x, s.sure⟩ → Turns S w W → StDid S w g (Sr.write s r x) (.returned (.int .i64 0)) W) := fun W h1 h2 => by
          rw [Sr.write_yes hc hf hl]; exact ⟨rfl, h1, h2⟩
        have HL := Hid.mk' (show s.log.length + (Jn.enc x).length ≤ 100000 by omega)
        clear hc hf hl
        generalize Jn.enc x = y at *
        go_wp2_with fail
        refine HX.out.mono ?_
        rintro e w4 ⟨ao4, ca4, rfl, hO4, hb4⟩
        have hB4 := then_ HB3.out hb4
        have hI4 := HI.out.stay hB4
        obtain ⟨⟨c0, c1⟩, _⟩ := row2 hI4.row
        have HW := Hid.mk' (writeLog_yes hI4.log ao4 ca4 y.length y hO4.isB rfl HL.out)
        have HS4 := Hid.mk' (((HS3.out.stay hb4).mono (S' := fun k => w.heap.size ≤ k) (fun k _ e => Nat.le_of_succ_le e)))
        have HB4 := Hid.mk' hB4
        clear hb4 hB4 hI4 hO4
        go_wp2_with fail
        refine HW.out.mono ?_
        rintro e w5 ⟨ao5, ca5, rfl, hL5, ht5, hat5⟩
        obtain ⟨hr5, hA, hTu⟩ := HI.out.laid HB4.out HS4.out hL5 ht5 hat5
        obtain ⟨⟨y0, y1⟩, z0, z1⟩ := row2 hr5
        have HA := Hid.mk' hA; have HTu := Hid.mk' hTu
        clear hL5 ht5 hat5 hr5 hA hTu c0 c1
        go_wp2
        go_ret
        exact HR.out _ HA.out HTu.out
  · have HR : Hid (StDid S w g (Sr.write s r x) (.returned (.int .i64 (r.2 : Int))) w3) := StDid.none_ ⟨gs, gl, ao, ca, P, HI.out⟩ HB3.out (Sr.write_code hc)
    have hc' : ¬ (r.2 : Int) = 0 := by omega
    clear hc
    generalize (r.2 : Int) = rc at *
    go_wp2
    go_ret
    exact HR.out
set_option maxRecDepth 100000 in
set_option maxHeartbeats 1600000 in
theorem step_dec (s : Sr.Sh) (S : Nat → Prop) (g b1 b2 : Nat) (x : Jn.E) (ta : Option Addr) (tn tc : Nat) (r : Sp.St × Nat) (w : World) (h : StAt w S g s) (ok : Sr.Ok s) (hT : IsB w ta tc x.text) (hn : x.text.length = tn)
    (hF : ∀ W g', Below w.heap.size w W → w.heap.size + 1 ≤ W.heap.size → SpoolAt W (fun k => w.heap.size + 1 ≤ k) g' s.h → Calls Tryz.prog 116 #[.pointer (some ⟨g', 0, none⟩), .pointer (some ⟨b1, 0, none⟩), .pointer (some ⟨b2, 0, none⟩)] W (Did (fun k => w.heap.size + 1 ≤ k) 88 W g' r)) :
    Calls Tryz.prog 106 #[.pointer (some ⟨g, 0, none⟩), .agg #[.int .i64 x.kind, .int .i64 x.id, .int .i64 x.n, .slice ta tn tc], .func (.func 116) #[] #[.pointer (some ⟨b1, 0, none⟩), .pointer (some ⟨b2, 0, none⟩)]] w (StDid S w g (Sr.write s r x)) := by
  obtain ⟨gs, gl, ao, ca, P, hI⟩ := h
  have hbA := (Below.refl _ w).alloc (Nat.le_refl _) (.cells #[.int .i64 x.kind, .int .i64 x.id, .int .i64 x.n, .slice ta tn tc] 121)
  have hI1 := hI.stay hbA
  obtain ⟨⟨c0, c1⟩, _⟩ := row2 hI1.row
  have HC := Hid.mk' (copyU_any s.h P gs _ hI1.spool (small_of ok.h))
  have HI := Hid.mk' hI; have HBA := Hid.mk' hbA; have HF := Hid.mk' hF; have HT := Hid.mk' hT
  have hlt := hI.lt
  clear hI hI1 hbA hF hT
  go_enter Tryz.func106, Tryz.ntmps106
  go_wp2_with fail
  refine HC.out.mono ?_
  rintro e w2 ⟨g', rfl, hS2, hb2⟩
  have hB2 : Below w.heap.size w w2 := then_ HBA.out hb2
  have HD := Hid.mk' (HF.out w2 g' hB2 (by have := hb2.size; simpa using this) (hS2.mono (fun k _ e => by simpa using e)))
  have HB2 := Hid.mk' hB2; have Hb2 := Hid.mk' hb2
  clear hS2 hb2 hB2 HC HF c0 c1
  go_wp2_with fail
  refine HD.out.mono ?_
  intro e w3 hd
  have hsz2 := Hb2.out.size
  have hs3 : w.heap.size + 1 ≤ w2.heap.size := by simpa using hsz2
  obtain ⟨he, hS3, hb3⟩ := hd.new_ hs3
  have hbx : Below (w.heap.size + 1) (w.alloc (.cells #[.int .i64 x.kind, .int .i64 x.id, .int .i64 x.n, .slice ta tn tc] 121)) w3 := (Hb2.out.mono (by simp)).trans hb3
  have hB3 : Below w.heap.size w w3 := HB2.out.trans (hb3.mono (Nat.le_succ _))
  obtain ⟨x0, x1, x2, x3⟩ := cells4 (Nat.lt_succ_self _) hbx
  have HB3 := Hid.mk' hB3; have HS3 := Hid.mk' hS3
  clear hd hS3 hb3 hbx hB3 hsz2 hs3 HD HB2 Hb2
  subst he
  by_cases hc : r.2 = 0
  · have HX := Hid.mk' (encode_any x ta tn tc w3 (HT.out.stay HB3.out) hn)
    rw [hc]
    cases hf : Jn.fits x with
    | false =>
      have HR : Hid (∀ W, Below w.heap.size w W → StDid S w g (Sr.write s r x) (.returned (.int .i64 (1 : Nat))) W) := fun W hb => StDid.none_ ⟨gs, gl, ao, ca, P, HI.out⟩ hb (Sr.write_bad hc hf)
      unfold EncPost at HX
      rw [encOut_no hf] at HX
      clear hc hf HI
      go_wp2_with fail
      refine HX.out.mono ?_
      rintro e w4 ⟨ao4, ca4, rfl, _, hb4⟩
      have HB4 := Hid.mk' (then_ HB3.out hb4)
      clear hb4
      go_wp2
      go_ret
      exact HR.out _ HB4.out
    | true =>
      unfold EncPost at HX
      rw [encOut_yes hf] at HX
      have hlx : (Jn.enc x).length ≤ 1048600 := by have := Jn.enc_len hf; have := Jn.inn_len hf; omega
      by_cases hl : 100000 < s.log.length + (Jn.enc x).length
      · have HR : Hid (∀ W, Below w.heap.size w W → StDid S w g (Sr.write s r x) (.returned (.int .i64 (16 : Nat))) W) := fun W hb => StDid.none_ ⟨gs, gl, ao, ca, P, HI.out⟩ hb (Sr.write_full hc hf hl)
        have HL := Hid.mk' (show ¬ s.log.length + (Jn.enc x).length ≤ 100000 by omega)
        clear hc hf hl
        generalize Jn.enc x = y at *
        go_wp2_with fail
        refine HX.out.mono ?_
        rintro e w4 ⟨ao4, ca4, rfl, _, hb4⟩
        have hB4 := then_ HB3.out hb4
        have hI4 := HI.out.stay hB4
        obtain ⟨⟨c0, c1⟩, _⟩ := row2 hI4.row
        have HW := Hid.mk' (writeLog_no hI4.log ao4 ca4 y.length HL.out)
        have HB4 := Hid.mk' hB4
        clear hb4 hB4 hI4
        go_wp2_with fail
        refine HW.out.mono ?_
        rintro e w5 ⟨rfl, hw5⟩
        rw [hw5]; clear hw5
        go_wp2
        go_ret
        exact HR.out _ HB4.out
      · have HR : Hid (∀ W, StAt W (orNew S w) g ⟨r.1, s.log ++ Jn.enc x, s.sure⟩ → Turns S w W → StDid S w g (Sr.write s r x) (.returned (.int .i64 0)) W) := fun W h1 h2 => by
          rw [Sr.write_yes hc hf hl]; exact ⟨rfl, h1, h2⟩
        have HL := Hid.mk' (show s.log.length + (Jn.enc x).length ≤ 100000 by omega)
        clear hc hf hl
        generalize Jn.enc x = y at *
        go_wp2_with fail
        refine HX.out.mono ?_
        rintro e w4 ⟨ao4, ca4, rfl, hO4, hb4⟩
        have hB4 := then_ HB3.out hb4
        have hI4 := HI.out.stay hB4
        obtain ⟨⟨c0, c1⟩, _⟩ := row2 hI4.row
        have HW := Hid.mk' (writeLog_yes hI4.log ao4 ca4 y.length y hO4.isB rfl HL.out)
        have HS4 := Hid.mk' (((HS3.out.stay hb4).mono (S' := fun k => w.heap.size ≤ k) (fun k _ e => Nat.le_of_succ_le e)))
        have HB4 := Hid.mk' hB4
        clear hb4 hB4 hI4 hO4
        go_wp2_with fail
        refine HW.out.mono ?_
        rintro e w5 ⟨ao5, ca5, rfl, hL5, ht5, hat5⟩
        obtain ⟨hr5, hA, hTu⟩ := HI.out.laid HB4.out HS4.out hL5 ht5 hat5
        obtain ⟨⟨y0, y1⟩, z0, z1⟩ := row2 hr5
        have HA := Hid.mk' hA; have HTu := Hid.mk' hTu
        clear hL5 ht5 hat5 hr5 hA hTu c0 c1
        go_wp2
        go_ret
        exact HR.out _ HA.out HTu.out
  · have HR : Hid (StDid S w g (Sr.write s r x) (.returned (.int .i64 (r.2 : Int))) w3) := StDid.none_ ⟨gs, gl, ao, ca, P, HI.out⟩ HB3.out (Sr.write_code hc)
    have hc' : ¬ (r.2 : Int) = 0 := by omega
    clear hc
    generalize (r.2 : Int) = rc at *
    go_wp2
    go_ret
    exact HR.out
set_option maxRecDepth 100000 in
set_option maxHeartbeats 1600000 in
theorem step_app (s : Sr.Sh) (S : Nat → Prop) (g b1 b2 b3 : Nat) (x : Jn.E) (ta : Option Addr) (tn tc : Nat) (r : Sp.St × Nat) (w : World) (h : StAt w S g s) (ok : Sr.Ok s) (hT : IsB w ta tc x.text) (hn : x.text.length = tn)
    (hF : ∀ W g', Below w.heap.size w W → w.heap.size + 1 ≤ W.heap.size → SpoolAt W (fun k => w.heap.size + 1 ≤ k) g' s.h → Calls Tryz.prog 115 #[.pointer (some ⟨g', 0, none⟩), .pointer (some ⟨b1, 0, none⟩), .pointer (some ⟨b2, 0, none⟩), .pointer (some ⟨b3, 0, none⟩)] W (Did (fun k => w.heap.size + 1 ≤ k) 88 W g' r)) :
    Calls Tryz.prog 106 #[.pointer (some ⟨g, 0, none⟩), .agg #[.int .i64 x.kind, .int .i64 x.id, .int .i64 x.n, .slice ta tn tc], .func (.func 115) #[] #[.pointer (some ⟨b1, 0, none⟩), .pointer (some ⟨b2, 0, none⟩), .pointer (some ⟨b3, 0, none⟩)]] w (StDid S w g (Sr.write s r x)) := by
  obtain ⟨gs, gl, ao, ca, P, hI⟩ := h
  have hbA := (Below.refl _ w).alloc (Nat.le_refl _) (.cells #[.int .i64 x.kind, .int .i64 x.id, .int .i64 x.n, .slice ta tn tc] 121)
  have hI1 := hI.stay hbA
  obtain ⟨⟨c0, c1⟩, _⟩ := row2 hI1.row
  have HC := Hid.mk' (copyU_any s.h P gs _ hI1.spool (small_of ok.h))
  have HI := Hid.mk' hI; have HBA := Hid.mk' hbA; have HF := Hid.mk' hF; have HT := Hid.mk' hT
  have hlt := hI.lt
  clear hI hI1 hbA hF hT
  go_enter Tryz.func106, Tryz.ntmps106
  go_wp2_with fail
  refine HC.out.mono ?_
  rintro e w2 ⟨g', rfl, hS2, hb2⟩
  have hB2 : Below w.heap.size w w2 := then_ HBA.out hb2
  have HD := Hid.mk' (HF.out w2 g' hB2 (by have := hb2.size; simpa using this) (hS2.mono (fun k _ e => by simpa using e)))
  have HB2 := Hid.mk' hB2; have Hb2 := Hid.mk' hb2
  clear hS2 hb2 hB2 HC HF c0 c1
  go_wp2_with fail
  refine HD.out.mono ?_
  intro e w3 hd
  have hsz2 := Hb2.out.size
  have hs3 : w.heap.size + 1 ≤ w2.heap.size := by simpa using hsz2
  obtain ⟨he, hS3, hb3⟩ := hd.new_ hs3
  have hbx : Below (w.heap.size + 1) (w.alloc (.cells #[.int .i64 x.kind, .int .i64 x.id, .int .i64 x.n, .slice ta tn tc] 121)) w3 := (Hb2.out.mono (by simp)).trans hb3
  have hB3 : Below w.heap.size w w3 := HB2.out.trans (hb3.mono (Nat.le_succ _))
  obtain ⟨x0, x1, x2, x3⟩ := cells4 (Nat.lt_succ_self _) hbx
  have HB3 := Hid.mk' hB3; have HS3 := Hid.mk' hS3
  clear hd hS3 hb3 hbx hB3 hsz2 hs3 HD HB2 Hb2
  subst he
  by_cases hc : r.2 = 0
  · have HX := Hid.mk' (encode_any x ta tn tc w3 (HT.out.stay HB3.out) hn)
    rw [hc]
    cases hf : Jn.fits x with
    | false =>
      have HR : Hid (∀ W, Below w.heap.size w W → StDid S w g (Sr.write s r x) (.returned (.int .i64 (1 : Nat))) W) := fun W hb => StDid.none_ ⟨gs, gl, ao, ca, P, HI.out⟩ hb (Sr.write_bad hc hf)
      unfold EncPost at HX
      rw [encOut_no hf] at HX
      clear hc hf HI
      go_wp2_with fail
      refine HX.out.mono ?_
      rintro e w4 ⟨ao4, ca4, rfl, _, hb4⟩
      have HB4 := Hid.mk' (then_ HB3.out hb4)
      clear hb4
      go_wp2
      go_ret
      exact HR.out _ HB4.out
    | true =>
      unfold EncPost at HX
      rw [encOut_yes hf] at HX
      have hlx : (Jn.enc x).length ≤ 1048600 := by have := Jn.enc_len hf; have := Jn.inn_len hf; omega
      by_cases hl : 100000 < s.log.length + (Jn.enc x).length
      · have HR : Hid (∀ W, Below w.heap.size w W → StDid S w g (Sr.write s r x) (.returned (.int .i64 (16 : Nat))) W) := fun W hb => StDid.none_ ⟨gs, gl, ao, ca, P, HI.out⟩ hb (Sr.write_full hc hf hl)
        have HL := Hid.mk' (show ¬ s.log.length + (Jn.enc x).length ≤ 100000 by omega)
        clear hc hf hl
        generalize Jn.enc x = y at *
        go_wp2_with fail
        refine HX.out.mono ?_
        rintro e w4 ⟨ao4, ca4, rfl, _, hb4⟩
        have hB4 := then_ HB3.out hb4
        have hI4 := HI.out.stay hB4
        obtain ⟨⟨c0, c1⟩, _⟩ := row2 hI4.row
        have HW := Hid.mk' (writeLog_no hI4.log ao4 ca4 y.length HL.out)
        have HB4 := Hid.mk' hB4
        clear hb4 hB4 hI4
        go_wp2_with fail
        refine HW.out.mono ?_
        rintro e w5 ⟨rfl, hw5⟩
        rw [hw5]; clear hw5
        go_wp2
        go_ret
        exact HR.out _ HB4.out
      · have HR : Hid (∀ W, StAt W (orNew S w) g ⟨r.1, s.log ++ Jn.enc x, s.sure⟩ → Turns S w W → StDid S w g (Sr.write s r x) (.returned (.int .i64 0)) W) := fun W h1 h2 => by
          rw [Sr.write_yes hc hf hl]; exact ⟨rfl, h1, h2⟩
        have HL := Hid.mk' (show s.log.length + (Jn.enc x).length ≤ 100000 by omega)
        clear hc hf hl
        generalize Jn.enc x = y at *
        go_wp2_with fail
        refine HX.out.mono ?_
        rintro e w4 ⟨ao4, ca4, rfl, hO4, hb4⟩
        have hB4 := then_ HB3.out hb4
        have hI4 := HI.out.stay hB4
        obtain ⟨⟨c0, c1⟩, _⟩ := row2 hI4.row
        have HW := Hid.mk' (writeLog_yes hI4.log ao4 ca4 y.length y hO4.isB rfl HL.out)
        have HS4 := Hid.mk' (((HS3.out.stay hb4).mono (S' := fun k => w.heap.size ≤ k) (fun k _ e => Nat.le_of_succ_le e)))
        have HB4 := Hid.mk' hB4
        clear hb4 hB4 hI4 hO4
        go_wp2_with fail
        refine HW.out.mono ?_
        rintro e w5 ⟨ao5, ca5, rfl, hL5, ht5, hat5⟩
        obtain ⟨hr5, hA, hTu⟩ := HI.out.laid HB4.out HS4.out hL5 ht5 hat5
        obtain ⟨⟨y0, y1⟩, z0, z1⟩ := row2 hr5
        have HA := Hid.mk' hA; have HTu := Hid.mk' hTu
        clear hL5 ht5 hat5 hr5 hA hTu c0 c1
        go_wp2
        go_ret
        exact HR.out _ HA.out HTu.out
  · have HR : Hid (StDid S w g (Sr.write s r x) (.returned (.int .i64 (r.2 : Int))) w3) := StDid.none_ ⟨gs, gl, ao, ca, P, HI.out⟩ HB3.out (Sr.write_code hc)
    have hc' : ¬ (r.2 : Int) = 0 := by omega
    clear hc
    generalize (r.2 : Int) = rc at *
    go_wp2
    go_ret
    exact HR.out
set_option maxRecDepth 100000 in
set_option maxHeartbeats 1600000 in
theorem step_cre (s : Sr.Sh) (S : Nat → Prop) (g b1 b2 : Nat) (x : Jn.E) (ta : Option Addr) (tn tc : Nat) (r : Sp.St × Nat) (w : World) (h : StAt w S g s) (ok : Sr.Ok s) (hT : IsB w ta tc x.text) (hn : x.text.length = tn)
    (hF : ∀ W g', Below w.heap.size w W → w.heap.size + 1 ≤ W.heap.size → SpoolAt W (fun k => w.heap.size + 1 ≤ k) g' s.h → Calls Tryz.prog 107 #[.pointer (some ⟨g', 0, none⟩), .pointer (some ⟨b1, 0, none⟩), .pointer (some ⟨b2, 0, none⟩)] W (Did (fun k => w.heap.size + 1 ≤ k) 88 W g' r)) :
    Calls Tryz.prog 106 #[.pointer (some ⟨g, 0, none⟩), .agg #[.int .i64 x.kind, .int .i64 x.id, .int .i64 x.n, .slice ta tn tc], .func (.func 107) #[] #[.pointer (some ⟨b1, 0, none⟩), .pointer (some ⟨b2, 0, none⟩)]] w (StDid S w g (Sr.write s r x)) := by
  obtain ⟨gs, gl, ao, ca, P, hI⟩ := h
  have hbA := (Below.refl _ w).alloc (Nat.le_refl _) (.cells #[.int .i64 x.kind, .int .i64 x.id, .int .i64 x.n, .slice ta tn tc] 121)
  have hI1 := hI.stay hbA
  obtain ⟨⟨c0, c1⟩, _⟩ := row2 hI1.row
  have HC := Hid.mk' (copyU_any s.h P gs _ hI1.spool (small_of ok.h))
  have HI := Hid.mk' hI; have HBA := Hid.mk' hbA; have HF := Hid.mk' hF; have HT := Hid.mk' hT
  have hlt := hI.lt
  clear hI hI1 hbA hF hT
  go_enter Tryz.func106, Tryz.ntmps106
  go_wp2_with fail
  refine HC.out.mono ?_
  rintro e w2 ⟨g', rfl, hS2, hb2⟩
  have hB2 : Below w.heap.size w w2 := then_ HBA.out hb2
  have HD := Hid.mk' (HF.out w2 g' hB2 (by have := hb2.size; simpa using this) (hS2.mono (fun k _ e => by simpa using e)))
  have HB2 := Hid.mk' hB2; have Hb2 := Hid.mk' hb2
  clear hS2 hb2 hB2 HC HF c0 c1
  go_wp2_with fail
  refine HD.out.mono ?_
  intro e w3 hd
  have hsz2 := Hb2.out.size
  have hs3 : w.heap.size + 1 ≤ w2.heap.size := by simpa using hsz2
  obtain ⟨he, hS3, hb3⟩ := hd.new_ hs3
  have hbx : Below (w.heap.size + 1) (w.alloc (.cells #[.int .i64 x.kind, .int .i64 x.id, .int .i64 x.n, .slice ta tn tc] 121)) w3 := (Hb2.out.mono (by simp)).trans hb3
  have hB3 : Below w.heap.size w w3 := HB2.out.trans (hb3.mono (Nat.le_succ _))
  obtain ⟨x0, x1, x2, x3⟩ := cells4 (Nat.lt_succ_self _) hbx
  have HB3 := Hid.mk' hB3; have HS3 := Hid.mk' hS3
  clear hd hS3 hb3 hbx hB3 hsz2 hs3 HD HB2 Hb2
  subst he
  by_cases hc : r.2 = 0
  · have HX := Hid.mk' (encode_any x ta tn tc w3 (HT.out.stay HB3.out) hn)
    rw [hc]
    cases hf : Jn.fits x with
    | false =>
      have HR : Hid (∀ W, Below w.heap.size w W → StDid S w g (Sr.write s r x) (.returned (.int .i64 (1 : Nat))) W) := fun W hb => StDid.none_ ⟨gs, gl, ao, ca, P, HI.out⟩ hb (Sr.write_bad hc hf)
      unfold EncPost at HX
      rw [encOut_no hf] at HX
      clear hc hf HI
      go_wp2_with fail
      refine HX.out.mono ?_
      rintro e w4 ⟨ao4, ca4, rfl, _, hb4⟩
      have HB4 := Hid.mk' (then_ HB3.out hb4)
      clear hb4
      go_wp2
      go_ret
      exact HR.out _ HB4.out
    | true =>
      unfold EncPost at HX
      rw [encOut_yes hf] at HX
      have hlx : (Jn.enc x).length ≤ 1048600 := by have := Jn.enc_len hf; have := Jn.inn_len hf; omega
      by_cases hl : 100000 < s.log.length + (Jn.enc x).length
      · have HR : Hid (∀ W, Below w.heap.size w W → StDid S w g (Sr.write s r x) (.returned (.int .i64 (16 : Nat))) W) := fun W hb => StDid.none_ ⟨gs, gl, ao, ca, P, HI.out⟩ hb (Sr.write_full hc hf hl)
        have HL := Hid.mk' (show ¬ s.log.length + (Jn.enc x).length ≤ 100000 by omega)
        clear hc hf hl
        generalize Jn.enc x = y at *
        go_wp2_with fail
        refine HX.out.mono ?_
        rintro e w4 ⟨ao4, ca4, rfl, _, hb4⟩
        have hB4 := then_ HB3.out hb4
        have hI4 := HI.out.stay hB4
        obtain ⟨⟨c0, c1⟩, _⟩ := row2 hI4.row
        have HW := Hid.mk' (writeLog_no hI4.log ao4 ca4 y.length HL.out)
        have HB4 := Hid.mk' hB4
        clear hb4 hB4 hI4
        go_wp2_with fail
        refine HW.out.mono ?_
        rintro e w5 ⟨rfl, hw5⟩
        rw [hw5]; clear hw5
        go_wp2
        go_ret
        exact HR.out _ HB4.out
      · have HR : Hid (∀ W, StAt W (orNew S w) g ⟨r.1, s.log ++ Jn.enc x, s.sure⟩ → Turns S w W → StDid S w g (Sr.write s r x) (.returned (.int .i64 0)) W) := fun W h1 h2 => by
          rw [Sr.write_yes hc hf hl]; exact ⟨rfl, h1, h2⟩
        have HL := Hid.mk' (show s.log.length + (Jn.enc x).length ≤ 100000 by omega)
        clear hc hf hl
        generalize Jn.enc x = y at *
        go_wp2_with fail
        refine HX.out.mono ?_
        rintro e w4 ⟨ao4, ca4, rfl, hO4, hb4⟩
        have hB4 := then_ HB3.out hb4
        have hI4 := HI.out.stay hB4
        obtain ⟨⟨c0, c1⟩, _⟩ := row2 hI4.row
        have HW := Hid.mk' (writeLog_yes hI4.log ao4 ca4 y.length y hO4.isB rfl HL.out)
        have HS4 := Hid.mk' (((HS3.out.stay hb4).mono (S' := fun k => w.heap.size ≤ k) (fun k _ e => Nat.le_of_succ_le e)))
        have HB4 := Hid.mk' hB4
        clear hb4 hB4 hI4 hO4
        go_wp2_with fail
        refine HW.out.mono ?_
        rintro e w5 ⟨ao5, ca5, rfl, hL5, ht5, hat5⟩
        obtain ⟨hr5, hA, hTu⟩ := HI.out.laid HB4.out HS4.out hL5 ht5 hat5
        obtain ⟨⟨y0, y1⟩, z0, z1⟩ := row2 hr5
        have HA := Hid.mk' hA; have HTu := Hid.mk' hTu
        clear hL5 ht5 hat5 hr5 hA hTu c0 c1
        go_wp2
        go_ret
        exact HR.out _ HA.out HTu.out
  · have HR : Hid (StDid S w g (Sr.write s r x) (.returned (.int .i64 (r.2 : Int))) w3) := StDid.none_ ⟨gs, gl, ao, ca, P, HI.out⟩ HB3.out (Sr.write_code hc)
    have hc' : ¬ (r.2 : Int) = 0 := by omega
    clear hc
    generalize (r.2 : Int) = rc at *
    go_wp2
    go_ret
    exact HR.out
end Go.Proofs.YtdclmpdjjkjfjaaGreatDoor

/- Package store, walked: New, Sync, Log. -/
namespace Go.Proofs.YtdclmpdjjkjfjaaGreatDoor
open Go.RowKit

theorem newSt_any (w : World) :
    Calls Tryz.prog 8 #[] w fun e w' => ∃ g, e = .returned (.pointer (some ⟨g, 0, none⟩)) ∧ StAt w' (fun k => w.heap.size ≤ k) g Sr.new ∧ Below w.heap.size w w' := by
  have H0 := Hid.mk' (newU_any w)
  have H1 := Hid.mk' (fun W => newLog_any W)
  go_enter Tryz.func8, Tryz.ntmps8
  go_wp2_with fail
  refine H0.out.mono ?_
  rintro e w1 ⟨rfl, hS, hb⟩
  have hs := hS.lt
  have HS := Hid.mk' hS; have HB := Hid.mk' hb
  clear hS hb
  go_wp2_with fail
  refine (H1.out w1).mono ?_
  rintro e w2 ⟨rfl, hL, hb2⟩
  have hs2 := hL.lt
  have hz := hb2.size
  have hsz := HB.out.size
  have HB2 := Hid.mk' (then_ HB.out hb2)
  have HX : Hid (StAt (w2.alloc (.cells #[.pointer (some ⟨w.heap.size, 0, none⟩), .pointer (some ⟨w1.heap.size, 0, none⟩)] 48)) (fun k => w.heap.size ≤ k) w2.heap.size Sr.new ∧ Below w.heap.size w (w2.alloc (.cells #[.pointer (some ⟨w.heap.size, 0, none⟩), .pointer (some ⟨w1.heap.size, 0, none⟩)] 48))) := by
    have hbA := (Below.refl _ w2).alloc (Nat.le_refl _) (.cells #[.pointer (some ⟨w.heap.size, 0, none⟩), .pointer (some ⟨w1.heap.size, 0, none⟩)] 48)
    have hl0 : LogAt w2 0 w1.heap.size [] 0 none 0 := ⟨hL.row, OwnB.nil _ _ _, Nat.zero_le _, hL.le, hL.few⟩
    refine ⟨⟨w.heap.size, w1.heap.size, none, 0, fun k => w.heap.size ≤ k ∧ k < w1.heap.size, heap_alloc_new w2 _, ((HS.out.mono (S' := fun k => w.heap.size ≤ k ∧ k < w1.heap.size) (fun k hk e => ⟨e, hk⟩)).stay hb2).stay hbA, hl0.stay hbA, HB2.out.size, fun k e => ⟨e.1, by omega, fun e2 => ?_⟩, fun k e => ?_⟩, then_ HB2.out hbA⟩
    · rcases e2 with e2 | e2
      · omega
      · cases e2
    · rcases e with e | e
      · exact ⟨by show w.heap.size ≤ k; omega, by omega⟩
      · cases e
  clear hL hb2 hz hsz HB HB2 HS
  go_wp2
  go_ret
  exact ⟨_, rfl, HX.out.1, HX.out.2⟩
section
variable {s : Sr.Sh} {S : Nat → Prop} {g : Nat} {w : World}
theorem StIn.turned {w' : World} {gs gl : Nat} {ao : Option Addr} {ca : Nat} {P : Nat → Prop} {log' : List UInt8} {sure' : Nat} (h : StIn w S g gs gl ao ca P s) (hL : LogAt w' 0 gl log' sure' ao ca) (ht : Turns (fun k => k = gl) w w') : StIn w' S g gs gl ao ca P ⟨s.h, log', sure'⟩ ∧ Turns S w w' :=
  ⟨⟨ht.row h.row (fun e => (h.inL gl (Or.inl rfl)).2 e.symm), h.spool.turns ht (fun k e e2 => (h.inP k e).2.2 (Or.inl e2)), hL, h.self, h.inP, h.inL⟩, ht.mono (fun k e => by subst e; exact (h.inL _ (Or.inl rfl)).1)⟩
theorem syncSt_any (h : StAt w S g s) :
    Calls Tryz.prog 76 #[.pointer (some ⟨g, 0, none⟩)] w fun e w' => e = .returned (.tuple #[]) ∧ StAt w' S g (Sr.sync s) ∧ Turns S w w' := by
  obtain ⟨gs, gl, ao, ca, P, hI⟩ := h
  obtain ⟨⟨c0, c1⟩, _⟩ := row2 hI.row
  have HR := Hid.mk' (syncLog_any hI.log)
  have HI := Hid.mk' hI
  clear hI
  go_enter Tryz.func76, Tryz.ntmps76
  go_wp2_with fail
  refine HR.out.mono ?_
  rintro e w1 ⟨rfl, hL, ht⟩
  obtain ⟨h1, h2⟩ := HI.out.turned hL ht
  have HX : Hid (StAt w1 S g (Sr.sync s) ∧ Turns S w w1) := ⟨⟨gs, gl, ao, ca, P, h1⟩, h2⟩
  clear hL ht h1 h2
  go_wp2
  go_end0
  exact ⟨rfl, HX.out.1, HX.out.2⟩
set_option maxHeartbeats 800000 in
theorem logSt_any (h : StAt w S g s) :
    Calls Tryz.prog 12 #[.pointer (some ⟨g, 0, none⟩)] w fun e w' => ∃ ao' ca', e = .returned (.tuple #[.slice ao' s.log.length ca', .int .i64 (s.sure : Int)]) ∧ IsB w' ao' ca' s.log ∧ Below w.heap.size w w' := by
  have hlt := h.lt
  obtain ⟨gs, gl, ao, ca, P, hI⟩ := h
  obtain ⟨⟨c0, c1⟩, _⟩ := row2 hI.row
  have HB := Hid.mk' (bytesLog_any (hI.log.stay (below_drew w.heap.size w)))
  have HS : Hid (∀ W, Below w.heap.size w W → Calls Tryz.prog 38 #[.pointer (some ⟨gl, 0, none⟩)] W fun e w' => e = .returned (.int .i64 (s.sure : Int)) ∧ w' = W) := fun W hW => sureLog_any (hI.log.stay hW)
  have HC : Hid (∀ W, Below w.heap.size w W → W.cell? ⟨g, 1, none⟩ = some (.pointer (some ⟨gl, 0, none⟩))) := fun W hW => (hW.cell (p := ⟨g, 1, none⟩) hlt).trans c1
  have HB0 := Hid.mk' (below_drew w.heap.size w)
  clear hI c0
  generalize s.log.length = n at *
  go_enter Tryz.func12, Tryz.ntmps12
  go_wp2_with fail
  go_region_held3 (fun w' => w'.cell? ⟨g, 1, none⟩ = some (.pointer (some ⟨gl, 0, none⟩))) (go_keep) (first | (go_at_call 37; refine HB.out.mono ?_; rintro e w1 ⟨ao', ca', rfl, hb1, hb2⟩; have hb3 := HB0.out.trans hb2; have c1' := HC.out w1 hb3; have HX1 := Hid.mk' hb1; have HX2 := Hid.mk' hb3; clear hb1 hb2 hb3) | (go_at_call 38; refine (HS.out _ (by first | with_reducible exact HB0.out | with_reducible exact HX2.out)).mono ?_; rintro e w1 ⟨rfl, hw⟩; rw [hw]; clear hw))
  all_goals
    go_wp2
    go_ret2
    exact ⟨_, _, rfl, HX1.out, HX2.out⟩
end
end Go.Proofs.YtdclmpdjjkjfjaaGreatDoor

/- Package store, walked: redo. -/
namespace Go.Proofs.YtdclmpdjjkjfjaaGreatDoor
open Go.RowKit

/-- what became of a spool to which something was done, whatever was answered -/
structure Redid (S : Nat → Prop) (tO : Nat) (w : World) (g : Nat) (s : Sp.St) (w' : World) : Prop where
  at_ : SpAt w' (orNew S w) tO 67 5 g s
  turns : Turns S w w'
theorem Redid.from_ {S : Nat → Prop} {tO g : Nat} {w w1 w' : World} {s : Sp.St} (hb : Below w.heap.size w w1) (h : Redid S tO w1 g s w') : Redid S tO w g s w' := by
  have hsz := hb.size
  refine ⟨h.at_.mono (fun k _ e => ?_), (Turns.of_below hb).trans h.turns (fun _ e _ => e)⟩
  rcases e with e | e
  · exact Or.inl e
  · exact Or.inr (by omega)
theorem played_1 {s : Sp.St} {e : Jn.E} (h : e.kind = 1) : (Sr.played s e).1 = (Sp.create s e.n (Sr.ofL e.text)).1 := by unfold Sr.played; rw [if_pos h]; rfl
theorem played_2 {s : Sp.St} {e : Jn.E} (h : e.kind = 2) : Sr.played s e = Sp.append s e.id (Sr.lenOf s e.id) e.text := by unfold Sr.played; rw [if_neg (by omega), if_pos h]
theorem played_3 {s : Sp.St} {e : Jn.E} (h : e.kind = 3) : Sr.played s e = Sp.declare s e.id e.n := by unfold Sr.played; rw [if_neg (by omega), if_neg (by omega), if_pos h]
theorem played_4 {s : Sp.St} {e : Jn.E} (h : e.kind = 4) : Sr.played s e = Sp.drop s e.id := by unfold Sr.played; rw [if_neg (by omega), if_neg (by omega), if_neg (by omega), if_pos h]
theorem played_5 {s : Sp.St} {e : Jn.E} (h : e.kind = 5) : Sr.played s e = Sp.begins s e.id := by unfold Sr.played; rw [if_neg (by omega), if_neg (by omega), if_neg (by omega), if_neg (by omega), if_pos h]
theorem played_6 {s : Sp.St} {e : Jn.E} (h : e.kind = 6) : Sr.played s e = Sp.ends s e.id := by unfold Sr.played; rw [if_neg (by omega), if_neg (by omega), if_neg (by omega), if_neg (by omega), if_neg (by omega)]
set_option maxRecDepth 100000 in
set_option maxHeartbeats 3200000 in
theorem redo_any (s : Sp.St) (S : Nat → Prop) (g : Nat) (x : Jn.E) (ta : Option Addr) (tn tc : Nat) (w : World) (h : SpoolAt w S g s) (ok : Sp.Ok s) (hl : s.last ≤ 1000000) (hT : IsB w ta tc x.text) (hn : x.text.length = tn) (hN : tn ≤ 1000000) (hk : 1 ≤ x.kind ∧ x.kind ≤ 6) :
    Calls Tryz.prog 70 #[.pointer (some ⟨g, 0, none⟩), .agg #[.int .i64 x.kind, .int .i64 x.id, .int .i64 x.n, .slice ta tn tc]] w fun e w' => e = .returned (.tuple #[]) ∧ Redid S 88 w g (Sr.played s x).1 w' := by
  have hbA := (Below.refl _ w).alloc (Nat.le_refl _) (.cells #[.int .i64 x.kind, .int .i64 x.id, .int .i64 x.n, .slice ta tn tc] 121)
  have h1 := h.stay hbA
  have hT1 := hT.stay hbA
  obtain ⟨⟨x0, x1, x2, x3⟩, _⟩ := row4 (heap_alloc_new w (.cells #[.int .i64 x.kind, .int .i64 x.id, .int .i64 x.n, .slice ta tn tc] 121))
  obtain ⟨W, hW⟩ : ∃ W, (w.alloc (.cells #[.int .i64 x.kind, .int .i64 x.id, .int .i64 x.n, .slice ta tn tc] 121)) = W := ⟨_, rfl⟩
  have hwl : w.heap.size < W.heap.size := by rw [← hW]; simp
  rw [hW] at hbA h1 hT1 x0 x1 x2 x3
  have hcv := hT1.str (P := Tryz.prog) 30 9 5 Tryz.underlying30 Tryz.underlying5 Tryz.underlying9
  rw [hn] at hcv
  have hms : (Sr.ofL x.text).size ≤ 1000000 := by rw [Sr.ofL_size]; omega
  have HB := Hid.mk' hbA
  obtain hk1 | hk1 | hk1 | hk1 | hk1 | hk1 : x.kind = 1 ∨ x.kind = 2 ∨ x.kind = 3 ∨ x.kind = 4 ∨ x.kind = 5 ∨ x.kind = 6 := by omega
  · have HC := Hid.mk' (createU_any s S g x.n (Sr.ofL x.text) W h1 ok hl hms)
    have HP := Hid.mk' (played_1 (s := s) hk1)
    rw [show (⟨x.text.toArray⟩ : ByteArray) = Sr.ofL x.text from rfl] at hcv
    rw [hk1] at x0 hW ⊢
    clear h ok hl hT hn hk hT1 h1 hk1 hbA hms
    generalize Sp.create s x.n (Sr.ofL x.text) = q at *
    generalize Sr.ofL x.text = m at *
    go_enter Tryz.func70, Tryz.ntmps70
    go_wp2_with fail
    refine HC.out.mono ?_
    intro e w2 hd
    have HR : Hid (Redid S 88 w g (Sr.played s x).1 w2) := Redid.from_ HB.out (by rw [HP.out]; exact ⟨hd.at_, hd.turns⟩)
    obtain ⟨rfl, _, _⟩ := hd
    go_wp2
    go_end0
    exact ⟨rfl, HR.out⟩
  · have HP := Hid.mk' (played_2 (s := s) hk1)
    have HA : Hid (∀ w2, Below W.heap.size W w2 → Calls Tryz.prog 100 #[.pointer (some ⟨g, 0, none⟩), .int .i64 x.id, .int .i64 (Sr.lenOf s x.id), .slice ta tn tc] w2 (Did S 88 w2 g (Sp.append s x.id (Sr.lenOf s x.id) x.text))) := fun w2 hb2 => appendU_any s S g x.id _ ta tn tc x.text w2 (h1.stay hb2) ok (hT1.stay hb2) hn hN
    have HCl : Hid (∀ w2, Below W.heap.size W w2 → w2.cell? ⟨w.heap.size, 1, none⟩ = some (.int .i64 x.id) ∧ w2.cell? ⟨w.heap.size, 3, none⟩ = some (.slice ta tn tc)) := fun w2 hb2 => ⟨(hb2.cell (p := ⟨w.heap.size, 1, none⟩) hwl).trans x1, (hb2.cell (p := ⟨w.heap.size, 3, none⟩) hwl).trans x3⟩
    cases hp : Sp.place s.l x.id with
    | none =>
      have HG := Hid.mk' (getU_none s S g x.id W h1 ok hp)
      rw [Sr.lenOf_none hp] at HA HP
      rw [hk1] at x0 hW ⊢
      clear h ok hl hT hn hk hT1 h1 hk1 hbA hms hp hcv
      generalize Sp.append s x.id _ x.text = q at *
      go_enter Tryz.func70, Tryz.ntmps70
      go_wp2_with fail
      refine HG.out.mono ?_
      rintro e w2 ⟨rfl, hb2⟩
      have hbB := (Below.refl _ w2).alloc (Nat.le_refl _) (.cells #[.int .i64 0, .int .i64 0, .string ⟨#[]⟩, .slice none 0 0, .int .i64 0] 67)
      have hb3 := then_ hb2 hbB
      have HC := Hid.mk' (HA.out _ hb3)
      obtain ⟨y1, y3⟩ := HCl.out _ hb3
      have HB3 := Hid.mk' (then_ HB.out hb3)
      clear hb2 hbB hb3 HA HCl x0 x1 x2 x3
      go_wp2_with fail
      refine HC.out.mono ?_
      intro e w4 hd
      have HR : Hid (Redid S 88 w g (Sr.played s x).1 w4) := Redid.from_ HB3.out (by rw [HP.out]; exact ⟨hd.at_, hd.turns⟩)
      obtain ⟨rfl, _, _⟩ := hd
      go_wp2
      go_end0
      exact ⟨rfl, HR.out⟩
    | some i =>
      have hi := Sp.place_lt hp
      have HG := Hid.mk' (getU_some s S g x.id i W h1 ok hp hi)
      have hL : Sr.lenOf s x.id = s.l[i].bytes.length := Sr.lenOf_some hp
      rw [hL] at HA HP
      rw [hk1] at x0 hW ⊢
      clear h ok hl hT hn hk hT1 h1 hk1 hbA hms hp hcv hL
      generalize s.l[i] = u at *
      generalize Sp.append s x.id _ x.text = q at *
      go_enter Tryz.func70, Tryz.ntmps70
      go_wp2_with fail
      refine HG.out.mono ?_
      rintro e w2 ⟨bo, bc, rfl, _, hb2⟩
      have hbB := (Below.refl _ w2).alloc (Nat.le_refl _) (.cells #[.int .i64 u.id, .int .i64 u.size, .string u.note, .slice bo u.bytes.length bc, .int .i64 u.sent] 67)
      have hb3 := then_ hb2 hbB
      have HC := Hid.mk' (HA.out _ hb3)
      obtain ⟨y1, y3⟩ := HCl.out _ hb3
      have HB3 := Hid.mk' (then_ HB.out hb3)
      clear hb2 hbB hb3 HA HCl x0 x1 x2 x3
      go_wp2_with fail
      refine HC.out.mono ?_
      intro e w4 hd
      have HR : Hid (Redid S 88 w g (Sr.played s x).1 w4) := Redid.from_ HB3.out (by rw [HP.out]; exact ⟨hd.at_, hd.turns⟩)
      obtain ⟨rfl, _, _⟩ := hd
      go_wp2
      go_end0
      exact ⟨rfl, HR.out⟩
  · have HC := Hid.mk' (declareU_any s S g x.id x.n W h1 ok)
    have HP := Hid.mk' (played_3 (s := s) hk1)
    rw [hk1] at x0 hW ⊢
    clear h ok hl hT hn hk hT1 h1 hk1 hbA hms hcv
    generalize Sp.declare s x.id x.n = q at *
    go_enter Tryz.func70, Tryz.ntmps70
    go_wp2_with fail
    refine HC.out.mono ?_
    intro e w2 hd
    have HR : Hid (Redid S 88 w g (Sr.played s x).1 w2) := Redid.from_ HB.out (by rw [HP.out]; exact ⟨hd.at_, hd.turns⟩)
    obtain ⟨rfl, _, _⟩ := hd
    go_wp2
    go_end0
    exact ⟨rfl, HR.out⟩
  · have HC := Hid.mk' (dropU_any s S g x.id W h1 ok)
    have HP := Hid.mk' (played_4 (s := s) hk1)
    rw [hk1] at x0 hW ⊢
    clear h ok hl hT hn hk hT1 h1 hk1 hbA hms hcv
    generalize Sp.drop s x.id = q at *
    go_enter Tryz.func70, Tryz.ntmps70
    go_wp2_with fail
    refine HC.out.mono ?_
    intro e w2 hd
    have HR : Hid (Redid S 88 w g (Sr.played s x).1 w2) := Redid.from_ HB.out (by rw [HP.out]; exact ⟨hd.at_, hd.turns⟩)
    obtain ⟨rfl, _, _⟩ := hd
    go_wp2
    go_end0
    exact ⟨rfl, HR.out⟩
  · have HC := Hid.mk' (beginU_any s S g x.id W h1 ok)
    have HP := Hid.mk' (played_5 (s := s) hk1)
    rw [hk1] at x0 hW ⊢
    clear h ok hl hT hn hk hT1 h1 hk1 hbA hms hcv
    generalize Sp.begins s x.id = q at *
    go_enter Tryz.func70, Tryz.ntmps70
    go_wp2_with fail
    refine HC.out.mono ?_
    intro e w2 hd
    have HR : Hid (Redid S 88 w g (Sr.played s x).1 w2) := Redid.from_ HB.out (by rw [HP.out]; exact ⟨hd.at_, hd.turns⟩)
    obtain ⟨rfl, _, _⟩ := hd
    go_wp2
    go_end0
    exact ⟨rfl, HR.out⟩
  · have HC := Hid.mk' (endU_any s S g x.id W h1 ok)
    have HP := Hid.mk' (played_6 (s := s) hk1)
    rw [hk1] at x0 hW ⊢
    clear h ok hl hT hn hk hT1 h1 hk1 hbA hms hcv
    generalize Sp.ends s x.id = q at *
    go_enter Tryz.func70, Tryz.ntmps70
    go_wp2_with fail
    refine HC.out.mono ?_
    intro e w2 hd
    have HR : Hid (Redid S 88 w g (Sr.played s x).1 w2) := Redid.from_ HB.out (by rw [HP.out]; exact ⟨hd.at_, hd.turns⟩)
    obtain ⟨rfl, _, _⟩ := hd
    go_wp2
    go_end0
    exact ⟨rfl, HR.out⟩
end Go.Proofs.YtdclmpdjjkjfjaaGreatDoor

/- Package store, walked: replay, Crash. -/
namespace Go.Proofs.YtdclmpdjjkjfjaaGreatDoor
open Go.RowKit

theorem ens_cap {w : World} {ao : Option Addr} {cap : Nat} {l : List Jn.E} (h : IsEns w ao cap l) : l.length ≤ cap := by
  obtain ⟨us, _, h2, _⟩ := h
  exact h2.1
theorem enc_ge (e : Jn.E) : e.text.length ≤ (Jn.enc e).length := by simp [Jn.enc, Jn.inn]; omega
theorem dec_text {b : List UInt8} {e : Jn.E} (h : e ∈ (Jn.dec b).1) : e.text.length ≤ b.length := by
  obtain ⟨_, h2, h3, _⟩ := Jn.dec_back _ b (Nat.le_refl _)
  have h4 : (Jn.enc e).length ≤ (((Jn.dec b).1.map Jn.enc).flatten).length := (List.sublist_flatten_of_mem (List.mem_map_of_mem h)).length_le
  rw [h3, List.length_take] at h4
  have := enc_ge e
  omega
theorem dec_kind {b : List UInt8} {e : Jn.E} (h : e ∈ (Jn.dec b).1) : 1 ≤ e.kind ∧ e.kind ≤ 6 := by
  obtain ⟨h1, _⟩ := Jn.dec_back _ b (Nat.le_refl _)
  exact ((Jn.fits_iff e).1 (h1 e h)).1
set_option maxHeartbeats 1600000 in
theorem replay_any (l : List Jn.E) (ao : Option Addr) (cap n : Nat) (w : World) (hE : IsEns w ao cap l) (hn : l.length = n) (hN : n ≤ 1000000) (hf : ∀ e ∈ l, (1 ≤ e.kind ∧ e.kind ≤ 6) ∧ e.text.length ≤ 1000000) :
    Calls Tryz.prog 48 #[.slice ao n cap] w fun e w' => ∃ g, e = .returned (.pointer (some ⟨g, 0, none⟩)) ∧ SpoolAt w' (fun k => w.heap.size ≤ k) g (Sr.playAll Sp.new l) ∧ Below w.heap.size w w' := by
  subst hn
  have H0 := Hid.mk' (newU_any w)
  have HE := Hid.mk' hE
  have hcap := ens_cap hE
  have HF := Hid.mk' hf
  clear hE hf
  go_enter Tryz.func48, Tryz.ntmps48
  go_wp2_with fail
  refine H0.out.mono ?_
  rintro e w1 ⟨rfl, hS, hb⟩
  have HS := Hid.mk' hS; have HB := Hid.mk' hb
  clear hS hb
  go_wp2
  go_loopw [9] (fun t wr => ∃ k : Nat, k ≤ l.length ∧ t = .int .i64 k ∧ SpoolAt wr (fun k => w.heap.size ≤ k) w.heap.size (Sr.playAll Sp.new (l.take k)) ∧ Below w.heap.size w wr) (fun t _ => l.length - (intOf t).toNat)
  case atStart => exact ⟨0, Nat.zero_le _, rfl, by rw [List.take_zero]; exact HS.out, HB.out⟩
  case round =>
    obtain ⟨k, hk, rfl, hS, hB⟩ := hrel
    have HSr := Hid.mk' hS; have HBr := Hid.mk' hB
    clear hS hB
    by_cases hlt : k < l.length
    · obtain ⟨bb, oo, q, rfl, hc0, hc1, hc2, hc3, hIB⟩ := (HE.out.stay HBr.out).at_ k hlt
      have hlt' : (k : Int) < l.length := by omega
      have hx := HF.out _ (List.getElem_mem hlt)
      have hbA := (Below.refl _ wr).alloc (Nat.le_refl _) (.cells #[.int .i64 l[k].kind, .int .i64 l[k].id, .int .i64 l[k].n, .slice q.bo l[k].text.length q.bcap] 121)
      have hok : Sp.Ok (Sr.playAll Sp.new (l.take k)) := Sr.playAll_ok _ Sp.Ok.new
      have hla : (Sr.playAll Sp.new (l.take k)).last ≤ 1000000 := by
        have := Sr.playAll_last (l.take k) Sp.new
        rw [List.length_take] at this
        have h0 : Sp.new.last = 0 := rfl
        omega
      have HR := Hid.mk' (redo_any (Sr.playAll Sp.new (l.take k)) (fun k => w.heap.size ≤ k) w.heap.size l[k] q.bo l[k].text.length q.bcap _ (HSr.out.stay hbA) hok hla (hIB.stay hbA) rfl hx.2 hx.1)
      rw [← Sr.playAll_take Sp.new l k hlt] at HR
      have HBA := Hid.mk' hbA
      clear hx hbA hok hla hIB HSr
      generalize l[k] = p at *
      go_wp2_with fail
      refine HR.out.mono ?_
      rintro e w2 ⟨rfl, hd⟩
      have hsz := HBr.out.size
      have hsA := HBA.out.size
      have HX : Hid (SpoolAt w2 (fun k => w.heap.size ≤ k) w.heap.size (Sr.playAll Sp.new (l.take (k + 1))) ∧ Below w.heap.size w w2) := by
        refine ⟨hd.at_.mono (fun j _ e => ?_), (HBr.out.trans (HBA.out.mono hsz)).trans (hd.turns.below (fun j e => e) (by omega))⟩
        rcases e with e | e
        · exact e
        · show w.heap.size ≤ j; omega
      clear hd hsz hsA
      go_wp2
      go_roundw
      case rel => exact ⟨k + 1, by omega, by go_num, HX.out.1, HX.out.2⟩
      case measure => simp [intOf]; omega
    · obtain rfl : k = l.length := by omega
      rw [List.take_length] at HSr
      go_wp2
      go_ret
      exact ⟨_, rfl, HSr.out, HBr.out⟩
/-- what a crash came to -/
structure StFell (S : Nat → Prop) (w : World) (g : Nat) (s : Sr.Sh) (w' : World) : Prop where
  at_ : StAt w' (orNew S w) g s
  turns : Turns S w w'
set_option maxRecDepth 100000 in
set_option maxHeartbeats 1600000 in
theorem crashSt_any {s : Sr.Sh} {S : Nat → Prop} {g : Nat} {w : World} (h : StAt w S g s) (ok : Sr.Ok s) (keep : Int) :
    Calls Tryz.prog 22 #[.pointer (some ⟨g, 0, none⟩), .int .i64 keep] w fun e w' => e = .returned (.tuple #[]) ∧ StFell S w g (Sr.crash s keep) w' := by
  obtain ⟨gs, gl, ao, ca, P, hI⟩ := h
  obtain ⟨⟨c0, c1⟩, _⟩ := row2 hI.row
  have hleft : s.sure + stay_ keep (s.log.length - s.sure) = Sr.left s keep := rfl
  have hll := Sr.left_le ok.sure keep
  have hfew := ok.few
  obtain ⟨hd1, hd2, hd3⟩ := Sr.dec_le s keep
  have HC := Hid.mk' (crashLog_any hI.log keep)
  rw [hleft] at HC
  have hlen : (s.log.take (Sr.left s keep)).length = Sr.left s keep := by rw [List.length_take]; omega
  have HK : Hid (∀ e ∈ (Jn.dec (s.log.take (Sr.left s keep))).1, (1 ≤ e.kind ∧ e.kind ≤ 6) ∧ e.text.length ≤ 1000000) := fun e he => ⟨dec_kind he, by have := dec_text he; omega⟩
  have HCr : Hid (Sr.crash s keep = ⟨Sr.playAll Sp.new (Jn.dec (s.log.take (Sr.left s keep))).1, (s.log.take (Sr.left s keep)).take (Jn.dec (s.log.take (Sr.left s keep))).2, (Jn.dec (s.log.take (Sr.left s keep))).2⟩) := by
    show _ = _
    rw [List.take_take, Nat.min_eq_left hd2]; rfl
  have HI := Hid.mk' hI
  have hn5 : Sr.left s keep ≤ 100000 := by omega
  clear hI hleft hll ok hd1
  generalize s.log.take (Sr.left s keep) = b at *
  generalize Sr.left s keep = n at *
  subst hlen
  clear hfew
  go_enter Tryz.func22, Tryz.ntmps22
  go_wp2_with fail
  refine HC.out.mono ?_
  rintro e w1 ⟨rfl, hL1, ht1⟩
  obtain ⟨hI1, hT1⟩ := HI.out.turned hL1 ht1
  obtain ⟨⟨c0', c1'⟩, _⟩ := row2 hI1.row
  have HBy := Hid.mk' (bytesLog_any hL1)
  have HI1 := Hid.mk' hI1; have HT1 := Hid.mk' hT1
  clear hL1 ht1 hI1 hT1 c0 c1 HC HI
  go_wp2_with fail
  refine HBy.out.mono ?_
  rintro e w2 ⟨ao2, ca2, rfl, hB2, hb2⟩
  have HDc := Hid.mk' (decode_any b ao2 ca2 b.length w2 hB2 rfl (by omega))
  have HI2 := Hid.mk' (HI1.out.stay hb2)
  have HT2 : Hid (Turns S w w2) := HT1.out.trans (Turns.of_below hb2) (fun _ e _ => e)
  clear hB2 hb2 HI1 HT1 HBy c0' c1'
  go_wp2_with fail
  refine HDc.out.mono ?_
  rintro e w3 ⟨ao3, ca3, rfl, hE3, hb3⟩
  have hI3 := HI2.out.stay hb3
  obtain ⟨⟨c0, c1⟩, _⟩ := row2 hI3.row
  have hgl : gl < w2.heap.size := HI2.out.log.lt
  have HT3 : Hid (Turns S w w3) := HT2.out.trans (Turns.of_below hb3) (fun _ e _ => e)
  have HE3 := Hid.mk' hE3; have HI3 := Hid.mk' hI3
  clear hE3 hb3 hI3 HDc
  have HK4 : Hid (∀ w4, StIn w4 S g gs gl ao ca P ⟨s.h, b.take (Jn.dec b).2, (Jn.dec b).2⟩ → Turns S w w4 → EnsAt w4 (fun k => w2.heap.size ≤ k) 121 ao3 ca3 (Jn.dec b).1 →
      w4.cell? ⟨g, 0, none⟩ = some (.pointer (some ⟨gs, 0, none⟩)) ∧ Calls Tryz.prog 48 #[.slice ao3 (Jn.dec b).1.length ca3] w4 (fun e w' => ∃ g', e = .returned (.pointer (some ⟨g', 0, none⟩)) ∧ (w'.cell? ⟨g, 0, none⟩ = some (.pointer (some ⟨gs, 0, none⟩)) ∧ w'.frozen? ⟨g, 0, none⟩ = false) ∧ StFell S w g (Sr.crash s keep) (w'.setCell ⟨g, 0, none⟩ (.pointer (some ⟨g', 0, none⟩))))) := fun w4 hI4 hT4 hE4 => by
    refine ⟨(row2 hI4.row).1.1, (replay_any (Jn.dec b).1 ao3 ca3 _ w4 hE4.isEns rfl (by omega) HK.out).mono ?_⟩
    rintro e w5 ⟨g', rfl, hS5, hb5⟩
    obtain ⟨hr, hA, hTu⟩ := hI4.laid hb5 hS5 (hI4.log.stay hb5) (Turns.refl _ _) (Or.inl rfl)
    refine ⟨g', rfl, ⟨(row2 hr).1.1, (row2 hr).2.1⟩, ?_, hT4.trans hTu (fun _ e _ => e)⟩
    rw [HCr.out]
    have hsz := hT4.size
    refine hA.mono (fun k _ e => ?_)
    rcases e with e | e
    · exact Or.inl e
    · exact Or.inr (by omega)
  by_cases hcut : (Jn.dec b).2 < b.length
  · have HCt := Hid.mk' (cutLog_yes HI3.out.log (Jn.dec b).2 hcut)
    have hmin : min b.length (Jn.dec b).2 = (Jn.dec b).2 := Nat.min_eq_right hd2
    simp only [hmin] at HCt
    clear hmin hcut hd2 hd3 HK HCr
    generalize (Jn.dec b).1 = el at *
    generalize (Jn.dec b).2 = dn at *
    go_wp2_with fail
    refine HCt.out.mono ?_
    rintro e w4 ⟨rfl, hL4, ht4⟩
    obtain ⟨hI4, hT4⟩ := HI3.out.turned hL4 ht4
    obtain ⟨y0, hRp⟩ := HK4.out w4 hI4 (HT3.out.trans hT4 (fun _ e _ => e)) (HE3.out.turns ht4 (fun k e e2 => by subst e2; omega))
    have HRp := Hid.mk' hRp
    clear hL4 ht4 hI4 hT4 hRp HK4 c0 c1
    go_wp2_with fail
    refine HRp.out.mono ?_
    rintro e w5 ⟨g', rfl, ⟨z0, z1⟩, hF⟩
    have HF := Hid.mk' hF
    clear hF y0
    go_wp2
    go_end0
    exact ⟨rfl, HF.out⟩
  · have HCt := Hid.mk' (cutLog_no HI3.out.log ((Jn.dec b).2 : Int) (by show ¬ (_ ∧ _ < (b.length : Int)); omega))
    have hdn : (Jn.dec b).2 = b.length := by omega
    have hI4 : StIn w3 S g gs gl ao ca P ⟨s.h, b.take (Jn.dec b).2, (Jn.dec b).2⟩ := by
      have := HI3.out
      rw [hdn, List.take_length]; exact this
    obtain ⟨y0, hRp⟩ := HK4.out w3 hI4 HT3.out HE3.out
    have HRp := Hid.mk' hRp
    clear hcut hd2 hd3 HK HCr hRp HK4 hdn hI4
    generalize (Jn.dec b).1 = el at *
    generalize (Jn.dec b).2 = dn at *
    go_wp2_with fail
    refine HCt.out.mono ?_
    rintro e w4 ⟨rfl, hw⟩
    rw [hw]; clear hw
    go_wp2_with fail
    refine HRp.out.mono ?_
    rintro e w5 ⟨g', rfl, ⟨z0, z1⟩, hF⟩
    have HF := Hid.mk' hF
    clear hF y0 c0 c1
    go_wp2
    go_end0
    exact ⟨rfl, HF.out⟩
end Go.Proofs.YtdclmpdjjkjfjaaGreatDoor

/- Package store, walked: End, Begin, Drop, Declare, Append. -/
namespace Go.Proofs.YtdclmpdjjkjfjaaGreatDoor
open Go.RowKit

section
variable {s : Sr.Sh} {S : Nat → Prop} {g : Nat} {w : World}
set_option maxHeartbeats 800000 in
theorem dropSt_any (h : StAt w S g s) (ok : Sr.Ok s) (id : Int) :
    Calls Tryz.prog 87 #[.pointer (some ⟨g, 0, none⟩), .int .i64 id] w (StDid S w g (Sr.drop s id)) := by
  have hB : Below w.heap.size w ((w.alloc (.cells #[.int .i64 id] 3)).alloc (.cells #[.int .i64 4, .int .i64 id, .int .i64 0, .slice none 0 0] 121)) := ((Below.refl _ _).alloc (by simp; try omega) _).alloc (by simp; try omega) _
  have hc1 : ∀ W, Below ((w.alloc (.cells #[.int .i64 id] 3)).alloc (.cells #[.int .i64 4, .int .i64 id, .int .i64 0, .slice none 0 0] 121)).heap.size ((w.alloc (.cells #[.int .i64 id] 3)).alloc (.cells #[.int .i64 4, .int .i64 id, .int .i64 0, .slice none 0 0] 121)) W → W.cell? ⟨w.heap.size, 0, none⟩ = some (.int .i64 id) := fun W hW => by rw [hW.cell (p := ⟨w.heap.size, 0, none⟩) (by simp; try omega)]; exact cell_old _ _ _ _ (cell_new _ _ _ _ (by simp; try omega))
  have HC := Hid.mk' (step_drp s S g w.heap.size ⟨4, id, 0, []⟩ none 0 0 (Sp.drop s.h id) _ (h.stay hB) ok (IsB.nil _) rfl (fun W g' hW _ hS => close_drp s.h _ g' w.heap.size id W hS ok.h (hc1 W hW)))
  have HB := Hid.mk' hB
  have hmf : ∀ (fn : Fn) (first cap : Array Value) (w : World), (Instr.makeFunc fn first cap).run Tryz.prog w = .ok (.func fn first cap) w := fun _ _ _ _ => rfl
  unfold Sr.drop
  generalize Sr.write s _ _ = r at *
  clear h ok hB hc1
  go_enter Tryz.func87, Tryz.ntmps87
  go_wp2_with fail
  refine HC.out.mono ?_
  intro e w2 hd
  have HD := Hid.mk' (StDid.from_ HB.out hd)
  obtain ⟨rfl, _, _⟩ := hd
  go_wp2
  go_ret
  exact HD.out
set_option maxHeartbeats 800000 in
theorem declareSt_any (h : StAt w S g s) (ok : Sr.Ok s) (id : Int) (sz : Int) :
    Calls Tryz.prog 86 #[.pointer (some ⟨g, 0, none⟩), .int .i64 id, .int .i64 sz] w (StDid S w g (Sr.declare s id sz)) := by
  have hB : Below w.heap.size w (((w.alloc (.cells #[.int .i64 id] 3)).alloc (.cells #[.int .i64 sz] 3)).alloc (.cells #[.int .i64 3, .int .i64 id, .int .i64 sz, .slice none 0 0] 121)) := (((Below.refl _ _).alloc (by simp; try omega) _).alloc (by simp; try omega) _).alloc (by simp; try omega) _
  have hc1 : ∀ W, Below (((w.alloc (.cells #[.int .i64 id] 3)).alloc (.cells #[.int .i64 sz] 3)).alloc (.cells #[.int .i64 3, .int .i64 id, .int .i64 sz, .slice none 0 0] 121)).heap.size (((w.alloc (.cells #[.int .i64 id] 3)).alloc (.cells #[.int .i64 sz] 3)).alloc (.cells #[.int .i64 3, .int .i64 id, .int .i64 sz, .slice none 0 0] 121)) W → W.cell? ⟨w.heap.size, 0, none⟩ = some (.int .i64 id) := fun W hW => by rw [hW.cell (p := ⟨w.heap.size, 0, none⟩) (by simp; try omega)]; exact cell_old _ _ _ _ (cell_old _ _ _ _ (cell_new _ _ _ _ (by simp; try omega)))
  have hc2 : ∀ W, Below (((w.alloc (.cells #[.int .i64 id] 3)).alloc (.cells #[.int .i64 sz] 3)).alloc (.cells #[.int .i64 3, .int .i64 id, .int .i64 sz, .slice none 0 0] 121)).heap.size (((w.alloc (.cells #[.int .i64 id] 3)).alloc (.cells #[.int .i64 sz] 3)).alloc (.cells #[.int .i64 3, .int .i64 id, .int .i64 sz, .slice none 0 0] 121)) W → W.cell? ⟨w.heap.size + 1, 0, none⟩ = some (.int .i64 sz) := fun W hW => by rw [hW.cell (p := ⟨w.heap.size + 1, 0, none⟩) (by simp; try omega)]; exact cell_old _ _ _ _ (cell_new _ _ _ _ (by simp; try omega))
  have HC := Hid.mk' (step_dec s S g w.heap.size (w.heap.size + 1) ⟨3, id, sz, []⟩ none 0 0 (Sp.declare s.h id sz) _ (h.stay hB) ok (IsB.nil _) rfl (fun W g' hW _ hS => close_dec s.h _ g' w.heap.size (w.heap.size + 1) id sz W hS ok.h (hc1 W hW) (hc2 W hW)))
  have HB := Hid.mk' hB
  have hmf : ∀ (fn : Fn) (first cap : Array Value) (w : World), (Instr.makeFunc fn first cap).run Tryz.prog w = .ok (.func fn first cap) w := fun _ _ _ _ => rfl
  unfold Sr.declare
  generalize Sr.write s _ _ = r at *
  clear h ok hB hc1 hc2
  go_enter Tryz.func86, Tryz.ntmps86
  go_wp2_with fail
  refine HC.out.mono ?_
  intro e w2 hd
  have HD := Hid.mk' (StDid.from_ HB.out hd)
  obtain ⟨rfl, _, _⟩ := hd
  go_wp2
  go_ret
  exact HD.out
set_option maxHeartbeats 800000 in
theorem appendSt_any (h : StAt w S g s) (ok : Sr.Ok s) (id : Int) (off : Int) (bo : Option Addr) (bn bc : Nat) (l : List UInt8) (hb : IsB w bo bc l) (hn : l.length = bn) (hN : bn ≤ 1000000) :
    Calls Tryz.prog 85 #[.pointer (some ⟨g, 0, none⟩), .int .i64 id, .int .i64 off, .slice bo bn bc] w (StDid S w g (Sr.append s id off l)) := by
  have hB : Below w.heap.size w ((((w.alloc (.cells #[.int .i64 id] 3)).alloc (.cells #[.int .i64 off] 3)).alloc (.cells #[.slice bo bn bc] 30)).alloc (.cells #[.int .i64 2, .int .i64 id, .int .i64 0, .slice bo bn bc] 121)) := ((((Below.refl _ _).alloc (by simp; try omega) _).alloc (by simp; try omega) _).alloc (by simp; try omega) _).alloc (by simp; try omega) _
  have hc1 : ∀ W, Below ((((w.alloc (.cells #[.int .i64 id] 3)).alloc (.cells #[.int .i64 off] 3)).alloc (.cells #[.slice bo bn bc] 30)).alloc (.cells #[.int .i64 2, .int .i64 id, .int .i64 0, .slice bo bn bc] 121)).heap.size ((((w.alloc (.cells #[.int .i64 id] 3)).alloc (.cells #[.int .i64 off] 3)).alloc (.cells #[.slice bo bn bc] 30)).alloc (.cells #[.int .i64 2, .int .i64 id, .int .i64 0, .slice bo bn bc] 121)) W → W.cell? ⟨w.heap.size, 0, none⟩ = some (.int .i64 id) := fun W hW => by rw [hW.cell (p := ⟨w.heap.size, 0, none⟩) (by simp; try omega)]; exact cell_old _ _ _ _ (cell_old _ _ _ _ (cell_old _ _ _ _ (cell_new _ _ _ _ (by simp; try omega))))
  have hc2 : ∀ W, Below ((((w.alloc (.cells #[.int .i64 id] 3)).alloc (.cells #[.int .i64 off] 3)).alloc (.cells #[.slice bo bn bc] 30)).alloc (.cells #[.int .i64 2, .int .i64 id, .int .i64 0, .slice bo bn bc] 121)).heap.size ((((w.alloc (.cells #[.int .i64 id] 3)).alloc (.cells #[.int .i64 off] 3)).alloc (.cells #[.slice bo bn bc] 30)).alloc (.cells #[.int .i64 2, .int .i64 id, .int .i64 0, .slice bo bn bc] 121)) W → W.cell? ⟨w.heap.size + 1, 0, none⟩ = some (.int .i64 off) := fun W hW => by rw [hW.cell (p := ⟨w.heap.size + 1, 0, none⟩) (by simp; try omega)]; exact cell_old _ _ _ _ (cell_old _ _ _ _ (cell_new _ _ _ _ (by simp; try omega)))
  have hc3 : ∀ W, Below ((((w.alloc (.cells #[.int .i64 id] 3)).alloc (.cells #[.int .i64 off] 3)).alloc (.cells #[.slice bo bn bc] 30)).alloc (.cells #[.int .i64 2, .int .i64 id, .int .i64 0, .slice bo bn bc] 121)).heap.size ((((w.alloc (.cells #[.int .i64 id] 3)).alloc (.cells #[.int .i64 off] 3)).alloc (.cells #[.slice bo bn bc] 30)).alloc (.cells #[.int .i64 2, .int .i64 id, .int .i64 0, .slice bo bn bc] 121)) W → W.cell? ⟨w.heap.size + 2, 0, none⟩ = some (.slice bo bn bc) := fun W hW => by rw [hW.cell (p := ⟨w.heap.size + 2, 0, none⟩) (by simp; try omega)]; exact cell_old _ _ _ _ (cell_new _ _ _ _ (by simp; try omega))
  have HC := Hid.mk' (step_app s S g w.heap.size (w.heap.size + 1) (w.heap.size + 2) ⟨2, id, 0, l⟩ bo bn bc (Sp.append s.h id off l) _ (h.stay hB) ok (hb.stay hB) hn (fun W g' hW _ hS => close_app s.h _ g' w.heap.size (w.heap.size + 1) (w.heap.size + 2) id off bo bn bc l W hS ok.h (hc1 W hW) (hc2 W hW) (hc3 W hW) ((hb.stay hB).stay hW) hn hN))
  have HB := Hid.mk' hB
  have hmf : ∀ (fn : Fn) (first cap : Array Value) (w : World), (Instr.makeFunc fn first cap).run Tryz.prog w = .ok (.func fn first cap) w := fun _ _ _ _ => rfl
  unfold Sr.append
  generalize Sr.write s _ _ = r at *
  clear h ok hB hc1 hc2 hc3 hb hn
  go_enter Tryz.func85, Tryz.ntmps85
  go_wp2_with fail
  refine HC.out.mono ?_
  intro e w2 hd
  have HD := Hid.mk' (StDid.from_ HB.out hd)
  obtain ⟨rfl, _, _⟩ := hd
  go_wp2
  go_ret
  exact HD.out
end
end Go.Proofs.YtdclmpdjjkjfjaaGreatDoor

/- Package store, walked: Create. -/
namespace Go.Proofs.YtdclmpdjjkjfjaaGreatDoor
open Go.RowKit

/-- what Create answered, and what became of the object -/
structure StMade (S : Nat → Prop) (w : World) (g : Nat) (s : Sr.Sh) (r : Sr.Sh × Nat) (e : Ending) (w' : World) : Prop where
  ret : e = .returned (.tuple #[.int .i64 (Sr.numb s r.2), .int .i64 (r.2 : Int)])
  at_ : StAt w' (orNew S w) g r.1
  turns : Turns S w w'
section
variable {s : Sr.Sh} {S : Nat → Prop} {g : Nat} {w : World}
set_option maxRecDepth 100000 in
set_option maxHeartbeats 1600000 in
theorem createSt_any (h : StAt w S g s) (ok : Sr.Ok s) (sz : Int) (m : ByteArray) (hm : m.size ≤ 1000000) :
    Calls Tryz.prog 74 #[.pointer (some ⟨g, 0, none⟩), .int .i64 sz, .string m] w (StMade S w g s (Sr.create s sz m)) := by
  have hB2 : Below w.heap.size w ((w.alloc (.cells #[.int .i64 sz] 3)).alloc (.cells #[.string m] 9)) := ((Below.refl _ _).alloc (Nat.le_refl _) _).alloc (by simp) _
  have e1 : ((w.alloc (.cells #[.int .i64 sz] 3)).alloc (.cells #[.string m] 9)).cell? ⟨w.heap.size, 0, none⟩ = some (.int .i64 sz) := cell_old _ _ _ _ (cell_new _ _ _ _ rfl)
  have e2 : ((w.alloc (.cells #[.int .i64 sz] 3)).alloc (.cells #[.string m] 9)).cell? ⟨w.heap.size + 1, 0, none⟩ = some (.string m) := cell_new _ _ _ _ (by simp)
  have hs2 : ((w.alloc (.cells #[.int .i64 sz] 3)).alloc (.cells #[.string m] 9)).heap.size = w.heap.size + 2 := by simp
  obtain ⟨W2, hW2⟩ : ∃ W, ((w.alloc (.cells #[.int .i64 sz] 3)).alloc (.cells #[.string m] 9)) = W := ⟨_, rfl⟩
  rw [hW2] at hB2 e1 e2 hs2
  have h2 := h.stay hB2
  obtain ⟨gs, gl, ao, ca, P, hI⟩ := h2
  obtain ⟨⟨c0, c1⟩, _⟩ := row2 hI.row
  have hl := ok.last_
  have HN := Hid.mk' (nextU_any s.h P gs W2 hI.spool ok.h.last0 (by omega))
  obtain ⟨bc, W3, hcv, hb3, hs3, hIB⟩ := bytes_of (P := Tryz.prog) W2 m 9 30 5 Tryz.underlying9 Tryz.underlying30 Tryz.underlying5
  have hB3 := then_ hB2 hb3
  have hbA := (Below.refl _ W3).alloc (Nat.le_refl _) (.cells #[.int .i64 1, .int .i64 (s.h.last + 1), .int .i64 sz, .slice (some ⟨W2.heap.size, 0, none⟩) m.size bc] 121)
  have hB4 := then_ hB3 hbA
  have hc1 : ∀ W, Below (W3.alloc (.cells #[.int .i64 1, .int .i64 (s.h.last + 1), .int .i64 sz, .slice (some ⟨W2.heap.size, 0, none⟩) m.size bc] 121)).heap.size (W3.alloc (.cells #[.int .i64 1, .int .i64 (s.h.last + 1), .int .i64 sz, .slice (some ⟨W2.heap.size, 0, none⟩) m.size bc] 121)) W → W.cell? ⟨w.heap.size, 0, none⟩ = some (.int .i64 sz) ∧ W.cell? ⟨w.heap.size + 1, 0, none⟩ = some (.string m) := fun W hW => by
    have hb5 : Below W2.heap.size W2 W := then_ hb3 (then_ hbA hW)
    exact ⟨(hb5.cell (p := ⟨w.heap.size, 0, none⟩) (show w.heap.size < W2.heap.size by omega)).trans e1, (hb5.cell (p := ⟨w.heap.size + 1, 0, none⟩) (show w.heap.size + 1 < W2.heap.size by omega)).trans e2⟩
  have HC := Hid.mk' (step_cre s S g w.heap.size (w.heap.size + 1) ⟨1, s.h.last + 1, sz, m.data.toList⟩ (some ⟨W2.heap.size, 0, none⟩) m.size bc (Sr.made s.h sz m) _ (h.stay hB4) ok (hIB.stay hbA) (by simp) (fun W g' hW _ hS => close_cre s.h _ g' w.heap.size (w.heap.size + 1) sz m W hS ok.h (hc1 W hW).1 (hc1 W hW).2 (by omega) hm))
  have HB := Hid.mk' hB4
  have hmf : ∀ (fn : Fn) (first cap : Array Value) (w : World), (Instr.makeFunc fn first cap).run Tryz.prog w = .ok (.func fn first cap) w := fun _ _ _ _ => rfl
  have d1 : W3.cell? ⟨w.heap.size, 0, none⟩ = some (.int .i64 sz) := (hb3.cell (p := ⟨w.heap.size, 0, none⟩) (show w.heap.size < W2.heap.size by omega)).trans e1
  unfold Sr.create
  generalize Sr.write s _ _ = r at *
  have HNu : Hid (∀ c : Nat, c = 0 → Sr.numb s c = s.h.last + 1) := fun c hc => by unfold Sr.numb; rw [if_pos hc]
  have HN0 : Hid (∀ c : Nat, c ≠ 0 → Sr.numb s c = 0) := fun c hc => by unfold Sr.numb; rw [if_neg hc]
  have HS3 := Hid.mk' hs3
  clear h ok hB2 hB3 hB4 hbA hc1 hI hs2 hs3 hIB hb3 c1 hm
  generalize hla : s.h.last = la at *
  clear hla
  go_enter Tryz.func74, Tryz.ntmps74
  go_wp2_with fail
  clear hW2
  refine HN.out.mono ?_
  rintro e w1 ⟨rfl, hw⟩
  rw [hw]; clear hw
  go_wp2_with fail
  refine HC.out.mono ?_
  intro e w2 hd
  have hD := StDid.from_ HB.out hd
  have HD := Hid.mk' hD
  clear hD
  obtain ⟨rfl, _, _⟩ := hd
  by_cases hc : r.2 = 0
  · rw [hc]
    go_wp2
    go_ret2
    exact ⟨by rw [HNu.out _ hc, hc]; rfl, HD.out.at_, HD.out.turns⟩
  · have hc' : ¬ (r.2 : Int) = 0 := by omega
    have HX : Hid (∀ v, v = (r.2 : Int) → StMade S w g s r (.returned (.tuple #[.int .i64 0, .int .i64 v])) w2) := fun v hv => ⟨by rw [HN0.out _ hc, hv], HD.out.at_, HD.out.turns⟩
    clear hc HD
    generalize (r.2 : Int) = rc at *
    go_wp2
    go_ret2
    exact HX.out _ rfl
end
end Go.Proofs.YtdclmpdjjkjfjaaGreatDoor
