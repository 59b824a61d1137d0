/- Small texts, one behind the other: SqH, SqI, SqJ, SqK, RfHD, RfHE. -/
import Derived.Test.YtankilclhknbkaaDoorPk9
import Derived.Test.YtankilclhknbkaaDoorPk7
import Derived.Test.YtankilclhknbkaaDoorPk10
import Derived.Deep.AppendLies
import Derived.Deep.DeepCutAuto
import Derived.Test.YtankilclhknbkaaDoorPk8
import Derived.Test.YtankilclhknbkaaDoorTwoBl
import Derived.Test.YtankilclhknbkaaDoorPk5
import Derived.Laws.OwnMore
/- Package spool, walked: Create. -/
namespace Go.Proofs.YtankilclhknbkaaDoor
open Go.RowKit

theorem text_same (a b : ByteArray) : (a.toList == b.toList) = decide (a.data.toList = b.data.toList) := by
  rw [Lib.toList_data, Lib.toList_data, Bool.eq_iff_iff]; simp
theorem SpAt.last_ {w : World} {S : Nat → Prop} {tO tU tB g : Nat} {s : Sp.St} (h : SpAt w S tO tU tB g s) (v : Int) : SpAt (w.setCell ⟨g, 1, none⟩ (.int .i64 v)) S tO tU tB g ⟨s.l, v⟩ ∧ Turns (fun k => k = g) w (w.setCell ⟨g, 1, none⟩ (.int .i64 v)) := by
  obtain ⟨ao, cap, h1, h2, h3⟩ := h
  have hT : Turns (fun k => k = g) w (w.setCell ⟨g, 1, none⟩ (.int .i64 v)) := Turns.setCell (fun k => k = g) w _ _ rfl
  exact ⟨⟨ao, cap, heap_setCell_same w g 1 _ tO _ h1, h2, h3.turns hT (fun k e e2 => e.2 e2)⟩, hT⟩
theorem nextU_any (s : Sp.St) (S : Nat → Prop) (g : Nat) (w : World) (h : SpoolAt w S g s) (h0 : 0 ≤ s.last) (h1 : s.last ≤ 1000000) :
    Calls Tryd.prog 25 #[.pointer (some ⟨g, 0, none⟩)] w fun e w' => e = .returned (.int .i64 (s.last + 1)) ∧ w' = w := by
  obtain ⟨ao, cap, c0, c1, f0, f1, hg, hS, hU⟩ := h.cells
  clear hU hg hS c0 f0 f1 h
  generalize s.last = t at *
  go_enter Tryd.func25, Tryd.ntmps25
  go_wp2
  go_ret
  exact ⟨rfl, rfl⟩
/-- what Create answered, and what became of the object -/
structure Made (S : Nat → Prop) (tO : Nat) (w : World) (g : Nat) (r : Sp.St × Int × Nat) (e : Ending) (w' : World) : Prop where
  ret : e = .returned (.tuple #[.int .i64 r.2.1, .int .i64 (r.2.2 : Int)])
  at_ : SpAt w' (orNew S w) tO 44 5 g r.1
  turns : Turns S w w'
theorem Made.none_ {w w' : World} {S : Nat → Prop} {tO g : Nat} {s : Sp.St} {c : Nat} (h : SpAt w S tO 44 5 g s) (hb : Below w.heap.size w w') {r : Sp.St × Int × Nat} (hr : r = (s, 0, c)) : Made S tO w g r (.returned (.tuple #[.int .i64 0, .int .i64 (c : Int)])) w' := by
  subst hr
  exact ⟨rfl, (h.stay hb).mono (fun k _ e => Or.inl e), Turns.of_below hb⟩
set_option maxRecDepth 100000 in
set_option maxHeartbeats 2000000 in
theorem createU_any (s : Sp.St) (S : Nat → Prop) (g : Nat) (sz : Int) (m : ByteArray) (w : World) (h : SpoolAt w S g s) (ok : Sp.Ok s) (hl : s.last ≤ 1000000) (hm : m.size ≤ 1000000) :
    Calls Tryd.prog 9 #[.pointer (some ⟨g, 0, none⟩), .int .i64 sz, .string m] w (Made S 49 w g (Sp.create s sz m)) := by
  have hN := ok.few
  have hl0 := ok.last0
  obtain ⟨ao, cap, c0, c1, f0, f1, hg, hS, hU⟩ := h.cells
  have hcap := hU.cap_
  by_cases h1 : sz < -1
  · have HR : Hid (Made S 49 w g (Sp.create s sz m) (.returned (.tuple #[.int .i64 0, .int .i64 (1 : Nat)])) w) := Made.none_ h (Below.refl _ _) (by unfold Sp.create; rw [if_pos h1])
    clear h ok hU hg c0 c1
    go_enter Tryd.func9, Tryd.ntmps9
    go_wp2
    go_ret2
    exact HR.out
  · have n1 : decide (sz < -1) = false := by rw [decide_eq_false_iff_not]; exact h1
    by_cases h2 : 2000 < sz
    · have HR : Hid (Made S 49 w g (Sp.create s sz m) (.returned (.tuple #[.int .i64 0, .int .i64 (4 : Nat)])) w) := Made.none_ h (Below.refl _ _) (by unfold Sp.create; rw [if_neg h1, if_pos (Or.inl h2)])
      have n2 : decide (sz > 2000) = true := by rw [decide_eq_true_eq]; exact h2
      clear h ok hU hg c0 c1
      go_enter Tryd.func9, Tryd.ntmps9
      go_wp2
      go_ret2
      exact HR.out
    · have n2 : decide (sz > 2000) = false := by rw [decide_eq_false_iff_not]; exact h2
      by_cases h3 : 100 < m.size
      · have HR : Hid (Made S 49 w g (Sp.create s sz m) (.returned (.tuple #[.int .i64 0, .int .i64 (4 : Nat)])) w) := Made.none_ h (Below.refl _ _) (by unfold Sp.create; rw [if_neg h1, if_pos (Or.inr h3)])
        have n3 : decide ((m.size : Int) > 100) = true := by rw [decide_eq_true_eq]; omega
        clear h ok hU hg c0 c1
        go_enter Tryd.func9, Tryd.ntmps9
        go_wp2
        go_ret2
        exact HR.out
      · have n3 : decide ((m.size : Int) > 100) = false := by rw [decide_eq_false_iff_not]; omega
        have e2 : ¬ (2000 < sz ∨ 100 < m.size) := by omega
        have HV := Hid.mk' (isVisible_any m w (by unfold maxLen; omega))
        cases hv : Ch.isVisible m.data.toList with
        | false =>
          rw [hv] at HV
          have HR : Hid (Made S 49 w g (Sp.create s sz m) (.returned (.tuple #[.int .i64 0, .int .i64 (3 : Nat)])) w) := Made.none_ h (Below.refl _ _) (by unfold Sp.create; rw [if_neg h1, if_neg e2, if_pos (Or.inl hv)])
          clear h ok hU hg c0 c1 hv
          go_enter Tryd.func9, Tryd.ntmps9
          go_wp2_with (go_at_call 31; refine HV.out.mono ?_; rintro e w1 ⟨rfl, rfl⟩)
          go_ret2
          exact HR.out
        | true =>
          rw [hv] at HV
          have HTr := Hid.mk' (trim_any m w (by omega))
          have hts := text_same ⟨(Lib.trimS m.data.toList Ch.ws).toArray⟩ m
          obtain ⟨T, hT⟩ : ∃ T : ByteArray, T = ⟨(Lib.trimS m.data.toList Ch.ws).toArray⟩ := ⟨_, rfl⟩
          have hTd : T.data.toList = Lib.trimS m.data.toList Ch.ws := by rw [hT]
          rw [← hT] at HTr hts
          rw [hTd] at hts
          by_cases h4 : Lib.trimS m.data.toList Ch.ws = m.data.toList
          · rw [decide_eq_true h4] at hts
            have e3 : ¬ (Ch.isVisible m.data.toList = false ∨ Lib.trimS m.data.toList Ch.ws ≠ m.data.toList) := by rw [hv]; simpa using h4
            by_cases h5 : 12 ≤ s.l.length
            · have HR : Hid (∀ W, Below w.heap.size w W → W.cell? ⟨g, 0, none⟩ = some (.slice ao s.l.length cap) ∧ Made S 49 w g (Sp.create s sz m) (.returned (.tuple #[.int .i64 0, .int .i64 (8 : Nat)])) W) := fun W hW => ⟨by rw [hW.cell (p := ⟨g, 0, none⟩) h.lt]; exact c0, Made.none_ h hW (by unfold Sp.create; rw [if_neg h1, if_neg e2, if_neg e3, if_pos h5])⟩
              have n5 : decide ((s.l.length : Int) ≥ 12) = true := by rw [decide_eq_true_eq]; omega
              clear h ok hU hg c0 c1 hT hTd h4 hv e3
              go_enter Tryd.func9, Tryd.ntmps9
              go_wp2_with (first | (go_at_call 31; refine HV.out.mono ?_; rintro e w1 ⟨rfl, rfl⟩) | (go_at_call 32; refine HTr.out.mono ?_; rintro e w1 ⟨rfl, hb⟩; obtain ⟨d0, hd⟩ := HR.out w1 hb; have HD := Hid.mk' hd; clear hd hb))
              go_ret2
              exact HD.out
            · have n5 : decide ((s.l.length : Int) ≥ 12) = false := by rw [decide_eq_false_iff_not]; omega
              have HCr : Hid (Sp.create s sz m = (⟨s.l ++ [⟨s.last + 1, sz, m, [], 0⟩], s.last + 1⟩, s.last + 1, 0)) := by unfold Sp.create; rw [if_neg h1, if_neg e2, if_neg e3, if_neg h5]; exact rfl
              have HA := Hid.mk' h
              have HNx : Hid (∀ W, Below w.heap.size w W → Calls Tryd.prog 25 #[.pointer (some ⟨g, 0, none⟩)] W fun e w' => e = .returned (.int .i64 (s.last + 1)) ∧ w' = W) := fun W hW => nextU_any s S g W (h.stay hW) hl0 hl
              have HCl := Hid.mk' (fun W => sclone_any m W hm)
              have HC : Hid (∀ W, Below w.heap.size w W → W.cell? ⟨g, 0, none⟩ = some (.slice ao s.l.length cap) ∧ W.cell? ⟨g, 1, none⟩ = some (.int .i64 s.last) ∧ W.frozen? ⟨g, 1, none⟩ = false) := fun W hW => ⟨by rw [hW.cell (p := ⟨g, 0, none⟩) h.lt]; exact c0, by rw [hW.cell (p := ⟨g, 1, none⟩) h.lt]; exact c1, by rw [hW.frozen (p := ⟨g, 1, none⟩) h.lt]; exact f1⟩
              clear h ok hU hg c0 c1 f0 f1 hS hT hTd h4 hv e3
              go_enter Tryd.func9, Tryd.ntmps9
              go_wp2_with (first | (go_at_call 31; refine HV.out.mono ?_; rintro e w1 ⟨rfl, hw⟩; rw [hw]; clear hw) | (go_at_call 32; refine HTr.out.mono ?_; rintro e w1 ⟨rfl, hb⟩; obtain ⟨d0, d1, d2⟩ := HC.out w1 hb; have HB := Hid.mk' hb; clear hb) | (go_at_call 25; refine (HNx.out _ HB.out).mono ?_; rintro e wn ⟨rfl, hw⟩; rw [hw]; clear hw))
              obtain ⟨hs2, ht2⟩ := (HA.out.stay HB.out).last_ (s.last + 1)
              have hT2 : Turns S w (w1.setCell ⟨g, 1, none⟩ (.int .i64 (s.last + 1))) := (Turns.of_below HB.out).trans (ht2.mono (fun k e => by subst e; exact HA.out.cells.choose_spec.choose_spec.2.2.2.2.2.1)) (fun _ e _ => e)
              generalize hw3 : w1.setCell ⟨g, 1, none⟩ (.int .i64 (s.last + 1)) = w3 at *
              clear hw3 ht2 d0 d1 d2 HC HNx HB HTr HV
              obtain ⟨ao3, cap3, c0, c1, f0, f1, hg3, hS3, hU3⟩ := hs2.cells
              have HA3 := Hid.mk' hs2
              have hlt := hs2.lt
              have HT3 := Hid.mk' hT2
              have HG3 := Hid.mk' hg3; have HU3 := Hid.mk' hU3
              clear hs2 hT2 hg3 hU3 HA
              simp only at c0 c1
              have HClA : Hid (Calls Tryd.prog 33 #[.string m] (w3.alloc (.cells #[.int .i64 0, .int .i64 0, .string ⟨#[]⟩, .slice none 0 0, .int .i64 0] 44)).drew fun e w4 => e = .returned (.string m) ∧ Below w3.heap.size w3 w4 ∧ w4.heap[w3.heap.size]? = some (.cells #[.int .i64 0, .int .i64 0, .string ⟨#[]⟩, .slice none 0 0, .int .i64 0] 44 (0, 0))) := (HCl.out _).mono fun e w4 ⟨he, hb4⟩ => by
                refine ⟨he, (((Below.refl _ w3).alloc (Nat.le_refl _) _).trans (below_drew _ _)).trans (hb4.mono (by show w3.heap.size ≤ (w3.alloc _).heap.size; rw [World.size_alloc]; omega)), ?_⟩
                rw [hb4.block w3.heap.size (by show w3.heap.size < (w3.alloc _).heap.size; rw [World.size_alloc]; omega)]
                exact heap_alloc_new w3 _
              have HClB : Hid (Calls Tryd.prog 33 #[.string m] w3.drew fun e w4 => e = .returned (.string m) ∧ Below w3.heap.size w3 w4) := (HCl.out _).mono fun e w4 ⟨he, hb4⟩ => ⟨he, (below_drew _ _).trans hb4⟩
              have hne3 : ¬ w3.heap.size = g := by omega
              have hne3' : ¬ g = w3.heap.size := by omega
              clear HCl
              have HMt : Hid (∀ w4, Below w3.heap.size w3 w4 → w4.heap[w3.heap.size]? = some (.cells #[.int .i64 0, .int .i64 0, .string ⟨#[]⟩, .slice none 0 0, .int .i64 0] 44 (0, 0)) → Below w3.heap.size w3 (((((w4.setCell ⟨w3.heap.size, 0, none⟩ (.int .i64 (s.last + 1))).setCell ⟨w3.heap.size, 1, none⟩ (.int .i64 sz)).setCell ⟨w3.heap.size, 2, none⟩ (.string m)).setCell ⟨w3.heap.size, 3, none⟩ (.slice none 0 0)).setCell ⟨w3.heap.size, 4, none⟩ (.int .i64 0)) ∧ (((((w4.setCell ⟨w3.heap.size, 0, none⟩ (.int .i64 (s.last + 1))).setCell ⟨w3.heap.size, 1, none⟩ (.int .i64 sz)).setCell ⟨w3.heap.size, 2, none⟩ (.string m)).setCell ⟨w3.heap.size, 3, none⟩ (.slice none 0 0)).setCell ⟨w3.heap.size, 4, none⟩ (.int .i64 0)).heap[w3.heap.size]? = some (.cells #[.int .i64 (s.last + 1), .int .i64 sz, .string m, .slice none 0 0, .int .i64 0] 44 (0, 0))) := fun w4 hb hr => by
                refine ⟨((((hb.setCell (Nat.le_refl _) _).setCell (Nat.le_refl _) _).setCell (Nat.le_refl _) _).setCell (Nat.le_refl _) _).setCell (Nat.le_refl _) _, ?_⟩
                exact heap_setCell_same _ _ 4 _ _ _ (heap_setCell_same _ _ 3 _ _ _ (heap_setCell_same _ _ 2 _ _ _ (heap_setCell_same _ _ 1 _ _ _ (heap_setCell_same _ _ 0 _ _ _ hr))))
              go_cut [8] (fun t wd => ∃ nb, t = .pointer (some ⟨nb, 0, none⟩) ∧ w3.heap.size ≤ nb ∧ Below w3.heap.size w3 wd ∧ wd.heap[nb]? = some (.cells #[.int .i64 (s.last + 1), .int .i64 sz, .string m, .slice none 0 0, .int .i64 0] 44 (0, 0)))
              case first =>
                go_region_held3 (fun w' => w'.cell? ⟨g, 1, none⟩ = some (.int .i64 (s.last + 1))) (go_keep) (first
                  | (go_at_call 33; refine HClA.out.mono ?_; rintro e w4 ⟨rfl, hb5, hr5⟩; have c1' : w4.cell? ⟨g, 1, none⟩ = some (.int .i64 (s.last + 1)) := (hb5.cell (p := ⟨g, 1, none⟩) hlt).trans c1; have z0 := cell_of_row w4 _ 0 _ _ _ hr5; have z1 := cell_of_row w4 _ 1 _ _ _ hr5; have z2 := cell_of_row w4 _ 2 _ _ _ hr5; have z3 := cell_of_row w4 _ 3 _ _ _ hr5; have z4 := cell_of_row w4 _ 4 _ _ _ hr5; have y0 := frozen_of_row w4 _ 0 _ _ hr5; have y1 := frozen_of_row w4 _ 1 _ _ hr5; have y2 := frozen_of_row w4 _ 2 _ _ hr5; have y3 := frozen_of_row w4 _ 3 _ _ hr5; have y4 := frozen_of_row w4 _ 4 _ _ hr5; simp at z0 z1 z2 z3 z4; have HB4 := Hid.mk' hb5; have HR4 := Hid.mk' hr5; clear hb5 hr5)
                  | (go_at_call 33; refine HClB.out.mono ?_; rintro e w4 ⟨rfl, hb5⟩; have c1' : w4.cell? ⟨g, 1, none⟩ = some (.int .i64 (s.last + 1)) := (hb5.cell (p := ⟨g, 1, none⟩) hlt).trans c1; have hne4 : ¬ w4.heap.size = g := (by have := hb5.size; omega); have hne4' : ¬ g = w4.heap.size := (by have := hb5.size; omega); have HB4 := Hid.mk' hb5; clear hb5))
                all_goals go_wp2
                all_goals go_meet
                · exact ⟨_, rfl, HB4.out.size, HB4.out.alloc HB4.out.size _, heap_alloc_new w4 _⟩
                · exact ⟨_, rfl, Nat.le_refl _, HMt.out w4 HB4.out HR4.out⟩
              case rest =>
                obtain ⟨nb, rfl, hnb, hb4, hr4⟩ := hcut
                have hU4 := HU3.out.stay hb4
                obtain ⟨xs, hO, hP⟩ := hU4.push (.cells #[.int .i64 (s.last + 1), .int .i64 sz, .string m, .slice none 0 0, .int .i64 0] 44)
                have hg4 : wc.heap[g]? = some _ := (hb4.block g hlt).trans HG3.out
                have hbA := (Below.refl _ wc).alloc (Nat.le_refl _) (.cells #[.int .i64 (s.last + 1), .int .i64 sz, .string m, .slice none 0 0, .int .i64 0] 44)
                have c0a : (wc.alloc (.cells #[.int .i64 (s.last + 1), .int .i64 sz, .string m, .slice none 0 0, .int .i64 0] 44)).cell? ⟨g, 0, none⟩ = some (.slice ao3 s.l.length cap3) := (hbA.cell (p := ⟨g, 0, none⟩) (by show g < wc.heap.size; have := hb4.size; omega)).trans (cell_of_row wc g 0 _ _ _ hg4)
                have c0b : wc.cell? ⟨g, 0, none⟩ = some (.slice ao3 s.l.length cap3) := cell_of_row wc g 0 _ _ _ hg4
                have z0 : wc.cell? ⟨nb, 0, none⟩ = some (.int .i64 (s.last + 1)) := cell_of_row wc nb 0 _ _ _ hr4
                have z1 : wc.cell? ⟨nb, 1, none⟩ = some (.int .i64 sz) := cell_of_row wc nb 1 _ _ _ hr4
                have z2 : wc.cell? ⟨nb, 2, none⟩ = some (.string m) := cell_of_row wc nb 2 _ _ _ hr4
                have z3 : wc.cell? ⟨nb, 3, none⟩ = some (.slice none 0 0) := cell_of_row wc nb 3 _ _ _ hr4
                have z4 : wc.cell? ⟨nb, 4, none⟩ = some (.int .i64 0) := cell_of_row wc nb 4 _ _ _ hr4
                have hsz4 := hb4.size
                have hbl : ∀ k, blockOf ao3 = some k → (S k ∧ k ≠ g) ∧ k < w3.heap.size := fun k e => by
                  obtain ⟨us, _, h2, h3, _⟩ := HU3.out
                  cases ao3 with
                  | none => cases e
                  | some a => injection e with e; subst e; exact ⟨h3 a rfl, (h2.block a rfl).2⟩
                have hnbl : nb < wc.heap.size := (Array.getElem?_eq_some_iff.1 hr4).1
                have HK : Hid (∀ w5, (wc.alloc (.cells #[.int .i64 (s.last + 1), .int .i64 sz, .string m, .slice none 0 0, .int .i64 0] 44)).drew.grownBy w5 (Value.slice ao3 s.l.length cap3).ownBlock → w5.heap[g]? = some (.cells #[.slice ao3 s.l.length cap3, .int .i64 (s.last + 1)] 49 (0, 0)) ∧ w5.heap[nb]? = some (.cells #[.int .i64 (s.last + 1), .int .i64 sz, .string m, .slice none 0 0, .int .i64 0] 44 (0, 0))) := fun w5 hG => by
                  rw [ownBlock_slice] at hG
                  refine ⟨?_, ?_⟩
                  · rw [hG.block g (by show g < (wc.alloc _).heap.size; rw [World.size_alloc]; omega) (fun e => (hbl g e.symm).1.2 rfl)]
                    exact (hbA.block g (by omega)).trans hg4
                  · rw [hG.block nb (by show nb < (wc.alloc _).heap.size; rw [World.size_alloc]; omega) (fun e => by have := (hbl nb e.symm).2; omega)]
                    exact (hbA.block nb (by omega)).trans hr4
                have HO := Hid.mk' (OwnV.stay hO (below_drew _ _))
                have HNw : Hid (∀ j u, (upC ⟨s.last + 1, sz, m, [], 0⟩ ⟨none, 0⟩)[j]? = some u → (wc.alloc (.cells #[.int .i64 (s.last + 1), .int .i64 sz, .string m, .slice none 0 0, .int .i64 0] 44)).drew.cell? (Addr.add ⟨wc.heap.size, 0, none⟩ j) = some u) := fun j u hu => by
                  rw [Addr.add_lit, Nat.zero_add]
                  show (wc.alloc _).cell? _ = _
                  rw [World.cell?_alloc_at _ _ _ _ rfl, List.getElem?_toArray]
                  exact hu
                have HP := Hid.mk' hP
                have HB4 := Hid.mk' hb4
                have HBL := Hid.mk' hbl
                obtain ⟨i0, hi0, hz0, hz1, hz2⟩ := info_parts info_up
                have Hi := Hid.mk' hi0; have Hz0 := Hid.mk' hz0; have Hz1 := Hid.mk' hz1; have Hz2 := Hid.mk' hz2
                have HN : Hid (s.l.length + 1 ≤ maxLen ∧ (s.l.length + 1) * 64 ≤ 140737488355328) := ⟨by unfold maxLen; omega, by omega⟩
                have hng : ¬ nb = g := by omega
                have hng' : ¬ g = nb := by omega
                clear hi0 hz0 hz1 hz2 hO hP hbl hbA hg4 hU4 hb4 hr4 HMt HClA HClB
                go_wp2
                go_region_law
                  ((refine step_append_lies _ (by rfl) _ _ _ (by rfl) 0 44 i0 (.agg #[.int .i64 0, .int .i64 0, .string ⟨#[]⟩, .slice none 0 0, .int .i64 0]) 5 64 Tryd.underlying28 Hi.out Hz0.out Hz1.out Hz2.out (by rfl) (by decide) (.slice ao3 s.l.length cap3) s.l.length _ (by rfl) HO.out ⟨wc.heap.size, 0, none⟩ 1 1 (upC ⟨s.last + 1, sz, m, [], 0⟩ ⟨none, 0⟩) (by rfl) (by rfl) HNw.out (upC_one _ _) (by decide) HN.out.1 HN.out.2 (Nat.zero_le _) (wc.heap.size + 1) (by simp) ?_; intro g5 cap5 w5 hown5 hgrow hat5 hlt5; obtain ⟨r5, r6⟩ := HK.out _ hgrow; have q0 : w5.cell? ⟨g, 0, none⟩ = some (.slice ao3 s.l.length cap3) := cell_of_row w5 g 0 _ _ _ r5; have q1 : w5.frozen? ⟨g, 0, none⟩ = false := frozen_of_row w5 g 0 _ _ r5; have q2 : w5.cell? ⟨nb, 0, none⟩ = some (.int .i64 (s.last + 1)) := cell_of_row w5 nb 0 _ _ _ r6; have HR5 := Hid.mk' r5; have HG5 := Hid.mk' hgrow; have HO5 := Hid.mk' hown5; have HA5 := Hid.mk' hat5; clear hgrow hown5 hat5 r5 r6 hlt5))
                all_goals
                  go_wp2
                  go_ret2
                  have hG := HG5.out
                  have hat := HA5.out
                  rw [ownBlock_slice] at hG hat
                  obtain ⟨r1, r2⟩ := HP.out (some ⟨g5, 0, none⟩) cap5 w5 ⟨s.last + 1, sz, m, [], 0⟩ ⟨none, 0⟩ (fun _ => False) (GrowB.nil _ _ _) (fun _ _ e => e) HO5.out (grown_trans (grown_drew _ _) hG) (by
                    rcases hat with e | e
                    · exact Or.inl e.symm
                    · exact Or.inr (by rw [World.size_alloc, e]; rfl))
                  have hszw := HT3.out.size
                  obtain ⟨hL, hTL⟩ := SpAt.lay (S := orNew S w) HR5.out (Or.inl hS3) (n := s.l.length + 1) (r1.mono (fun k _ e => by
                    rcases e with e | e | e
                    · exact ⟨Or.inl e.1, e.2⟩
                    · exact e.elim
                    · exact ⟨Or.inr (by omega), by omega⟩)) (by simp)
                  refine ⟨by rw [HCr.out]; rfl, by rw [HCr.out]; exact hL, ?_⟩
                  exact ((HT3.out.trans (Turns.of_below HB4.out) (fun _ e _ => e)).trans (r2.mono (fun k e => e.1)) (fun _ e _ => e)).trans (hTL.mono (fun k e => by subst e; exact hS3)) (fun _ e _ => e)
          · rw [decide_eq_false h4] at hts
            have HR : Hid (∀ W, Below w.heap.size w W → Made S 49 w g (Sp.create s sz m) (.returned (.tuple #[.int .i64 0, .int .i64 (3 : Nat)])) W) := fun W hW => Made.none_ h hW (by unfold Sp.create; rw [if_neg h1, if_neg e2, if_pos (Or.inr h4)])
            clear h ok hU hg c0 c1 hT hTd h4 hv
            go_enter Tryd.func9, Tryd.ntmps9
            go_wp2_with (first | (go_at_call 31; refine HV.out.mono ?_; rintro e w1 ⟨rfl, rfl⟩) | (go_at_call 32; refine HTr.out.mono ?_; rintro e w1 ⟨rfl, hb⟩; have HD := Hid.mk' (HR.out w1 hb); clear hb))
            go_ret2
            exact HD.out
end Go.Proofs.YtankilclhknbkaaDoor

/- Package spool, walked: clone. -/
namespace Go.Proofs.YtankilclhknbkaaDoor
open Go.RowKit

set_option maxRecDepth 100000 in
set_option maxHeartbeats 2000000 in
theorem cloneU_any (i z t : Int) (m : ByteArray) (bo : Option Addr) (n bcap : Nat) (bs : List UInt8) (w : World) (hB : IsB w bo bcap bs) (hn : bs.length = n) (hN : n ≤ 1000000) (hm : m.size ≤ 1000000) :
    Calls Tryd.prog 45 #[.agg #[.int .i64 i, .int .i64 z, .string m, .slice bo n bcap, .int .i64 t]] w fun e w' => ∃ ao cap, e = .returned (.agg #[.int .i64 i, .int .i64 z, .string m, .slice ao n cap, .int .i64 t]) ∧ GrowB w' (fun k => w.heap.size ≤ k) 5 ao cap bs ∧ Below w.heap.size w w' := by
  have HC1 := Hid.mk' (fun W => sclone_any m W hm)
  have HC2 : Hid (∀ W, Below w.heap.size w W → Calls Tryd.prog 53 #[.slice bo n bcap] W fun e w' => ∃ ao cap, e = .returned (.slice ao n cap) ∧ GrowB w' (fun k => W.heap.size ≤ k) 5 ao cap bs ∧ Below W.heap.size W w') := fun W hW => cloneBytes_any bs bo bcap n W (hB.stay hW) hn (by omega)
  clear hB
  go_enter Tryd.func45, Tryd.ntmps45
  go_upto_region 1 with fail
  have h0 : TwoAt w (.cells #[.int .i64 i, .int .i64 z, .string m, .slice bo n bcap, .int .i64 t] 44 (0, 0)) (.cells #[.int .i64 0, .int .i64 0, .string ⟨#[]⟩, .slice none 0 0, .int .i64 0] 44 (0, 0)) _ := TwoAt.made w #[.int .i64 i, .int .i64 z, .string m, .slice bo n bcap, .int .i64 t] #[.int .i64 0, .int .i64 0, .string ⟨#[]⟩, .slice none 0 0, .int .i64 0] 44 44
  have HCl : Hid (∀ W, TwoAt w (.cells #[.int .i64 i, .int .i64 z, .string m, .slice bo n bcap, .int .i64 t] 44 (0, 0)) (.cells #[.int .i64 0, .int .i64 0, .string ⟨#[]⟩, .slice none 0 0, .int .i64 0] 44 (0, 0)) W → W.cell? ⟨w.heap.size, 2, none⟩ = some (.string m) ∧ W.cell? ⟨w.heap.size, 3, none⟩ = some (.slice bo n bcap) ∧ W.frozen? ⟨w.heap.size, 2, none⟩ = false ∧ W.frozen? ⟨w.heap.size, 3, none⟩ = false) := fun W h => ⟨h.cell 2, h.cell 3, h.fz 2, h.fz 3⟩
  obtain ⟨c2, c3, f2, f3⟩ := HCl.out _ h0
  have hs0 : w.heap.size + 2 ≤ ((w.alloc (.cells #[.int .i64 i, .int .i64 z, .string m, .slice bo n bcap, .int .i64 t] 44)).alloc (.cells #[.int .i64 0, .int .i64 0, .string ⟨#[]⟩, .slice none 0 0, .int .i64 0] 44)).heap.size := by simp
  generalize ((w.alloc (.cells #[.int .i64 i, .int .i64 z, .string m, .slice bo n bcap, .int .i64 t] 44)).alloc (.cells #[.int .i64 0, .int .i64 0, .string ⟨#[]⟩, .slice none 0 0, .int .i64 0] 44)) = w1 at *
  have HX := Hid.mk' h0
  have HS0 := Hid.mk' hs0
  clear h0 hs0
  go_cut [3] (fun _ wd => ∃ ao cap, TwoAt w (.cells #[.int .i64 i, .int .i64 z, .string m, .slice ao n cap, .int .i64 t] 44 (0, 0)) (.cells #[.int .i64 0, .int .i64 0, .string ⟨#[]⟩, .slice none 0 0, .int .i64 0] 44 (0, 0)) wd ∧ GrowB wd (fun k => w.heap.size + 2 ≤ k) 5 ao cap bs)
  case first =>
    go_region_with (first
      | (go_at_call 33; refine (HC1.out _).mono ?_; rintro e w2 ⟨rfl, hb2⟩; have hx2 := HX.out.stay ((below_drew _ _).trans hb2); obtain ⟨d2, d3, g2, g3⟩ := HCl.out _ hx2; have HX2 := Hid.mk' hx2; have HS2 : Hid (w1.heap.size ≤ w2.heap.size) := hb2.size; clear hb2 hx2)
      | (go_at_call 53; refine (HC2.out _ HX2.out.below).mono ?_; rintro e w3 ⟨ao, cap, rfl, hO, hb3⟩; have hx3 := HX2.out.stay hb3; obtain ⟨e2, e3, k2, k3⟩ := HCl.out _ hx3; have HX3 := Hid.mk' hx3; have HO := Hid.mk' hO; clear hb3 hx3 hO))
    all_goals
      go_wp2
      go_meet
      have hx4 := HX3.out.same 2 (.string m) rfl
      obtain ⟨hx5, ht5⟩ := hx4.put1 3 (.slice ao n cap)
      have ht4 : Turns (fun k => w.heap.size ≤ k ∧ k < w.heap.size + 2) w3 (w3.setCell ⟨w.heap.size, 2, none⟩ (.string m)) := Turns.setCell _ w3 _ _ ⟨Nat.le_refl _, by show w.heap.size < _; omega⟩
      have hs0 := HS0.out
      have hs2 := HS2.out
      refine ⟨ao, cap, hx5, ((HO.out.to (S' := fun k => w.heap.size + 2 ≤ k) (fun k e _ _ => by omega)).turns ht4 (fun k e h => by omega)).turns ht5 (fun k e h => by omega)⟩
  case rest =>
    obtain ⟨ao, cap, hx, hO⟩ := hcut
    have HT := Hid.mk' hx
    have HO := Hid.mk' hO
    have d0 := hx.cell 0; have d1 := hx.cell 1; have d2 := hx.cell 2; have d3 := hx.cell 3; have d4 := hx.cell 4
    have g0 := hx.fz2 0; have g1 := hx.fz2 1; have g2 := hx.fz2 2; have g3 := hx.fz2 3; have g4 := hx.fz2 4
    have e0 := hx.cell2 0; have e1 := hx.cell2 1; have e2 := hx.cell2 2; have e3 := hx.cell2 3; have e4 := hx.cell2 4
    simp at d0 d1 d2 d3 d4 e0 e1 e2 e3 e4
    clear hx hO c2 c3 f2 f3 HX HS0 HCl HC1 HC2
    go_wp2
    obtain ⟨a1, t1⟩ := HT.out.put2 0 (.int .i64 i)
    obtain ⟨a2, t2⟩ := a1.put2 1 (.int .i64 z)
    obtain ⟨a3, t3⟩ := a2.put2 2 (.string m)
    obtain ⟨a4, t4⟩ := a3.put2 3 (.slice ao n cap)
    obtain ⟨a5, t5⟩ := a4.put2 4 (.int .i64 t)
    have hno : ∀ k, w.heap.size + 2 ≤ k → ¬ (w.heap.size ≤ k ∧ k < w.heap.size + 2) := fun k e h => by omega
    have hO6 := ((((HO.out.turns t1 hno).turns t2 hno).turns t3 hno).turns t4 hno).turns t5 hno
    generalize (((((wc.setCell ⟨w.heap.size + 1, 0, none⟩ (Value.int .i64 i)).setCell ⟨w.heap.size + 1, 1, none⟩ (Value.int .i64 z)).setCell ⟨w.heap.size + 1, 2, none⟩ (Value.string m)).setCell ⟨w.heap.size + 1, 3, none⟩ (Value.slice ao n cap)).setCell ⟨w.heap.size + 1, 4, none⟩ (Value.int .i64 t)) = w6 at a5 hO6 ⊢
    have r0 : w6.cell? ⟨w.heap.size + 1, 0, none⟩ = some (.int .i64 i) := a5.cell2 0
    have r1 : w6.cell? ⟨w.heap.size + 1, 1, none⟩ = some (.int .i64 z) := a5.cell2 1
    have r2 : w6.cell? ⟨w.heap.size + 1, 2, none⟩ = some (.string m) := a5.cell2 2
    have r3 : w6.cell? ⟨w.heap.size + 1, 3, none⟩ = some (.slice ao n cap) := a5.cell2 3
    have r4 : w6.cell? ⟨w.heap.size + 1, 4, none⟩ = some (.int .i64 t) := a5.cell2 4
    refine bodyPost_ret (v := .agg #[.int .i64 i, .int .i64 z, .string m, .slice ao n cap, .int .i64 t]) (by simp [results, Tryd.results45, go_sem, r0, r1, r2, r3, r4]) rfl ⟨ao, cap, rfl, hO6.mono (fun k _ e => by omega), a5.below⟩
end Go.Proofs.YtankilclhknbkaaDoor

/- Package spool, walked: cloneAll, List, Copy. -/
namespace Go.Proofs.YtankilclhknbkaaDoor
open Go.RowKit

/-- uploads that are small -/
def SmallU (l : List Sp.Up) : Prop := l.length ≤ 1000 ∧ ∀ u ∈ l, u.note.size ≤ 1000000 ∧ u.bytes.length ≤ 1000000
theorem Sp.Ok.small {s : Sp.St} (ok : Sp.Ok s) : SmallU s.l := ⟨by have := ok.few; omega, fun u hu => ⟨by have := (ok.all u hu).note; omega, by have := (ok.all u hu).long; omega⟩⟩
set_option maxRecDepth 100000 in
set_option maxHeartbeats 2000000 in
theorem cloneAll_any (l : List Sp.Up) (ao : Option Addr) (cap n : Nat) (w : World) (hl : IsUps w ao cap l) (hcap : n ≤ cap) (hn : l.length = n) (hz : SmallU l) :
    Calls Tryd.prog 29 #[.slice ao n cap] w fun e w' => ∃ ao', e = .returned (.slice ao' n n) ∧ UpO w' (fun k => w.heap.size ≤ k) 44 5 ao' n l ∧ Below w.heap.size w w' := by
  subst hn
  have hN := hz.1
  obtain ⟨i0, hi0, hz0, hz1, hz2⟩ := info_parts info_up
  obtain ⟨w1, hmk, hO1, hG1⟩ := run_make_full (P := Tryd.prog) w 0 28 44 i0 (.agg #[.int .i64 0, .int .i64 0, .string ⟨#[]⟩, .slice none 0 0, .int .i64 0]) 5 Tryd.underlying28 hi0 hz0 hz1 .i64 .i64 l.length (by rw [hz2]; omega) (by unfold maxLen; omega) (Nat.zero_le _)
  rw [show (Value.agg #[.int .i64 0, .int .i64 0, .string ⟨#[]⟩, .slice none 0 0, .int .i64 0]).cells = #[.int .i64 0, .int .i64 0, .string ⟨#[]⟩, .slice none 0 0, .int .i64 0] from rfl, upV_zeros] at hO1
  have hb1 : Below w.heap.size w w1 := ⟨hG1.os, hG1.tape, hG1.output, hG1.size, fun k hk => hG1.block k hk (by simp)⟩
  have hU1 : UpO w1 (fun k => w.heap.size ≤ k) 44 5 (some ⟨w.heap.size, 0, none⟩) l.length (List.replicate l.length zUp) := UpO.zeros hO1 (Nat.le_refl _)
  have H := Hid.mk' hl
  have HZ := Hid.mk' hz
  have HB1 := Hid.mk' hb1
  have HU1 := Hid.mk' hU1
  clear hl hz hi0 hz0 hz1 hz2 hO1 hG1 hb1 hU1
  go_enter Tryd.func29, Tryd.ntmps29
  go_wp2
  go_loopw [11] (fun t wr => ∃ k : Nat, k ≤ l.length ∧ t = .int .i64 k ∧ Below w.heap.size w wr ∧ UpO wr (fun k => w.heap.size ≤ k) 44 5 (some ⟨w.heap.size, 0, none⟩) l.length (l.take k ++ List.replicate (l.length - k) zUp)) (fun t _ => l.length - (intOf t).toNat)
  case atStart => exact ⟨0, Nat.zero_le _, rfl, HB1.out, HU1.out⟩
  case round =>
    obtain ⟨k, hk, rfl, hB, hU⟩ := hrel
    have HB := Hid.mk' hB
    have HU := Hid.mk' hU
    clear hB hU
    by_cases hlt : k < l.length
    · obtain ⟨bb, oo, q, rfl, hc0, hc1, hc2, hc3, hc4, hIB⟩ := (H.out.stay HB.out).at_ k hlt
      have hlt' : (k : Int) < l.length := by omega
      have hz := HZ.out.2 l[k] (List.getElem_mem hlt)
      have HT : Hid ((l.take k ++ List.replicate (l.length - k) zUp).set k l[k] = l.take (k + 1) ++ List.replicate (l.length - (k + 1)) zUp) := laid_next l k hlt
      have hL : k < (l.take k ++ List.replicate (l.length - k) zUp).length := by rw [List.length_append, List.length_take, List.length_replicate]; omega
      have hbA := (Below.refl _ wr).alloc (Nat.le_refl _) (.cells #[.int .i64 l[k].id, .int .i64 l[k].size, .string l[k].note, .slice q.bo l[k].bytes.length q.bcap, .int .i64 l[k].sent] 44)
      have HC := Hid.mk' (cloneU_any l[k].id l[k].size l[k].sent l[k].note q.bo l[k].bytes.length q.bcap l[k].bytes (wr.alloc (.cells #[.int .i64 l[k].id, .int .i64 l[k].size, .string l[k].note, .slice q.bo l[k].bytes.length q.bcap, .int .i64 l[k].sent] 44)) (hIB.stay hbA) rfl hz.2 hz.1)
      have hszr := HB.out.size
      have HX : Hid (∀ w3 ao' cap', GrowB w3 (fun j => (wr.alloc (.cells #[.int .i64 l[k].id, .int .i64 l[k].size, .string l[k].note, .slice q.bo l[k].bytes.length q.bcap, .int .i64 l[k].sent] 44)).heap.size ≤ j) 5 ao' cap' l[k].bytes → Below (wr.alloc (.cells #[.int .i64 l[k].id, .int .i64 l[k].size, .string l[k].note, .slice q.bo l[k].bytes.length q.bcap, .int .i64 l[k].sent] 44)).heap.size (wr.alloc (.cells #[.int .i64 l[k].id, .int .i64 l[k].size, .string l[k].note, .slice q.bo l[k].bytes.length q.bcap, .int .i64 l[k].sent] 44)) w3 →
          (∀ j, j < 5 → (∃ v, w3.cell? ⟨w.heap.size, k * 5 + j, none⟩ = some v) ∧ w3.frozen? ⟨w.heap.size, k * 5 + j, none⟩ = false) ∧
          Below w.heap.size w (((((w3.setCell ⟨w.heap.size, k * 5, none⟩ (.int .i64 l[k].id)).setCell ⟨w.heap.size, k * 5 + 1, none⟩ (.int .i64 l[k].size)).setCell ⟨w.heap.size, k * 5 + 2, none⟩ (.string l[k].note)).setCell ⟨w.heap.size, k * 5 + 3, none⟩ (.slice ao' l[k].bytes.length cap')).setCell ⟨w.heap.size, k * 5 + 4, none⟩ (.int .i64 l[k].sent)) ∧
          UpO (((((w3.setCell ⟨w.heap.size, k * 5, none⟩ (.int .i64 l[k].id)).setCell ⟨w.heap.size, k * 5 + 1, none⟩ (.int .i64 l[k].size)).setCell ⟨w.heap.size, k * 5 + 2, none⟩ (.string l[k].note)).setCell ⟨w.heap.size, k * 5 + 3, none⟩ (.slice ao' l[k].bytes.length cap')).setCell ⟨w.heap.size, k * 5 + 4, none⟩ (.int .i64 l[k].sent)) (fun k => w.heap.size ≤ k) 44 5 (some ⟨w.heap.size, 0, none⟩) l.length (l.take (k + 1) ++ List.replicate (l.length - (k + 1)) zUp)) := fun w3 ao' cap' hO hb3 => by
        have hb4 : Below wr.heap.size wr w3 := then_ hbA hb3
        have hU3 := (HU.out.mono (S' := fun j => w.heap.size ≤ j ∧ j < wr.heap.size) (fun j hj e => ⟨e, hj⟩)).stay hb4
        obtain ⟨g2, e2, _, _, hcf⟩ := hU3.at_.row k hL
        injection e2 with e2; injection e2 with e2; subst e2
        obtain ⟨hU5, hT5⟩ := hU3.put5 (u := l[k]) hL hO (fun j e h => by rw [World.size_alloc] at e; omega) rfl
        refine ⟨hcf, (HB.out.trans (hb4.mono hszr)).trans (hT5.below (fun j e => by subst e; exact Nat.le_refl _) (by have := hb4.size; omega)), ?_⟩
        rw [← HT.out]
        refine hU5.mono (fun j _ e => ?_)
        rcases e with e | e
        · exact e.1
        · rw [World.size_alloc] at e; omega
      clear hIB hbA HT hL HU
      generalize l[k] = p at *
      go_wp2_with fail
      refine HC.out.mono ?_
      rintro e w3 ⟨ao', cap', rfl, hO, hb3⟩
      obtain ⟨hcf, hx1, hx2⟩ := HX.out w3 ao' cap' hO hb3
      obtain ⟨⟨v0, d0⟩, f0⟩ := hcf 0 (by decide); obtain ⟨⟨v1, d1⟩, f1⟩ := hcf 1 (by decide); obtain ⟨⟨v2, d2⟩, f2⟩ := hcf 2 (by decide); obtain ⟨⟨v3, d3⟩, f3⟩ := hcf 3 (by decide); obtain ⟨⟨v4, d4⟩, f4⟩ := hcf 4 (by decide)
      rw [Nat.add_zero] at d0 f0
      have HX1 := Hid.mk' hx1; have HX2 := Hid.mk' hx2
      clear hcf hx1 hx2 hO hb3 HX
      go_wp2
      go_roundw
      case rel => exact ⟨k + 1, by omega, by go_num, HX1.out, HX2.out⟩
      case measure => simp [intOf]; omega
    · obtain rfl : k = l.length := by omega
      go_wp2
      go_ret
      refine ⟨some ⟨w.heap.size, 0, none⟩, rfl, ?_, HB.out⟩
      have := HU.out
      rw [List.take_length, Nat.sub_self, List.replicate_zero, List.append_nil] at this
      exact this
set_option maxHeartbeats 800000 in
theorem listU_any (s : Sp.St) (S : Nat → Prop) (g : Nat) (w : World) (h : SpoolAt w S g s) (hz : SmallU s.l) :
    Calls Tryd.prog 22 #[.pointer (some ⟨g, 0, none⟩)] w fun e w' => ∃ ao', e = .returned (.slice ao' s.l.length s.l.length) ∧ UpO w' (fun k => w.heap.size ≤ k) 44 5 ao' s.l.length s.l ∧ Below w.heap.size w w' := by
  obtain ⟨ao, cap, c0, c1, f0, f1, hg, hS, hU⟩ := h.cells
  have HC := Hid.mk' (cloneAll_any s.l ao cap s.l.length w hU.isUps hU.cap_ rfl hz)
  clear h hU hg hS c1 f0 f1 hz
  generalize s.l = l at *
  go_enter Tryd.func22, Tryd.ntmps22
  go_wp2_with fail
  refine HC.out.mono ?_
  rintro e w1 ⟨ao', rfl, hU1, hb1⟩
  have HU1 := Hid.mk' hU1; have HB1 := Hid.mk' hb1
  clear hU1 hb1
  go_wp2
  go_ret
  exact ⟨ao', rfl, HU1.out, HB1.out⟩
set_option maxHeartbeats 800000 in
theorem copyU_any (s : Sp.St) (S : Nat → Prop) (g : Nat) (w : World) (h : SpoolAt w S g s) (hz : SmallU s.l) :
    Calls Tryd.prog 7 #[.pointer (some ⟨g, 0, none⟩)] w fun e w' => ∃ g', e = .returned (.pointer (some ⟨g', 0, none⟩)) ∧ SpoolAt w' (fun k => w.heap.size ≤ k) g' s ∧ Below w.heap.size w w' := by
  have hlt := h.lt
  obtain ⟨ao, cap, c0, c1, f0, f1, hg, hS, hU⟩ := h.cells
  have HC := Hid.mk' (cloneAll_any s.l ao cap s.l.length w.drew (hU.isUps.stay (below_drew _ _)) hU.cap_ rfl hz)
  clear h hU hg hS f0 f1 hz
  have HE : Hid (∀ w1 ao', UpO w1 (fun k => w.drew.heap.size ≤ k) 44 5 ao' s.l.length s.l → Below w.drew.heap.size w.drew w1 → w1.cell? ⟨g, 0, none⟩ = some (.slice ao s.l.length cap) ∧ w1.cell? ⟨g, 1, none⟩ = some (.int .i64 s.last) ∧ SpoolAt (w1.alloc (.cells #[.slice ao' s.l.length s.l.length, .int .i64 s.last] 49)) (fun k => w.heap.size ≤ k) w1.heap.size s ∧ Below w.heap.size w (w1.alloc (.cells #[.slice ao' s.l.length s.l.length, .int .i64 s.last] 49))) := fun w1 ao' hU1 hb1 => by
    have hb2 : Below w.heap.size w w1 := (below_drew _ _).trans hb1
    have hbA := (Below.refl _ w1).alloc (Nat.le_refl _) (.cells #[.slice ao' s.l.length s.l.length, .int .i64 s.last] 49)
    exact ⟨(hb2.cell (p := ⟨g, 0, none⟩) hlt).trans c0, (hb2.cell (p := ⟨g, 1, none⟩) hlt).trans c1, ⟨ao', s.l.length, heap_alloc_new w1 _, hb2.size, ((hU1.mono (S' := fun k => w.heap.size ≤ k ∧ k < w1.heap.size) (fun k hk e => ⟨e, hk⟩)).stay hbA).mono (fun k _ e => ⟨e.1, by omega⟩)⟩, then_ hb2 hbA⟩
  generalize s.l.length = n at *
  generalize hl : s.last = la at *
  go_enter Tryd.func7, Tryd.ntmps7
  go_wp2_with fail
  go_region_held3 (fun w' => w'.cell? ⟨g, 0, none⟩ = some (.slice ao n cap) ∧ w'.cell? ⟨g, 1, none⟩ = some (.int .i64 la)) (go_keep) (first | (go_at_call 29; refine HC.out.mono ?_; rintro e w1 ⟨ao', rfl, hU1, hb1⟩; obtain ⟨d0, d1, hx, hy⟩ := HE.out w1 ao' hU1 hb1; have HX := Hid.mk' hx; have HY := Hid.mk' hy; clear hx hy hU1 hb1))
  all_goals
    go_wp2
    go_ret
    exact ⟨_, rfl, HX.out, HY.out⟩
set_option maxHeartbeats 800000 in
theorem getU_none (s : Sp.St) (S : Nat → Prop) (g : Nat) (id : Int) (w : World) (h : SpoolAt w S g s) (ok : Sp.Ok s) (hp : Sp.place s.l id = none) :
    Calls Tryd.prog 26 #[.pointer (some ⟨g, 0, none⟩), .int .i64 id] w fun e w' => e = .returned (.tuple #[.agg #[.int .i64 0, .int .i64 0, .string ⟨#[]⟩, .slice none 0 0, .int .i64 0], .bool false]) ∧ Below w.heap.size w w' := by
  have hbA := (Below.refl _ w).alloc (Nat.le_refl _) (.cells #[.int .i64 0, .int .i64 0, .string ⟨#[]⟩, .slice none 0 0, .int .i64 0] 44)
  have HI := Hid.mk' (findU_any s S g id _ (h.stay hbA) (by have := ok.few; omega))
  rw [Sp.pl_none hp] at HI
  have HB := Hid.mk' hbA
  clear h ok hp hbA
  go_enter Tryd.func26, Tryd.ntmps26
  go_wp2_with fail
  refine HI.out.mono ?_
  rintro e w1 ⟨rfl, hb⟩
  have hb2 := then_ HB.out hb
  have hr : w1.heap[w.heap.size]? = some (.cells #[.int .i64 0, .int .i64 0, .string ⟨#[]⟩, .slice none 0 0, .int .i64 0] 44 (0, 0)) := (hb.block w.heap.size (by simp)).trans (heap_alloc_new w _)
  have z0 := cell_of_row w1 _ 0 _ _ _ hr; have z1 := cell_of_row w1 _ 1 _ _ _ hr; have z2 := cell_of_row w1 _ 2 _ _ _ hr; have z3 := cell_of_row w1 _ 3 _ _ _ hr; have z4 := cell_of_row w1 _ 4 _ _ _ hr
  have y0 := frozen_of_row w1 _ 0 _ _ hr; have y1 := frozen_of_row w1 _ 1 _ _ hr; have y2 := frozen_of_row w1 _ 2 _ _ hr; have y3 := frozen_of_row w1 _ 3 _ _ hr; have y4 := frozen_of_row w1 _ 4 _ _ hr
  simp at z0 z1 z2 z3 z4
  have HB2 := Hid.mk' hb2; have HR := Hid.mk' hr
  clear hb hb2 hr
  go_wp2
  have hb6 := ((((HB2.out.setCell (p := ⟨w.heap.size, 0, none⟩) (Nat.le_refl _) (.int .i64 0)).setCell (p := ⟨w.heap.size, 1, none⟩) (Nat.le_refl _) (.int .i64 0)).setCell (p := ⟨w.heap.size, 2, none⟩) (Nat.le_refl _) (.string ⟨#[]⟩)).setCell (p := ⟨w.heap.size, 3, none⟩) (Nat.le_refl _) (.slice none 0 0)).setCell (p := ⟨w.heap.size, 4, none⟩) (Nat.le_refl _) (.int .i64 0)
  have hr6 := heap_setCell_same _ _ 4 _ _ (.int .i64 0) (heap_setCell_same _ _ 3 _ _ (.slice none 0 0) (heap_setCell_same _ _ 2 _ _ (.string ⟨#[]⟩) (heap_setCell_same _ _ 1 _ _ (.int .i64 0) (heap_setCell_same _ _ 0 _ _ (.int .i64 0) HR.out))))
  generalize (((((w1.setCell ⟨w.heap.size, 0, none⟩ (Value.int .i64 0)).setCell ⟨w.heap.size, 1, none⟩ (Value.int .i64 0)).setCell ⟨w.heap.size, 2, none⟩ (Value.string ⟨#[]⟩)).setCell ⟨w.heap.size, 3, none⟩ (Value.slice none 0 0)).setCell ⟨w.heap.size, 4, none⟩ (Value.int .i64 0)) = w6 at hb6 hr6 ⊢
  have r0 : w6.cell? ⟨w.heap.size, 0, none⟩ = some (.int .i64 0) := cell_of_row w6 _ 0 _ _ _ hr6
  have r1 : w6.cell? ⟨w.heap.size, 1, none⟩ = some (.int .i64 0) := cell_of_row w6 _ 1 _ _ _ hr6
  have r2 : w6.cell? ⟨w.heap.size, 2, none⟩ = some (.string ⟨#[]⟩) := cell_of_row w6 _ 2 _ _ _ hr6
  have r3 : w6.cell? ⟨w.heap.size, 3, none⟩ = some (.slice none 0 0) := cell_of_row w6 _ 3 _ _ _ hr6
  have r4 : w6.cell? ⟨w.heap.size, 4, none⟩ = some (.int .i64 0) := cell_of_row w6 _ 4 _ _ _ hr6
  refine bodyPost_ret (v := .tuple #[.agg #[.int .i64 0, .int .i64 0, .string ⟨#[]⟩, .slice none 0 0, .int .i64 0], .bool false]) (by simp [results, Tryd.results26, go_sem, r0, r1, r2, r3, r4]) rfl ⟨rfl, hb6⟩
set_option maxHeartbeats 1600000 in
theorem getU_some (s : Sp.St) (S : Nat → Prop) (g : Nat) (id : Int) (i : Nat) (w : World) (h : SpoolAt w S g s) (ok : Sp.Ok s) (hp : Sp.place s.l id = some i) (hi : i < s.l.length) :
    Calls Tryd.prog 26 #[.pointer (some ⟨g, 0, none⟩), .int .i64 id] w fun e w' => ∃ ao cap, e = .returned (.tuple #[.agg #[.int .i64 s.l[i].id, .int .i64 s.l[i].size, .string s.l[i].note, .slice ao s.l[i].bytes.length cap, .int .i64 s.l[i].sent], .bool true]) ∧ IsB w' ao cap s.l[i].bytes ∧ Below w.heap.size w w' := by
  have hbA := (Below.refl _ w).alloc (Nat.le_refl _) (.cells #[.int .i64 0, .int .i64 0, .string ⟨#[]⟩, .slice none 0 0, .int .i64 0] 44)
  have HI := Hid.mk' (findU_any s S g id _ (h.stay hbA) (by have := ok.few; omega))
  rw [Sp.pl_some hp] at HI
  have HB := Hid.mk' hbA
  have HA := Hid.mk' h
  have hk := ok.all _ (List.getElem_mem hi)
  have k1 := hk.long; have k2 := hk.note; have hfew := ok.few
  have hi' : (i : Int) < s.l.length := by omega
  obtain ⟨u, hu⟩ : ∃ u, s.l[i] = u := ⟨_, rfl⟩
  rw [hu] at k1 k2 ⊢
  have HUE := Hid.mk' hu
  clear h ok hp hbA hk hu
  go_enter Tryd.func26, Tryd.ntmps26
  go_wp2_with fail
  refine HI.out.mono ?_
  rintro e w1 ⟨rfl, hb⟩
  have hb2 := then_ HB.out hb
  obtain ⟨gu, hgu⟩ := RowAt.of (HA.out.stay hb2) hi
  obtain ⟨q, h0, h1, h2, h3, h4, hf, hIB⟩ := RowAt.up (HA.out.stay hb2) hgu hi
  rw [HUE.out] at h0 h1 h2 h3 h4 hIB
  obtain ⟨cap, hcap, hc⟩ := hgu
  have HC := Hid.mk' (cloneU_any u.id u.size u.sent u.note q.bo u.bytes.length q.bcap u.bytes w1 hIB rfl (by omega) (by omega))
  have hr : w1.heap[w.heap.size]? = some (.cells #[.int .i64 0, .int .i64 0, .string ⟨#[]⟩, .slice none 0 0, .int .i64 0] 44 (0, 0)) := (hb.block w.heap.size (by simp)).trans (heap_alloc_new w _)
  have hlw : w.heap.size < w1.heap.size := (Array.getElem?_eq_some_iff.1 hr).1
  have HB2 := Hid.mk' hb2; have HR := Hid.mk' hr
  clear hb hb2 hr hf hIB HA HI HB
  go_wp2_with fail
  refine HC.out.mono ?_
  rintro e w3 ⟨ao', cap', rfl, hO, hb3⟩
  have hb4 := then_ HB2.out hb3
  have hr := (hb3.block w.heap.size hlw).trans HR.out
  have z0 := cell_of_row w3 _ 0 _ _ _ hr; have z1 := cell_of_row w3 _ 1 _ _ _ hr; have z2 := cell_of_row w3 _ 2 _ _ _ hr; have z3 := cell_of_row w3 _ 3 _ _ _ hr; have z4 := cell_of_row w3 _ 4 _ _ _ hr
  have y0 := frozen_of_row w3 _ 0 _ _ hr; have y1 := frozen_of_row w3 _ 1 _ _ hr; have y2 := frozen_of_row w3 _ 2 _ _ hr; have y3 := frozen_of_row w3 _ 3 _ _ hr; have y4 := frozen_of_row w3 _ 4 _ _ hr
  simp at z0 z1 z2 z3 z4
  have HB4 := Hid.mk' hb4; have HR4 := Hid.mk' hr; have HO := Hid.mk' hO
  clear hb4 hr hb3 hO HR HC
  go_wp2
  have hb6 := ((((HB4.out.setCell (p := ⟨w.heap.size, 0, none⟩) (Nat.le_refl _) (.int .i64 u.id)).setCell (p := ⟨w.heap.size, 1, none⟩) (Nat.le_refl _) (.int .i64 u.size)).setCell (p := ⟨w.heap.size, 2, none⟩) (Nat.le_refl _) (.string u.note)).setCell (p := ⟨w.heap.size, 3, none⟩) (Nat.le_refl _) (.slice ao' u.bytes.length cap')).setCell (p := ⟨w.heap.size, 4, none⟩) (Nat.le_refl _) (.int .i64 u.sent)
  have hr6 := heap_setCell_same _ _ 4 _ _ (.int .i64 u.sent) (heap_setCell_same _ _ 3 _ _ (.slice ao' u.bytes.length cap') (heap_setCell_same _ _ 2 _ _ (.string u.note) (heap_setCell_same _ _ 1 _ _ (.int .i64 u.size) (heap_setCell_same _ _ 0 _ _ (.int .i64 u.id) HR4.out))))
  have hO6 := (HO.out.turns (turns_setCells w.heap.size [.int .i64 u.id, .int .i64 u.size, .string u.note, .slice ao' u.bytes.length cap', .int .i64 u.sent] 0 w3) (fun k e h => by subst h; omega)).isB
  change IsB (((((w3.setCell ⟨w.heap.size, 0, none⟩ (Value.int .i64 u.id)).setCell ⟨w.heap.size, 1, none⟩ (Value.int .i64 u.size)).setCell ⟨w.heap.size, 2, none⟩ (Value.string u.note)).setCell ⟨w.heap.size, 3, none⟩ (Value.slice ao' u.bytes.length cap')).setCell ⟨w.heap.size, 4, none⟩ (Value.int .i64 u.sent)) _ _ _ at hO6
  generalize (((((w3.setCell ⟨w.heap.size, 0, none⟩ (Value.int .i64 u.id)).setCell ⟨w.heap.size, 1, none⟩ (Value.int .i64 u.size)).setCell ⟨w.heap.size, 2, none⟩ (Value.string u.note)).setCell ⟨w.heap.size, 3, none⟩ (Value.slice ao' u.bytes.length cap')).setCell ⟨w.heap.size, 4, none⟩ (Value.int .i64 u.sent)) = w6 at hb6 hr6 hO6 ⊢
  have r0 : w6.cell? ⟨w.heap.size, 0, none⟩ = some (.int .i64 u.id) := cell_of_row w6 _ 0 _ _ _ hr6
  have r1 : w6.cell? ⟨w.heap.size, 1, none⟩ = some (.int .i64 u.size) := cell_of_row w6 _ 1 _ _ _ hr6
  have r2 : w6.cell? ⟨w.heap.size, 2, none⟩ = some (.string u.note) := cell_of_row w6 _ 2 _ _ _ hr6
  have r3 : w6.cell? ⟨w.heap.size, 3, none⟩ = some (.slice ao' u.bytes.length cap') := cell_of_row w6 _ 3 _ _ _ hr6
  have r4 : w6.cell? ⟨w.heap.size, 4, none⟩ = some (.int .i64 u.sent) := cell_of_row w6 _ 4 _ _ _ hr6
  refine bodyPost_ret (v := .tuple #[.agg #[.int .i64 u.id, .int .i64 u.size, .string u.note, .slice ao' u.bytes.length cap', .int .i64 u.sent], .bool true]) (by simp [results, Tryd.results26, go_sem, r0, r1, r2, r3, r4]) rfl ⟨ao', cap', rfl, hO6, hb6⟩
end Go.Proofs.YtankilclhknbkaaDoor

/- Package spool, walked: New. The statements' own: steps in memory, greatSteps, spoolBegun. -/
namespace Go.Proofs.YtankilclhknbkaaDoor
open Go.RowKit

/-- a step that is asked of a spool -/
structure Stp where
  op : Int
  id : Int
  n : Int
  text : ByteArray
def stpC (s : Stp) : List Value := [.int .i64 s.op, .int .i64 s.id, .int .i64 s.n, .string s.text]
def stpV (l : List Stp) : List Value := l.flatMap stpC
theorem stpV_length (l : List Stp) : (stpV l).length = l.length * 4 := by
  induction l with
  | nil => rfl
  | cons p t ih =>
    have e : (stpC p).length = 4 := rfl
    simp only [stpV, List.flatMap_cons, List.length_append, List.length_cons] at ih ⊢
    rw [ih, e]; omega
theorem stpV_at : ∀ (l : List Stp) (i : Nat) (hi : i < l.length) (j : Nat), j < 4 → (stpV l)[i * 4 + j]? = (stpC l[i])[j]?
  | p :: t, 0, _, j, hj => by
    show (stpC p ++ stpV t)[0 * 4 + j]? = _
    rw [List.getElem?_append_left (by rw [show (stpC p).length = 4 from rfl]; omega), Nat.zero_mul, Nat.zero_add]
    rfl
  | p :: t, i + 1, hi, j, hj => by
    show (stpC p ++ stpV t)[(i + 1) * 4 + j]? = _
    rw [List.getElem?_append_right (by rw [show (stpC p).length = 4 from rfl]; omega), show (stpC p).length = 4 from rfl, show (i + 1) * 4 + j - 4 = i * 4 + j by omega]
    exact stpV_at t i (by simpa using hi) j hj
/-- a step's cells -/
theorem stp_at {w : World} {ao : Option Addr} {cap n : Nat} {l : List Stp} (h : IsV w ao cap n (stpV l)) (k : Nat) (hk : k < l.length) : ∃ b o, ao = some ⟨b, o, none⟩ ∧ w.cell? ⟨b, o + k * 4, none⟩ = some (.int .i64 l[k].op) ∧ w.cell? ⟨b, o + k * 4 + 1, none⟩ = some (.int .i64 l[k].id) ∧ w.cell? ⟨b, o + k * 4 + 2, none⟩ = some (.int .i64 l[k].n) ∧ w.cell? ⟨b, o + k * 4 + 3, none⟩ = some (.string l[k].text) := by
  obtain ⟨b, o, rfl, hc⟩ := h.lit (by rw [stpV_length]; omega)
  have e : ∀ j v, j < 4 → (stpC l[k])[j]? = some v → w.cell? ⟨b, o + k * 4 + j, none⟩ = some v := fun j v hj hv => by
    rw [Nat.add_assoc]; exact hc _ _ ((stpV_at l k hk j hj).trans hv)
  exact ⟨b, o, rfl, e 0 _ (by decide) rfl, e 1 _ (by decide) rfl, e 2 _ (by decide) rfl, e 3 _ (by decide) rfl⟩
/-- how many bytes the texts have -/
def stpN : List Stp → Nat
  | [] => 0
  | s :: t => s.text.size + stpN t
theorem stpN_append : ∀ a b : List Stp, stpN (a ++ b) = stpN a + stpN b
  | [], b => by simp [stpN]
  | u :: t, b => by rw [List.cons_append, stpN, stpN, stpN_append t b]; omega
theorem stpN_take (l : List Stp) (k : Nat) (h : k < l.length) : stpN (l.take (k + 1)) = stpN (l.take k) + l[k].text.size := by
  rw [List.take_succ_eq_append_getElem h, stpN_append]
  simp [stpN]
theorem stpN_le (l : List Stp) (k : Nat) : stpN (l.take k) ≤ stpN l := by
  conv => rhs; rw [← List.take_append_drop k l, stpN_append]
  omega
theorem stpN_bound : ∀ (l : List Stp), (∀ p ∈ l, p.text.size ≤ 140737488355328) → stpN l ≤ l.length * 140737488355328
  | [], _ => by simp [stpN]
  | s :: t, h => by
    have := stpN_bound t (fun p hp => h p (by simp [hp]))
    have := h s (by simp)
    rw [stpN, List.length_cons]; omega
theorem stpN_one (l : List Stp) (k : Nat) (h : k < l.length) : l[k].text.size ≤ stpN l := by
  have h1 := stpN_take l k h
  have h2 := stpN_le l (k + 1)
  omega
theorem newU_any (w : World) :
    Calls Tryd.prog 6 #[] w fun e w' => e = .returned (.pointer (some ⟨w.heap.size, 0, none⟩)) ∧ SpoolAt w' (fun k => w.heap.size ≤ k) w.heap.size Sp.new ∧ Below w.heap.size w w' := by
  have hbA := (Below.refl _ w).alloc (Nat.le_refl _) (.cells #[.slice none 0 0, .int .i64 0] 49)
  have HX : Hid (SpoolAt (w.alloc (.cells #[.slice none 0 0, .int .i64 0] 49)) (fun k => w.heap.size ≤ k) w.heap.size Sp.new) := ⟨none, 0, heap_alloc_new w _, Nat.le_refl _, UpO.nil _ _ _ _⟩
  have HB := Hid.mk' hbA
  clear hbA
  go_enter Tryd.func6, Tryd.ntmps6
  go_wp2
  go_ret
  exact ⟨rfl, HX.out, HB.out⟩
set_option maxHeartbeats 800000 in
theorem greatSteps_any (l : List Stp) (ao : Option Addr) (cap n : Nat) (w : World) (hl : IsV w ao cap n (stpV l)) (hn : l.length = n) (hz : ∀ p ∈ l, p.text.size ≤ 140737488355328) (hN : n ≤ 9223372036854775807) :
    Calls Tryd.prog 5 #[.slice ao n cap] w fun e w' => ∃ b : Bool, e = .returned (.bool b) ∧ (b = false → l.length ≤ 200 ∧ stpN l ≤ 20000) ∧ w' = w := by
  subst hn
  have H := Hid.mk' hl
  have hcap := hl.1
  clear hl
  by_cases h200 : 200 < l.length
  · have t200 : decide ((l.length : Int) > 200) = true := by rw [decide_eq_true_eq]; omega
    clear hz
    go_enter Tryd.func5, Tryd.ntmps5
    go_wp2
    go_loop [3, 4] (fun v t => ∃ (k : Nat) (z : Int), k ≤ l.length ∧ t = .int .i64 k ∧ v = .int .i64 z) (fun _ t => l.length - (intOf t).toNat)
    case atStart => exact ⟨0, 0, Nat.zero_le _, rfl, rfl⟩
    case round =>
      obtain ⟨k, z, hk, rfl, rfl⟩ := hrel
      by_cases hlt : k < l.length
      · obtain ⟨bb, oo, rfl, hc0, hc1, hc2, hc3⟩ := stp_at H.out k hlt
        have hlt' : (k : Int) < l.length := by omega
        generalize l[k] = p at *
        go_wp2
        go_round
        case rel => exact ⟨k + 1, _, by omega, by go_num, rfl⟩
        case measure => simp [intOf]; omega
      · obtain rfl : k = l.length := by omega
        go_wp2
        go_ret
        exact Or.inr ⟨rfl, rfl⟩
  · have t200 : decide ((l.length : Int) > 200) = false := by rw [decide_eq_false_iff_not]; omega
    have hb := stpN_bound l hz
    clear hz
    go_enter Tryd.func5, Tryd.ntmps5
    go_wp2
    go_loop [3, 4] (fun v t => ∃ k : Nat, k ≤ l.length ∧ t = .int .i64 k ∧ v = .int .i64 (stpN (l.take k) : Int)) (fun _ t => l.length - (intOf t).toNat)
    case atStart => exact ⟨0, Nat.zero_le _, rfl, rfl⟩
    case round =>
      obtain ⟨k, hk, rfl, rfl⟩ := hrel
      have hu := stpN_le l k
      by_cases hlt : k < l.length
      · obtain ⟨bb, oo, rfl, hc0, hc1, hc2, hc3⟩ := stp_at H.out k hlt
        have hlt' : (k : Int) < l.length := by omega
        have HT : Hid (stpN (l.take (k + 1)) = stpN (l.take k) + l[k].text.size) := stpN_take l k hlt
        have hone := stpN_one l k hlt
        generalize l[k] = p at *
        generalize stpN (l.take k) = q at *
        go_wp2
        go_round
        case rel => exact ⟨k + 1, by omega, by go_num, by rw [HT.out]; go_num⟩
        case measure => simp [intOf]; omega
      · obtain rfl : k = l.length := by omega
        rw [List.take_length] at hu ⊢
        by_cases hg : 20000 < stpN l
        · have tg : decide ((stpN l : Int) > 20000) = true := by rw [decide_eq_true_eq]; omega
          go_wp2
          go_ret
          exact Or.inr ⟨rfl, rfl⟩
        · have tg : decide ((stpN l : Int) > 20000) = false := by rw [decide_eq_false_iff_not]; omega
          go_wp2
          go_ret
          exact Or.inl ⟨rfl, ⟨by omega, by omega⟩, rfl⟩
end Go.Proofs.YtankilclhknbkaaDoor

/- The document's own answer, walked: a Hold: Create. -/
namespace Go.Proofs.YtankilclhknbkaaDoor
open Go.RowKit

set_option maxRecDepth 100000 in
set_option maxHeartbeats 2000000 in
theorem createH_any (s : Sp.St) (S : Nat → Prop) (g : Nat) (sz : Int) (m : ByteArray) (w : World) (h : HoldAt w S g s) (ok : Sp.Ok s) (hl : s.last ≤ 1000000) (hm : m.size ≤ 1000000) :
    Calls Tryd.prog 10 #[.pointer (some ⟨g, 0, none⟩), .int .i64 sz, .string m] w (Made S 30 w g (Sp.create s sz m)) := by
  have hN := ok.few
  have hl0 := ok.last0
  obtain ⟨ao, cap, c0, c1, f0, f1, hg, hS, hU⟩ := h.cells
  have hcap := hU.cap_
  by_cases h1 : sz < -1
  · have HR : Hid (Made S 30 w g (Sp.create s sz m) (.returned (.tuple #[.int .i64 0, .int .i64 (1 : Nat)])) w) := Made.none_ h (Below.refl _ _) (by unfold Sp.create; rw [if_pos h1])
    clear h ok hU hg c0 c1
    go_enter Tryd.func10, Tryd.ntmps10
    go_wp2
    go_ret2
    exact HR.out
  · have n1 : decide (sz < -1) = false := by rw [decide_eq_false_iff_not]; exact h1
    by_cases h2 : 2000 < sz
    · have HR : Hid (Made S 30 w g (Sp.create s sz m) (.returned (.tuple #[.int .i64 0, .int .i64 (4 : Nat)])) w) := Made.none_ h (Below.refl _ _) (by unfold Sp.create; rw [if_neg h1, if_pos (Or.inl h2)])
      have n2 : decide (sz > 2000) = true := by rw [decide_eq_true_eq]; exact h2
      clear h ok hU hg c0 c1
      go_enter Tryd.func10, Tryd.ntmps10
      go_wp2
      go_ret2
      exact HR.out
    · have n2 : decide (sz > 2000) = false := by rw [decide_eq_false_iff_not]; exact h2
      by_cases h3 : 100 < m.size
      · have HR : Hid (Made S 30 w g (Sp.create s sz m) (.returned (.tuple #[.int .i64 0, .int .i64 (4 : Nat)])) w) := Made.none_ h (Below.refl _ _) (by unfold Sp.create; rw [if_neg h1, if_pos (Or.inr h3)])
        have n3 : decide ((m.size : Int) > 100) = true := by rw [decide_eq_true_eq]; omega
        clear h ok hU hg c0 c1
        go_enter Tryd.func10, Tryd.ntmps10
        go_wp2
        go_ret2
        exact HR.out
      · have n3 : decide ((m.size : Int) > 100) = false := by rw [decide_eq_false_iff_not]; omega
        have e2 : ¬ (2000 < sz ∨ 100 < m.size) := by omega
        have HV := Hid.mk' (seenText_any m w (by unfold maxLen; omega))
        cases hv : Ch.isVisible m.data.toList with
        | false =>
          rw [hv] at HV
          have HR : Hid (Made S 30 w g (Sp.create s sz m) (.returned (.tuple #[.int .i64 0, .int .i64 (3 : Nat)])) w) := Made.none_ h (Below.refl _ _) (by unfold Sp.create; rw [if_neg h1, if_neg e2, if_pos (Or.inl hv)])
          clear h ok hU hg c0 c1 hv
          go_enter Tryd.func10, Tryd.ntmps10
          go_wp2_with (go_at_call 34; refine HV.out.mono ?_; rintro e w1 ⟨rfl, hw⟩; rw [hw]; clear hw)
          go_ret2
          exact HR.out
        | true =>
          rw [hv] at HV
          have HTr := Hid.mk' (trimmed_any m w (by unfold maxLen; omega))
          have hts := text_same ⟨(Lib.trimS m.data.toList Ch.ws).toArray⟩ m
          obtain ⟨T, hT⟩ : ∃ T : ByteArray, T = ⟨(Lib.trimS m.data.toList Ch.ws).toArray⟩ := ⟨_, rfl⟩
          have hTd : T.data.toList = Lib.trimS m.data.toList Ch.ws := by rw [hT]
          rw [← hT] at HTr hts
          rw [hTd] at hts
          by_cases h4 : Lib.trimS m.data.toList Ch.ws = m.data.toList
          · rw [decide_eq_true h4] at hts
            have e3 : ¬ (Ch.isVisible m.data.toList = false ∨ Lib.trimS m.data.toList Ch.ws ≠ m.data.toList) := by rw [hv]; simpa using h4
            by_cases h5 : 12 ≤ s.l.length
            · have HR : Hid (Made S 30 w g (Sp.create s sz m) (.returned (.tuple #[.int .i64 0, .int .i64 (8 : Nat)])) w) := Made.none_ h (Below.refl _ _) (by unfold Sp.create; rw [if_neg h1, if_neg e2, if_neg e3, if_pos h5])
              have n5 : decide ((s.l.length : Int) ≥ 12) = true := by rw [decide_eq_true_eq]; omega
              clear h ok hU hg c1 hT hTd h4 hv e3
              go_enter Tryd.func10, Tryd.ntmps10
              go_wp2_with (first | (go_at_call 34; refine HV.out.mono ?_; rintro e w1 ⟨rfl, hw⟩; rw [hw]; clear hw) | (go_at_call 35; refine HTr.out.mono ?_; rintro e w1 ⟨rfl, hw⟩; rw [hw]; clear hw))
              go_ret2
              exact HR.out
            · have n5 : decide ((s.l.length : Int) ≥ 12) = false := by rw [decide_eq_false_iff_not]; omega
              have HCr : Hid (Sp.create s sz m = (⟨s.l ++ [⟨s.last + 1, sz, m, [], 0⟩], s.last + 1⟩, s.last + 1, 0)) := by unfold Sp.create; rw [if_neg h1, if_neg e2, if_neg e3, if_neg h5]; exact rfl
              have HA := Hid.mk' h
              have hwl : IntKind.i64.wrap (s.last + 1) = s.last + 1 := wrap_id (by omega) (by omega)
              clear h ok hU hg f0 hT hTd h4 hv e3
              go_enter Tryd.func10, Tryd.ntmps10
              go_wp2_with (first | (go_at_call 34; refine HV.out.mono ?_; rintro e w1 ⟨rfl, hw⟩; rw [hw]; clear hw) | (go_at_call 35; refine HTr.out.mono ?_; rintro e w1 ⟨rfl, hw⟩; rw [hw]; clear hw))
              obtain ⟨hs2, ht2⟩ := HA.out.last_ (s.last + 1)
              have hT2 : Turns S w (w.setCell ⟨g, 1, none⟩ (.int .i64 (s.last + 1))) := ht2.mono (fun k e => by subst e; exact hS)
              generalize hw3 : w.setCell ⟨g, 1, none⟩ (.int .i64 (s.last + 1)) = wc at *
              clear hw3 ht2 c0 c1 f1 HTr HV
              obtain ⟨ao3, cap3, c0, c1, f0, f1, hg4, hS3, hU4⟩ := hs2.cells
              have hlt := hs2.lt
              have HT3 := Hid.mk' hT2
              clear hs2 hT2 HA
              simp only at c0 c1
              obtain ⟨xs, hO, hP⟩ := hU4.push (.cells #[.int .i64 (s.last + 1), .int .i64 sz, .string m, .slice none 0 0, .int .i64 0] 44)
              have hbA := (Below.refl _ wc).alloc (Nat.le_refl _) (.cells #[.int .i64 (s.last + 1), .int .i64 sz, .string m, .slice none 0 0, .int .i64 0] 44)
              have hbl : ∀ k, blockOf ao3 = some k → (S k ∧ k ≠ g) := fun k e => by
                obtain ⟨us, _, h2, h3, _⟩ := hU4
                cases ao3 with
                | none => cases e
                | some a => injection e with e; subst e; exact h3 a rfl
              have HK : Hid (∀ w5, (wc.alloc (.cells #[.int .i64 (s.last + 1), .int .i64 sz, .string m, .slice none 0 0, .int .i64 0] 44)).drew.grownBy w5 (Value.slice ao3 s.l.length cap3).ownBlock → w5.heap[g]? = some (.cells #[.slice ao3 s.l.length cap3, .int .i64 (s.last + 1)] 30 (0, 0))) := fun w5 hG => by
                rw [ownBlock_slice] at hG
                rw [hG.block g (by show g < (wc.alloc _).heap.size; rw [World.size_alloc]; omega) (fun e => (hbl g e.symm).2 rfl)]
                exact (hbA.block g (by omega)).trans hg4
              have c0a : (wc.alloc (.cells #[.int .i64 (s.last + 1), .int .i64 sz, .string m, .slice none 0 0, .int .i64 0] 44)).cell? ⟨g, 0, none⟩ = some (.slice ao3 s.l.length cap3) := (hbA.cell (p := ⟨g, 0, none⟩) hlt).trans c0
              have c1a : (wc.alloc (.cells #[.int .i64 (s.last + 1), .int .i64 sz, .string m, .slice none 0 0, .int .i64 0] 44)).cell? ⟨g, 1, none⟩ = some (.int .i64 (s.last + 1)) := (hbA.cell (p := ⟨g, 1, none⟩) hlt).trans c1
              have HOw := Hid.mk' (OwnV.stay hO (below_drew _ _))
              have HNw : Hid (∀ j u, (upC ⟨s.last + 1, sz, m, [], 0⟩ ⟨none, 0⟩)[j]? = some u → (wc.alloc (.cells #[.int .i64 (s.last + 1), .int .i64 sz, .string m, .slice none 0 0, .int .i64 0] 44)).drew.cell? (Addr.add ⟨wc.heap.size, 0, none⟩ j) = some u) := fun j u hu => by
                rw [Addr.add_lit, Nat.zero_add]
                show (wc.alloc _).cell? _ = _
                rw [World.cell?_alloc_at _ _ _ _ rfl, List.getElem?_toArray]
                exact hu
              have HP := Hid.mk' hP
              obtain ⟨i0, hi0, hz0, hz1, hz2⟩ := info_parts info_up
              have Hi := Hid.mk' hi0; have Hz0 := Hid.mk' hz0; have Hz1 := Hid.mk' hz1; have Hz2 := Hid.mk' hz2
              have HN : Hid (s.l.length + 1 ≤ maxLen ∧ (s.l.length + 1) * 64 ≤ 140737488355328) := ⟨by unfold maxLen; omega, by omega⟩
              clear hi0 hz0 hz1 hz2 hO hP hbl hbA hg4 hU4 f0 f1
              go_wp2
              go_region_law
                ((refine step_append_lies _ (by rfl) _ _ _ (by rfl) 0 44 i0 (.agg #[.int .i64 0, .int .i64 0, .string ⟨#[]⟩, .slice none 0 0, .int .i64 0]) 5 64 Tryd.underlying28 Hi.out Hz0.out Hz1.out Hz2.out (by rfl) (by decide) (.slice ao3 s.l.length cap3) s.l.length _ (by rfl) HOw.out ⟨wc.heap.size, 0, none⟩ 1 1 (upC ⟨s.last + 1, sz, m, [], 0⟩ ⟨none, 0⟩) (by rfl) (by rfl) HNw.out (upC_one _ _) (by decide) HN.out.1 HN.out.2 (Nat.zero_le _) (wc.heap.size + 1) (by simp) ?_; intro g5 cap5 w5 hown5 hgrow hat5 hlt5; have r5 := HK.out _ hgrow; have q0 : w5.cell? ⟨g, 0, none⟩ = some (.slice ao3 s.l.length cap3) := cell_of_row w5 g 0 _ _ _ r5; have q1 : w5.frozen? ⟨g, 0, none⟩ = false := frozen_of_row w5 g 0 _ _ r5; have q2 : w5.cell? ⟨g, 1, none⟩ = some (.int .i64 (s.last + 1)) := cell_of_row w5 g 1 _ _ _ r5; have HR5 := Hid.mk' r5; have HG5 := Hid.mk' hgrow; have HO5 := Hid.mk' hown5; have HA5 := Hid.mk' hat5; clear hgrow hown5 hat5 r5 hlt5))
              all_goals
                go_wp2
                go_ret2
                have hG := HG5.out
                have hat := HA5.out
                rw [ownBlock_slice] at hG hat
                obtain ⟨r1, r2⟩ := HP.out (some ⟨g5, 0, none⟩) cap5 w5 ⟨s.last + 1, sz, m, [], 0⟩ ⟨none, 0⟩ (fun _ => False) (GrowB.nil _ _ _) (fun _ _ e => e) HO5.out (grown_trans (grown_drew _ _) hG) (by
                  rcases hat with e | e
                  · exact Or.inl e.symm
                  · exact Or.inr (by rw [World.size_alloc, e]; rfl))
                have hszw := HT3.out.size
                obtain ⟨hL, hTL⟩ := SpAt.lay (S := orNew S w) HR5.out (Or.inl hS3) (n := s.l.length + 1) (r1.mono (fun k _ e => by
                  rcases e with e | e | e
                  · exact ⟨Or.inl e.1, e.2⟩
                  · exact e.elim
                  · exact ⟨Or.inr (by omega), by omega⟩)) (by simp)
                refine ⟨by rw [HCr.out]; rfl, by rw [HCr.out]; exact hL, ?_⟩
                exact (HT3.out.trans (r2.mono (fun k e => e.1)) (fun _ e _ => e)).trans (hTL.mono (fun k e => by subst e; exact hS3)) (fun _ e _ => e)
          · rw [decide_eq_false h4] at hts
            have HR : Hid (Made S 30 w g (Sp.create s sz m) (.returned (.tuple #[.int .i64 0, .int .i64 (3 : Nat)])) w) := Made.none_ h (Below.refl _ _) (by unfold Sp.create; rw [if_neg h1, if_neg e2, if_pos (Or.inr h4)])
            clear h ok hU hg c0 c1 hT hTd h4 hv
            go_enter Tryd.func10, Tryd.ntmps10
            go_wp2_with (first | (go_at_call 34; refine HV.out.mono ?_; rintro e w1 ⟨rfl, hw⟩; rw [hw]; clear hw) | (go_at_call 35; refine HTr.out.mono ?_; rintro e w1 ⟨rfl, hw⟩; rw [hw]; clear hw))
            go_ret2
            exact HR.out
end Go.Proofs.YtankilclhknbkaaDoor

/- The document's own answer, walked: CopyUploads, a Hold's Copy. -/
namespace Go.Proofs.YtankilclhknbkaaDoor
open Go.RowKit

set_option maxRecDepth 100000 in
set_option maxHeartbeats 2000000 in
theorem copyUps_any (l : List Sp.Up) (ao : Option Addr) (cap n : Nat) (w : World) (hl : IsUps w ao cap l) (hcap : n ≤ cap) (hn : l.length = n) (hz : SmallU l) :
    Calls Tryd.prog 30 #[.slice ao n cap] w fun e w' => ∃ ao' cap', e = .returned (.slice ao' n cap') ∧ UpO w' (fun k => w.heap.size ≤ k) 44 5 ao' cap' l ∧ Below w.heap.size w w' := by
  subst hn
  have hN := hz.1
  have H := Hid.mk' hl
  have HZ := Hid.mk' hz
  obtain ⟨i0, hi0, hz0, hz1, hz2⟩ := info_parts info_u8
  have Hi := Hid.mk' hi0; have Hz0 := Hid.mk' hz0; have Hz1 := Hid.mk' hz1; have Hz2 := Hid.mk' hz2
  obtain ⟨j0, hj0, hy0, hy1, hy2⟩ := info_parts info_up
  have Hj := Hid.mk' hj0; have Hy0 := Hid.mk' hy0; have Hy1 := Hid.mk' hy1; have Hy2 := Hid.mk' hy2
  clear hl hz hi0 hz0 hz1 hz2 hj0 hy0 hy1 hy2
  go_enter Tryd.func30, Tryd.ntmps30
  go_wp2
  go_loopw [3, 4] (fun v t wr => ∃ (k : Nat) (ao' : Option Addr) (cap' : Nat), k ≤ l.length ∧ t = .int .i64 k ∧ v = .slice ao' k cap' ∧ Below w.heap.size w wr ∧ UpO wr (fun k => w.heap.size ≤ k) 44 5 ao' cap' (l.take k)) (fun _ t _ => l.length - (intOf t).toNat)
  case atStart => exact ⟨0, none, 0, Nat.zero_le _, rfl, rfl, Below.refl _ _, UpO.nil _ _ _ _⟩
  case round =>
    obtain ⟨k, ao', cap', hk, rfl, rfl, hB, hU⟩ := hrel
    have HB := Hid.mk' hB
    have HU := Hid.mk' hU
    clear hB hU
    by_cases hlt : k < l.length
    · obtain ⟨bb, oo, q, rfl, hc0, hc1, hc2, hc3, hc4, hIB⟩ := (H.out.stay HB.out).at_ k hlt
      have hlt' : (k : Int) < l.length := by omega
      have hz := HZ.out.2 l[k] (List.getElem_mem hlt)
      have HT : Hid (l.take (k + 1) = l.take k ++ [l[k]]) := List.take_succ_eq_append_getElem hlt
      have hszr := HB.out.size
      have hbA := (Below.refl _ wr).alloc (Nat.le_refl _) (.cells #[.int .i64 l[k].id, .int .i64 l[k].size, .string l[k].note, .slice q.bo l[k].bytes.length q.bcap, .int .i64 l[k].sent] 44)
      have HIB := Hid.mk' (hIB.stay hbA)
      have hd3 : (wr.alloc (.cells #[.int .i64 l[k].id, .int .i64 l[k].size, .string l[k].note, .slice q.bo l[k].bytes.length q.bcap, .int .i64 l[k].sent] 44)).cell? ⟨bb, oo + k * 5 + 3, none⟩ = some (.slice q.bo l[k].bytes.length q.bcap) := by
        rw [hbA.cell (p := ⟨bb, oo + k * 5 + 3, none⟩) (World.block_lt_of_cell? wr _ hc3)]; exact hc3
      have HX : Hid (∀ w2 bo3 bc3, GrowB w2 (fun j => blkB [] none = some j ∨ (wr.alloc (.cells #[.int .i64 l[k].id, .int .i64 l[k].size, .string l[k].note, .slice q.bo l[k].bytes.length q.bcap, .int .i64 l[k].sent] 44)).heap.size ≤ j) 5 bo3 bc3 ([] ++ l[k].bytes) → Turns (fun j => blkB [] none = some j) (wr.alloc (.cells #[.int .i64 l[k].id, .int .i64 l[k].size, .string l[k].note, .slice q.bo l[k].bytes.length q.bcap, .int .i64 l[k].sent] 44)) w2 →
          w2.heap[wr.heap.size]? = some (.cells #[.int .i64 l[k].id, .int .i64 l[k].size, .string l[k].note, .slice q.bo l[k].bytes.length q.bcap, .int .i64 l[k].sent] 44 (0, 0)) ∧
          (w2.setCell ⟨wr.heap.size, 3, none⟩ (.slice bo3 l[k].bytes.length bc3)).heap[wr.heap.size]? = some (.cells #[.int .i64 l[k].id, .int .i64 l[k].size, .string l[k].note, .slice bo3 l[k].bytes.length bc3, .int .i64 l[k].sent] 44 (0, 0)) ∧
          GrowB (w2.setCell ⟨wr.heap.size, 3, none⟩ (.slice bo3 l[k].bytes.length bc3)) (fun j => wr.heap.size < j) 5 bo3 bc3 l[k].bytes ∧ Below wr.heap.size wr (w2.setCell ⟨wr.heap.size, 3, none⟩ (.slice bo3 l[k].bytes.length bc3))) := fun w2 bo3 bc3 hG hT => by
        have hb2 : Below (wr.alloc (.cells #[.int .i64 l[k].id, .int .i64 l[k].size, .string l[k].note, .slice q.bo l[k].bytes.length q.bcap, .int .i64 l[k].sent] 44)).heap.size _ w2 := hT.below (fun k e => by simp [blkB] at e) (Nat.le_refl _)
        have hr2 := (hb2.block wr.heap.size (by simp)).trans (heap_alloc_new wr _)
        have hTs : Turns (fun j => j = wr.heap.size) w2 (w2.setCell ⟨wr.heap.size, 3, none⟩ (.slice bo3 l[k].bytes.length bc3)) := Turns.setCell (fun j => j = wr.heap.size) w2 _ _ rfl
        rw [List.nil_append] at hG
        refine ⟨hr2, heap_setCell_same _ _ 3 _ _ _ hr2, (hG.to (S' := fun j => wr.heap.size < j) (fun j e _ _ => ?_)).turns hTs (fun j e h => by omega), (then_ hbA hb2).trans (hTs.below (fun j e => by omega) ?_)⟩
        · rcases e with e | e
          · simp [blkB] at e
          · simp at e; omega
        · have := hb2.size; simp at this; omega
      clear hIB hbA
      generalize l[k] = p at *
      go_upto_region 8 with (at_builtin; refine wpList_append_grown (S := fun _ => False) rfl (.tmp 17) (.tmp 22) 37 rfl 5 i0 Tryd.underlying37 Hi.out Hz0.out Hz1.out Hz2.out (l := []) rfl rfl (GrowB.nil _ _ _) rfl HIB.out rfl (by omega) ?_; intro bo3 bc3 w2 hO3 hT3; obtain ⟨r2, x1, x2, x3⟩ := HX.out w2 bo3 bc3 hO3 hT3; have z0 := cell_of_row w2 _ 3 _ _ _ r2; have y0 := frozen_of_row w2 _ 3 _ _ r2; simp at z0; have HX1 := Hid.mk' x1; have HX2 := Hid.mk' x2; have HX3 := Hid.mk' x3; clear x1 x2 x3 hO3 hT3 r2)
      generalize w2.setCell ⟨wr.heap.size, 3, none⟩ (Value.slice bo3 p.bytes.length bc3) = w3 at *
      have hr3 := HX1.out
      have e0 : w3.cell? ⟨wr.heap.size, 0, none⟩ = some (.int .i64 p.id) := cell_of_row w3 _ 0 _ _ _ hr3
      have e1 : w3.cell? ⟨wr.heap.size, 1, none⟩ = some (.int .i64 p.size) := cell_of_row w3 _ 1 _ _ _ hr3
      have e2 : w3.cell? ⟨wr.heap.size, 2, none⟩ = some (.string p.note) := cell_of_row w3 _ 2 _ _ _ hr3
      have e3 : w3.cell? ⟨wr.heap.size, 3, none⟩ = some (.slice bo3 p.bytes.length bc3) := cell_of_row w3 _ 3 _ _ _ hr3
      have e4 : w3.cell? ⟨wr.heap.size, 4, none⟩ = some (.int .i64 p.sent) := cell_of_row w3 _ 4 _ _ _ hr3
      obtain ⟨xs, hO, hP⟩ := ((HU.out.mono (S' := fun j => w.heap.size ≤ j ∧ j < wr.heap.size) (fun j hj e => ⟨e, hj⟩)).stay HX3.out).push (.cells #[.int .i64 p.id, .int .i64 p.size, .string p.note, .slice bo3 p.bytes.length bc3, .int .i64 p.sent] 44)
      have hlk : (l.take k).length = k := by rw [List.length_take]; omega
      rw [hlk] at hO hP
      have HO := Hid.mk' hO; have HP := Hid.mk' hP
      have HNw : Hid (IsV (w3.alloc (.cells #[.int .i64 p.id, .int .i64 p.size, .string p.note, .slice bo3 p.bytes.length bc3, .int .i64 p.sent] 44)) (some ⟨w3.heap.size, 0, none⟩) 1 1 (upC p ⟨bo3, bc3⟩)) := IsV.made w3 _ 1 _ _
      have hsz3 := HX3.out.size
      have HN : Hid (k + 1 ≤ 9223372036854775807 ∧ (k + 1) * 64 ≤ 140737488355328) := ⟨by omega, by omega⟩
      clear hO hP hr3 hlk
      go_wp2_with (at_builtin; refine wpList_append_v rfl (.tmp 25) (.tmp 27) 28 rfl 0 44 j0 (.agg #[.int .i64 0, .int .i64 0, .string ⟨#[]⟩, .slice none 0 0, .int .i64 0]) 5 64 Tryd.underlying28 Hj.out Hy0.out Hy1.out Hy2.out rfl (by decide) rfl HO.out rfl HNw.out rfl (upC_one _ _) HN.out.1 HN.out.2 (Nat.zero_le _) ?_; intro ao5 cap5 w5 hO5 hG5 hat5; obtain ⟨hU5, hT5⟩ := HP.out ao5 cap5 w5 p ⟨bo3, bc3⟩ (fun j => wr.heap.size < j) HX2.out (fun j e h => by omega) hO5 hG5 hat5; have HU5 := Hid.mk' hU5; have HT5 := Hid.mk' hT5; clear hO5 hG5 hat5 hU5 hT5)
      go_roundw
      case rel =>
        refine ⟨k + 1, ao5, cap5, by omega, by go_num, rfl, ?_, ?_⟩
        · exact (HB.out.trans (HX3.out.mono hszr)).trans (HT5.out.below (fun j e => e.1) (by omega))
        · rw [HT.out]
          refine HU5.out.mono (fun j _ e => ?_)
          rcases e with e | e | e
          · exact e.1
          · omega
          · omega
      case measure => simp [intOf]; omega
    · obtain rfl : k = l.length := by omega
      go_wp2
      go_ret
      refine ⟨ao', cap', rfl, ?_, HB.out⟩
      have := HU.out
      rw [List.take_length] at this
      exact this
set_option maxHeartbeats 800000 in
theorem copyH_any (s : Sp.St) (S : Nat → Prop) (g : Nat) (w : World) (h : HoldAt w S g s) (hz : SmallU s.l) :
    Calls Tryd.prog 8 #[.pointer (some ⟨g, 0, none⟩)] w fun e w' => ∃ g', e = .returned (.pointer (some ⟨g', 0, none⟩)) ∧ HoldAt w' (fun k => w.heap.size ≤ k) g' s ∧ Below w.heap.size w w' := by
  have hlt := h.lt
  obtain ⟨ao, cap, c0, c1, f0, f1, hg, hS, hU⟩ := h.cells
  have HC := Hid.mk' (copyUps_any s.l ao cap s.l.length w.drew (hU.isUps.stay (below_drew _ _)) hU.cap_ rfl hz)
  clear h hU hg hS f0 f1 hz
  have HE : Hid (∀ w1 ao' cap', UpO w1 (fun k => w.drew.heap.size ≤ k) 44 5 ao' cap' s.l → Below w.drew.heap.size w.drew w1 → w1.cell? ⟨g, 0, none⟩ = some (.slice ao s.l.length cap) ∧ w1.cell? ⟨g, 1, none⟩ = some (.int .i64 s.last) ∧ HoldAt (w1.alloc (.cells #[.slice ao' s.l.length cap', .int .i64 s.last] 30)) (fun k => w.heap.size ≤ k) w1.heap.size s ∧ Below w.heap.size w (w1.alloc (.cells #[.slice ao' s.l.length cap', .int .i64 s.last] 30))) := fun w1 ao' cap' hU1 hb1 => by
    have hb2 : Below w.heap.size w w1 := (below_drew _ _).trans hb1
    have hbA := (Below.refl _ w1).alloc (Nat.le_refl _) (.cells #[.slice ao' s.l.length cap', .int .i64 s.last] 30)
    exact ⟨(hb2.cell (p := ⟨g, 0, none⟩) hlt).trans c0, (hb2.cell (p := ⟨g, 1, none⟩) hlt).trans c1, ⟨ao', cap', heap_alloc_new w1 _, hb2.size, ((hU1.mono (S' := fun k => w.heap.size ≤ k ∧ k < w1.heap.size) (fun k hk e => ⟨e, hk⟩)).stay hbA).mono (fun k _ e => ⟨e.1, by omega⟩)⟩, then_ hb2 hbA⟩
  generalize s.l.length = n at *
  generalize hl : s.last = la at *
  go_enter Tryd.func8, Tryd.ntmps8
  go_wp2_with fail
  go_region_held3 (fun w' => w'.cell? ⟨g, 0, none⟩ = some (.slice ao n cap) ∧ w'.cell? ⟨g, 1, none⟩ = some (.int .i64 la)) (go_keep) (first | (go_at_call 30; refine HC.out.mono ?_; rintro e w1 ⟨ao', cap', rfl, hU1, hb1⟩; obtain ⟨d0, d1, hx, hy⟩ := HE.out w1 ao' cap' hU1 hb1; have HX := Hid.mk' hx; have HY := Hid.mk' hy; clear hx hy hU1 hb1))
  all_goals
    go_wp2
    go_ret
    exact ⟨_, rfl, HX.out, HY.out⟩
end Go.Proofs.YtankilclhknbkaaDoor
