/- Package spool, walked: Create. -/
import Derived.Test.YtdclmpdjjkjfjaaGreatDoorPk20
import Derived.Test.YtdclmpdjjkjfjaaGreatDoorPk15
import Derived.Test.YtdclmpdjjkjfjaaGreatDoorPk23
import Derived.Deep.AppendLies
import Derived.Deep.DeepCutAuto
namespace Go.Proofs.YtdclmpdjjkjfjaaGreatDoor
open Go.RowKit

theorem text_same (a b : ByteArray) : (a.toList == b.toList) = decide (a.data.toList = b.data.toList) := by
  rw [Lib.toList_data, Lib.toList_data, Bool.eq_iff_iff]; simp
theorem SpAt.last_ {w : World} {S : Nat → Prop} {tO tU tB g : Nat} {s : Sp.St} (h : SpAt w S tO tU tB g s) (v : Int) : SpAt (w.setCell ⟨g, 1, none⟩ (.int .i64 v)) S tO tU tB g ⟨s.l, v⟩ ∧ Turns (fun k => k = g) w (w.setCell ⟨g, 1, none⟩ (.int .i64 v)) := by
  obtain ⟨ao, cap, h1, h2, h3⟩ := h
  have hT : Turns (fun k => k = g) w (w.setCell ⟨g, 1, none⟩ (.int .i64 v)) := Turns.setCell (fun k => k = g) w _ _ rfl
  exact ⟨⟨ao, cap, heap_setCell_same w g 1 _ tO _ h1, h2, h3.turns hT (fun k e e2 => e.2 e2)⟩, hT⟩
theorem nextU_any (s : Sp.St) (S : Nat → Prop) (g : Nat) (w : World) (h : SpoolAt w S g s) (h0 : 0 ≤ s.last) (h1 : s.last ≤ 1000000) :
    Calls Tryz.prog 18 #[.pointer (some ⟨g, 0, none⟩)] w fun e w' => e = .returned (.int .i64 (s.last + 1)) ∧ w' = w := by
  obtain ⟨ao, cap, c0, c1, f0, f1, hg, hS, hU⟩ := h.cells
  clear hU hg hS c0 f0 f1 h
  generalize s.last = t at *
  go_enter Tryz.func18, Tryz.ntmps18
  go_wp2
  go_ret
  exact ⟨rfl, rfl⟩
/-- what Create answered, and what became of the object -/
structure Made (S : Nat → Prop) (tO : Nat) (w : World) (g : Nat) (r : Sp.St × Int × Nat) (e : Ending) (w' : World) : Prop where
  ret : e = .returned (.tuple #[.int .i64 r.2.1, .int .i64 (r.2.2 : Int)])
  at_ : SpAt w' (orNew S w) tO 67 5 g r.1
  turns : Turns S w w'
theorem Made.none_ {w w' : World} {S : Nat → Prop} {tO g : Nat} {s : Sp.St} {c : Nat} (h : SpAt w S tO 67 5 g s) (hb : Below w.heap.size w w') {r : Sp.St × Int × Nat} (hr : r = (s, 0, c)) : Made S tO w g r (.returned (.tuple #[.int .i64 0, .int .i64 (c : Int)])) w' := by
  subst hr
  exact ⟨rfl, (h.stay hb).mono (fun k _ e => Or.inl e), Turns.of_below hb⟩
set_option maxRecDepth 100000 in
set_option maxHeartbeats 2000000 in
theorem createU_any (s : Sp.St) (S : Nat → Prop) (g : Nat) (sz : Int) (m : ByteArray) (w : World) (h : SpoolAt w S g s) (ok : Sp.Ok s) (hl : s.last ≤ 1000000) (hm : m.size ≤ 1000000) :
    Calls Tryz.prog 99 #[.pointer (some ⟨g, 0, none⟩), .int .i64 sz, .string m] w (Made S 88 w g (Sp.create s sz m)) := by
  have hN := ok.few
  have hl0 := ok.last0
  obtain ⟨ao, cap, c0, c1, f0, f1, hg, hS, hU⟩ := h.cells
  have hcap := hU.cap_
  by_cases h1 : sz < -1
  · have HR : Hid (Made S 88 w g (Sp.create s sz m) (.returned (.tuple #[.int .i64 0, .int .i64 (1 : Nat)])) w) := Made.none_ h (Below.refl _ _) (by unfold Sp.create; rw [if_pos h1])
    clear h ok hU hg c0 c1
    go_enter Tryz.func99, Tryz.ntmps99
    go_wp2
    go_ret2
    exact HR.out
  · have n1 : decide (sz < -1) = false := by rw [decide_eq_false_iff_not]; exact h1
    by_cases h2 : 2000 < sz
    · have HR : Hid (Made S 88 w g (Sp.create s sz m) (.returned (.tuple #[.int .i64 0, .int .i64 (4 : Nat)])) w) := Made.none_ h (Below.refl _ _) (by unfold Sp.create; rw [if_neg h1, if_pos (Or.inl h2)])
      have n2 : decide (sz > 2000) = true := by rw [decide_eq_true_eq]; exact h2
      clear h ok hU hg c0 c1
      go_enter Tryz.func99, Tryz.ntmps99
      go_wp2
      go_ret2
      exact HR.out
    · have n2 : decide (sz > 2000) = false := by rw [decide_eq_false_iff_not]; exact h2
      by_cases h3 : 100 < m.size
      · have HR : Hid (Made S 88 w g (Sp.create s sz m) (.returned (.tuple #[.int .i64 0, .int .i64 (4 : Nat)])) w) := Made.none_ h (Below.refl _ _) (by unfold Sp.create; rw [if_neg h1, if_pos (Or.inr h3)])
        have n3 : decide ((m.size : Int) > 100) = true := by rw [decide_eq_true_eq]; omega
        clear h ok hU hg c0 c1
        go_enter Tryz.func99, Tryz.ntmps99
        go_wp2
        go_ret2
        exact HR.out
      · have n3 : decide ((m.size : Int) > 100) = false := by rw [decide_eq_false_iff_not]; omega
        have e2 : ¬ (2000 < sz ∨ 100 < m.size) := by omega
        have HV := Hid.mk' (isVisible_any m w (by unfold maxLen; omega))
        cases hv : Ch.isVisible m.data.toList with
        | false =>
          rw [hv] at HV
          have HR : Hid (Made S 88 w g (Sp.create s sz m) (.returned (.tuple #[.int .i64 0, .int .i64 (3 : Nat)])) w) := Made.none_ h (Below.refl _ _) (by unfold Sp.create; rw [if_neg h1, if_neg e2, if_pos (Or.inl hv)])
          clear h ok hU hg c0 c1 hv
          go_enter Tryz.func99, Tryz.ntmps99
          go_wp2_with (go_at_call 130; refine HV.out.mono ?_; rintro e w1 ⟨rfl, rfl⟩)
          go_ret2
          exact HR.out
        | true =>
          rw [hv] at HV
          have HTr := Hid.mk' (trim_any m w (by omega))
          have hts := text_same ⟨(Lib.trimS m.data.toList Ch.ws).toArray⟩ m
          obtain ⟨T, hT⟩ : ∃ T : ByteArray, T = ⟨(Lib.trimS m.data.toList Ch.ws).toArray⟩ := ⟨_, rfl⟩
          have hTd : T.data.toList = Lib.trimS m.data.toList Ch.ws := by rw [hT]
          rw [← hT] at HTr hts
          rw [hTd] at hts
          by_cases h4 : Lib.trimS m.data.toList Ch.ws = m.data.toList
          · rw [decide_eq_true h4] at hts
            have e3 : ¬ (Ch.isVisible m.data.toList = false ∨ Lib.trimS m.data.toList Ch.ws ≠ m.data.toList) := by rw [hv]; simpa using h4
            by_cases h5 : 12 ≤ s.l.length
            · have HR : Hid (∀ W, Below w.heap.size w W → W.cell? ⟨g, 0, none⟩ = some (.slice ao s.l.length cap) ∧ Made S 88 w g (Sp.create s sz m) (.returned (.tuple #[.int .i64 0, .int .i64 (8 : Nat)])) W) := fun W hW => ⟨by rw [hW.cell (p := ⟨g, 0, none⟩) h.lt]; exact c0, Made.none_ h hW (by unfold Sp.create; rw [if_neg h1, if_neg e2, if_neg e3, if_pos h5])⟩
              have n5 : decide ((s.l.length : Int) ≥ 12) = true := by rw [decide_eq_true_eq]; omega
              clear h ok hU hg c0 c1 hT hTd h4 hv e3
              go_enter Tryz.func99, Tryz.ntmps99
              go_wp2_with (first | (go_at_call 130; refine HV.out.mono ?_; rintro e w1 ⟨rfl, rfl⟩) | (go_at_call 131; refine HTr.out.mono ?_; rintro e w1 ⟨rfl, hb⟩; obtain ⟨d0, hd⟩ := HR.out w1 hb; have HD := Hid.mk' hd; clear hd hb))
              go_ret2
              exact HD.out
            · have n5 : decide ((s.l.length : Int) ≥ 12) = false := by rw [decide_eq_false_iff_not]; omega
              have HCr : Hid (Sp.create s sz m = (⟨s.l ++ [⟨s.last + 1, sz, m, [], 0⟩], s.last + 1⟩, s.last + 1, 0)) := by unfold Sp.create; rw [if_neg h1, if_neg e2, if_neg e3, if_neg h5]; exact rfl
              have HA := Hid.mk' h
              have HNx : Hid (∀ W, Below w.heap.size w W → Calls Tryz.prog 18 #[.pointer (some ⟨g, 0, none⟩)] W fun e w' => e = .returned (.int .i64 (s.last + 1)) ∧ w' = W) := fun W hW => nextU_any s S g W (h.stay hW) hl0 hl
              have HCl := Hid.mk' (fun W => sclone_any m W hm)
              have HC : Hid (∀ W, Below w.heap.size w W → W.cell? ⟨g, 0, none⟩ = some (.slice ao s.l.length cap) ∧ W.cell? ⟨g, 1, none⟩ = some (.int .i64 s.last) ∧ W.frozen? ⟨g, 1, none⟩ = false) := fun W hW => ⟨by rw [hW.cell (p := ⟨g, 0, none⟩) h.lt]; exact c0, by rw [hW.cell (p := ⟨g, 1, none⟩) h.lt]; exact c1, by rw [hW.frozen (p := ⟨g, 1, none⟩) h.lt]; exact f1⟩
              clear h ok hU hg c0 c1 f0 f1 hS hT hTd h4 hv e3
              go_enter Tryz.func99, Tryz.ntmps99
              go_wp2_with (first | (go_at_call 130; refine HV.out.mono ?_; rintro e w1 ⟨rfl, hw⟩; rw [hw]; clear hw) | (go_at_call 131; refine HTr.out.mono ?_; rintro e w1 ⟨rfl, hb⟩; obtain ⟨d0, d1, d2⟩ := HC.out w1 hb; have HB := Hid.mk' hb; clear hb) | (go_at_call 18; refine (HNx.out _ HB.out).mono ?_; rintro e wn ⟨rfl, hw⟩; rw [hw]; clear hw))
              obtain ⟨hs2, ht2⟩ := (HA.out.stay HB.out).last_ (s.last + 1)
              have hT2 : Turns S w (w1.setCell ⟨g, 1, none⟩ (.int .i64 (s.last + 1))) := (Turns.of_below HB.out).trans (ht2.mono (fun k e => by subst e; exact HA.out.cells.choose_spec.choose_spec.2.2.2.2.2.1)) (fun _ e _ => e)
              generalize hw3 : w1.setCell ⟨g, 1, none⟩ (.int .i64 (s.last + 1)) = w3 at *
              clear hw3 ht2 d0 d1 d2 HC HNx HB HTr HV
              obtain ⟨ao3, cap3, c0, c1, f0, f1, hg3, hS3, hU3⟩ := hs2.cells
              have HA3 := Hid.mk' hs2
              have hlt := hs2.lt
              have HT3 := Hid.mk' hT2
              have HG3 := Hid.mk' hg3; have HU3 := Hid.mk' hU3
              clear hs2 hT2 hg3 hU3 HA
              simp only at c0 c1
              have HClA : Hid (Calls Tryz.prog 95 #[.string m] (w3.alloc (.cells #[.int .i64 0, .int .i64 0, .string ⟨#[]⟩, .slice none 0 0, .int .i64 0] 67)).drew fun e w4 => e = .returned (.string m) ∧ Below w3.heap.size w3 w4 ∧ w4.heap[w3.heap.size]? = some (.cells #[.int .i64 0, .int .i64 0, .string ⟨#[]⟩, .slice none 0 0, .int .i64 0] 67 (0, 0))) := (HCl.out _).mono fun e w4 ⟨he, hb4⟩ => by
                refine ⟨he, (((Below.refl _ w3).alloc (Nat.le_refl _) _).trans (below_drew _ _)).trans (hb4.mono (by show w3.heap.size ≤ (w3.alloc _).heap.size; rw [World.size_alloc]; omega)), ?_⟩
                rw [hb4.block w3.heap.size (by show w3.heap.size < (w3.alloc _).heap.size; rw [World.size_alloc]; omega)]
                exact heap_alloc_new w3 _
              have HClB : Hid (Calls Tryz.prog 95 #[.string m] w3.drew fun e w4 => e = .returned (.string m) ∧ Below w3.heap.size w3 w4) := (HCl.out _).mono fun e w4 ⟨he, hb4⟩ => ⟨he, (below_drew _ _).trans hb4⟩
              have hne3 : ¬ w3.heap.size = g := by omega
              have hne3' : ¬ g = w3.heap.size := by omega
              clear HCl
              have HMt : Hid (∀ w4, Below w3.heap.size w3 w4 → w4.heap[w3.heap.size]? = some (.cells #[.int .i64 0, .int .i64 0, .string ⟨#[]⟩, .slice none 0 0, .int .i64 0] 67 (0, 0)) → Below w3.heap.size w3 (((((w4.setCell ⟨w3.heap.size, 0, none⟩ (.int .i64 (s.last + 1))).setCell ⟨w3.heap.size, 1, none⟩ (.int .i64 sz)).setCell ⟨w3.heap.size, 2, none⟩ (.string m)).setCell ⟨w3.heap.size, 3, none⟩ (.slice none 0 0)).setCell ⟨w3.heap.size, 4, none⟩ (.int .i64 0)) ∧ (((((w4.setCell ⟨w3.heap.size, 0, none⟩ (.int .i64 (s.last + 1))).setCell ⟨w3.heap.size, 1, none⟩ (.int .i64 sz)).setCell ⟨w3.heap.size, 2, none⟩ (.string m)).setCell ⟨w3.heap.size, 3, none⟩ (.slice none 0 0)).setCell ⟨w3.heap.size, 4, none⟩ (.int .i64 0)).heap[w3.heap.size]? = some (.cells #[.int .i64 (s.last + 1), .int .i64 sz, .string m, .slice none 0 0, .int .i64 0] 67 (0, 0))) := fun w4 hb hr => by
                refine ⟨((((hb.setCell (Nat.le_refl _) _).setCell (Nat.le_refl _) _).setCell (Nat.le_refl _) _).setCell (Nat.le_refl _) _).setCell (Nat.le_refl _) _, ?_⟩
                exact heap_setCell_same _ _ 4 _ _ _ (heap_setCell_same _ _ 3 _ _ _ (heap_setCell_same _ _ 2 _ _ _ (heap_setCell_same _ _ 1 _ _ _ (heap_setCell_same _ _ 0 _ _ _ hr))))
              go_cut [8] (fun t wd => ∃ nb, t = .pointer (some ⟨nb, 0, none⟩) ∧ w3.heap.size ≤ nb ∧ Below w3.heap.size w3 wd ∧ wd.heap[nb]? = some (.cells #[.int .i64 (s.last + 1), .int .i64 sz, .string m, .slice none 0 0, .int .i64 0] 67 (0, 0)))
              case first =>
                go_region_held3 (fun w' => w'.cell? ⟨g, 1, none⟩ = some (.int .i64 (s.last + 1))) (go_keep) (first
                  | (go_at_call 95; refine HClA.out.mono ?_; rintro e w4 ⟨rfl, hb5, hr5⟩; have c1' : w4.cell? ⟨g, 1, none⟩ = some (.int .i64 (s.last + 1)) := (hb5.cell (p := ⟨g, 1, none⟩) hlt).trans c1; have z0 := cell_of_row w4 _ 0 _ _ _ hr5; have z1 := cell_of_row w4 _ 1 _ _ _ hr5; have z2 := cell_of_row w4 _ 2 _ _ _ hr5; have z3 := cell_of_row w4 _ 3 _ _ _ hr5; have z4 := cell_of_row w4 _ 4 _ _ _ hr5; have y0 := frozen_of_row w4 _ 0 _ _ hr5; have y1 := frozen_of_row w4 _ 1 _ _ hr5; have y2 := frozen_of_row w4 _ 2 _ _ hr5; have y3 := frozen_of_row w4 _ 3 _ _ hr5; have y4 := frozen_of_row w4 _ 4 _ _ hr5; simp at z0 z1 z2 z3 z4; have HB4 := Hid.mk' hb5; have HR4 := Hid.mk' hr5; clear hb5 hr5)
                  | (go_at_call 95; refine HClB.out.mono ?_; rintro e w4 ⟨rfl, hb5⟩; have c1' : w4.cell? ⟨g, 1, none⟩ = some (.int .i64 (s.last + 1)) := (hb5.cell (p := ⟨g, 1, none⟩) hlt).trans c1; have hne4 : ¬ w4.heap.size = g := (by have := hb5.size; omega); have hne4' : ¬ g = w4.heap.size := (by have := hb5.size; omega); have HB4 := Hid.mk' hb5; clear hb5))
                all_goals go_wp2
                all_goals go_meet
                · exact ⟨_, rfl, HB4.out.size, HB4.out.alloc HB4.out.size _, heap_alloc_new w4 _⟩
                · exact ⟨_, rfl, Nat.le_refl _, HMt.out w4 HB4.out HR4.out⟩
              case rest =>
                obtain ⟨nb, rfl, hnb, hb4, hr4⟩ := hcut
                have hU4 := HU3.out.stay hb4
                obtain ⟨xs, hO, hP⟩ := hU4.push (.cells #[.int .i64 (s.last + 1), .int .i64 sz, .string m, .slice none 0 0, .int .i64 0] 67)
                have hg4 : wc.heap[g]? = some _ := (hb4.block g hlt).trans HG3.out
                have hbA := (Below.refl _ wc).alloc (Nat.le_refl _) (.cells #[.int .i64 (s.last + 1), .int .i64 sz, .string m, .slice none 0 0, .int .i64 0] 67)
                have c0a : (wc.alloc (.cells #[.int .i64 (s.last + 1), .int .i64 sz, .string m, .slice none 0 0, .int .i64 0] 67)).cell? ⟨g, 0, none⟩ = some (.slice ao3 s.l.length cap3) := (hbA.cell (p := ⟨g, 0, none⟩) (by show g < wc.heap.size; have := hb4.size; omega)).trans (cell_of_row wc g 0 _ _ _ hg4)
                have c0b : wc.cell? ⟨g, 0, none⟩ = some (.slice ao3 s.l.length cap3) := cell_of_row wc g 0 _ _ _ hg4
                have z0 : wc.cell? ⟨nb, 0, none⟩ = some (.int .i64 (s.last + 1)) := cell_of_row wc nb 0 _ _ _ hr4
                have z1 : wc.cell? ⟨nb, 1, none⟩ = some (.int .i64 sz) := cell_of_row wc nb 1 _ _ _ hr4
                have z2 : wc.cell? ⟨nb, 2, none⟩ = some (.string m) := cell_of_row wc nb 2 _ _ _ hr4
                have z3 : wc.cell? ⟨nb, 3, none⟩ = some (.slice none 0 0) := cell_of_row wc nb 3 _ _ _ hr4
                have z4 : wc.cell? ⟨nb, 4, none⟩ = some (.int .i64 0) := cell_of_row wc nb 4 _ _ _ hr4
                have hsz4 := hb4.size
                have hbl : ∀ k, blockOf ao3 = some k → (S k ∧ k ≠ g) ∧ k < w3.heap.size := fun k e => by
                  obtain ⟨us, _, h2, h3, _⟩ := HU3.out
                  cases ao3 with
                  | none => cases e
                  | some a => injection e with e; subst e; exact ⟨h3 a rfl, (h2.block a rfl).2⟩
                have hnbl : nb < wc.heap.size := (Array.getElem?_eq_some_iff.1 hr4).1
                have HK : Hid (∀ w5, (wc.alloc (.cells #[.int .i64 (s.last + 1), .int .i64 sz, .string m, .slice none 0 0, .int .i64 0] 67)).drew.grownBy w5 (Value.slice ao3 s.l.length cap3).ownBlock → w5.heap[g]? = some (.cells #[.slice ao3 s.l.length cap3, .int .i64 (s.last + 1)] 88 (0, 0)) ∧ w5.heap[nb]? = some (.cells #[.int .i64 (s.last + 1), .int .i64 sz, .string m, .slice none 0 0, .int .i64 0] 67 (0, 0))) := fun w5 hG => by
                  rw [ownBlock_slice] at hG
                  refine ⟨?_, ?_⟩
                  · rw [hG.block g (by show g < (wc.alloc _).heap.size; rw [World.size_alloc]; omega) (fun e => (hbl g e.symm).1.2 rfl)]
                    exact (hbA.block g (by omega)).trans hg4
                  · rw [hG.block nb (by show nb < (wc.alloc _).heap.size; rw [World.size_alloc]; omega) (fun e => by have := (hbl nb e.symm).2; omega)]
                    exact (hbA.block nb (by omega)).trans hr4
                have HO := Hid.mk' (OwnV.stay hO (below_drew _ _))
                have HNw : Hid (∀ j u, (upC ⟨s.last + 1, sz, m, [], 0⟩ ⟨none, 0⟩)[j]? = some u → (wc.alloc (.cells #[.int .i64 (s.last + 1), .int .i64 sz, .string m, .slice none 0 0, .int .i64 0] 67)).drew.cell? (Addr.add ⟨wc.heap.size, 0, none⟩ j) = some u) := fun j u hu => by
                  rw [Addr.add_lit, Nat.zero_add]
                  show (wc.alloc _).cell? _ = _
                  rw [World.cell?_alloc_at _ _ _ _ rfl, List.getElem?_toArray]
                  exact hu
                have HP := Hid.mk' hP
                have HB4 := Hid.mk' hb4
                have HBL := Hid.mk' hbl
                obtain ⟨i0, hi0, hz0, hz1, hz2⟩ := info_parts info_up
                have Hi := Hid.mk' hi0; have Hz0 := Hid.mk' hz0; have Hz1 := Hid.mk' hz1; have Hz2 := Hid.mk' hz2
                have HN : Hid (s.l.length + 1 ≤ maxLen ∧ (s.l.length + 1) * 64 ≤ 140737488355328) := ⟨by unfold maxLen; omega, by omega⟩
                have hng : ¬ nb = g := by omega
                have hng' : ¬ g = nb := by omega
                clear hi0 hz0 hz1 hz2 hO hP hbl hbA hg4 hU4 hb4 hr4 HMt HClA HClB
                go_wp2
                go_region_law
                  ((refine step_append_lies _ (by rfl) _ _ _ (by rfl) 0 67 i0 (.agg #[.int .i64 0, .int .i64 0, .string ⟨#[]⟩, .slice none 0 0, .int .i64 0]) 5 64 Tryz.underlying43 Hi.out Hz0.out Hz1.out Hz2.out (by rfl) (by decide) (.slice ao3 s.l.length cap3) s.l.length _ (by rfl) HO.out ⟨wc.heap.size, 0, none⟩ 1 1 (upC ⟨s.last + 1, sz, m, [], 0⟩ ⟨none, 0⟩) (by rfl) (by rfl) HNw.out (upC_one _ _) (by decide) HN.out.1 HN.out.2 (Nat.zero_le _) (wc.heap.size + 1) (by simp) ?_; intro g5 cap5 w5 hown5 hgrow hat5 hlt5; obtain ⟨r5, r6⟩ := HK.out _ hgrow; have q0 : w5.cell? ⟨g, 0, none⟩ = some (.slice ao3 s.l.length cap3) := cell_of_row w5 g 0 _ _ _ r5; have q1 : w5.frozen? ⟨g, 0, none⟩ = false := frozen_of_row w5 g 0 _ _ r5; have q2 : w5.cell? ⟨nb, 0, none⟩ = some (.int .i64 (s.last + 1)) := cell_of_row w5 nb 0 _ _ _ r6; have HR5 := Hid.mk' r5; have HG5 := Hid.mk' hgrow; have HO5 := Hid.mk' hown5; have HA5 := Hid.mk' hat5; clear hgrow hown5 hat5 r5 r6 hlt5))
                all_goals
                  go_wp2
                  go_ret2
                  have hG := HG5.out
                  have hat := HA5.out
                  rw [ownBlock_slice] at hG hat
                  obtain ⟨r1, r2⟩ := HP.out (some ⟨g5, 0, none⟩) cap5 w5 ⟨s.last + 1, sz, m, [], 0⟩ ⟨none, 0⟩ (fun _ => False) (GrowB.nil _ _ _) (fun _ _ e => e) HO5.out (grown_trans (grown_drew _ _) hG) (by
                    rcases hat with e | e
                    · exact Or.inl e.symm
                    · exact Or.inr (by rw [World.size_alloc, e]; rfl))
                  have hszw := HT3.out.size
                  obtain ⟨hL, hTL⟩ := SpAt.lay (S := orNew S w) HR5.out (Or.inl hS3) (n := s.l.length + 1) (r1.mono (fun k _ e => by
                    rcases e with e | e | e
                    · exact ⟨Or.inl e.1, e.2⟩
                    · exact e.elim
                    · exact ⟨Or.inr (by omega), by omega⟩)) (by simp)
                  refine ⟨by rw [HCr.out]; rfl, by rw [HCr.out]; exact hL, ?_⟩
                  exact ((HT3.out.trans (Turns.of_below HB4.out) (fun _ e _ => e)).trans (r2.mono (fun k e => e.1)) (fun _ e _ => e)).trans (hTL.mono (fun k e => by subst e; exact hS3)) (fun _ e _ => e)
          · rw [decide_eq_false h4] at hts
            have HR : Hid (∀ W, Below w.heap.size w W → Made S 88 w g (Sp.create s sz m) (.returned (.tuple #[.int .i64 0, .int .i64 (3 : Nat)])) W) := fun W hW => Made.none_ h hW (by unfold Sp.create; rw [if_neg h1, if_neg e2, if_pos (Or.inr h4)])
            clear h ok hU hg c0 c1 hT hTd h4 hv
            go_enter Tryz.func99, Tryz.ntmps99
            go_wp2_with (first | (go_at_call 130; refine HV.out.mono ?_; rintro e w1 ⟨rfl, rfl⟩) | (go_at_call 131; refine HTr.out.mono ?_; rintro e w1 ⟨rfl, hb⟩; have HD := Hid.mk' (HR.out w1 hb); clear hb))
            go_ret2
            exact HD.out
end Go.Proofs.YtdclmpdjjkjfjaaGreatDoor
