/- The document's own answer, walked: a Hold: Create. -/
import Derived.Test.YtdclmpdjjkjfjaaGreatDoorRfHC
import Derived.Test.YtdclmpdjjkjfjaaGreatDoorSqH
import Derived.Test.YtdclmpdjjkjfjaaGreatDoorPk14
import Derived.Test.YtdclmpdjjkjfjaaGreatDoorPk15
namespace Go.Proofs.YtdclmpdjjkjfjaaGreatDoor
open Go.RowKit

set_option maxRecDepth 100000 in
set_option maxHeartbeats 2000000 in
theorem createH_any (s : Sp.St) (S : Nat → Prop) (g : Nat) (sz : Int) (m : ByteArray) (w : World) (h : HoldAt w S g s) (ok : Sp.Ok s) (hl : s.last ≤ 1000000) (hm : m.size ≤ 1000000) :
    Calls Tryz.prog 119 #[.pointer (some ⟨g, 0, none⟩), .int .i64 sz, .string m] w (Made S 50 w g (Sp.create s sz m)) := by
  have hN := ok.few
  have hl0 := ok.last0
  obtain ⟨ao, cap, c0, c1, f0, f1, hg, hS, hU⟩ := h.cells
  have hcap := hU.cap_
  by_cases h1 : sz < -1
  · have HR : Hid (Made S 50 w g (Sp.create s sz m) (.returned (.tuple #[.int .i64 0, .int .i64 (1 : Nat)])) w) := Made.none_ h (Below.refl _ _) (by unfold Sp.create; rw [if_pos h1])
    clear h ok hU hg c0 c1
    go_enter Tryz.func119, Tryz.ntmps119
    go_wp2
    go_ret2
    exact HR.out
  · have n1 : decide (sz < -1) = false := by rw [decide_eq_false_iff_not]; exact h1
    by_cases h2 : 2000 < sz
    · have HR : Hid (Made S 50 w g (Sp.create s sz m) (.returned (.tuple #[.int .i64 0, .int .i64 (4 : Nat)])) w) := Made.none_ h (Below.refl _ _) (by unfold Sp.create; rw [if_neg h1, if_pos (Or.inl h2)])
      have n2 : decide (sz > 2000) = true := by rw [decide_eq_true_eq]; exact h2
      clear h ok hU hg c0 c1
      go_enter Tryz.func119, Tryz.ntmps119
      go_wp2
      go_ret2
      exact HR.out
    · have n2 : decide (sz > 2000) = false := by rw [decide_eq_false_iff_not]; exact h2
      by_cases h3 : 100 < m.size
      · have HR : Hid (Made S 50 w g (Sp.create s sz m) (.returned (.tuple #[.int .i64 0, .int .i64 (4 : Nat)])) w) := Made.none_ h (Below.refl _ _) (by unfold Sp.create; rw [if_neg h1, if_pos (Or.inr h3)])
        have n3 : decide ((m.size : Int) > 100) = true := by rw [decide_eq_true_eq]; omega
        clear h ok hU hg c0 c1
        go_enter Tryz.func119, Tryz.ntmps119
        go_wp2
        go_ret2
        exact HR.out
      · have n3 : decide ((m.size : Int) > 100) = false := by rw [decide_eq_false_iff_not]; omega
        have e2 : ¬ (2000 < sz ∨ 100 < m.size) := by omega
        have HV := Hid.mk' (seenText_any m w (by unfold maxLen; omega))
        cases hv : Ch.isVisible m.data.toList with
        | false =>
          rw [hv] at HV
          have HR : Hid (Made S 50 w g (Sp.create s sz m) (.returned (.tuple #[.int .i64 0, .int .i64 (3 : Nat)])) w) := Made.none_ h (Below.refl _ _) (by unfold Sp.create; rw [if_neg h1, if_neg e2, if_pos (Or.inl hv)])
          clear h ok hU hg c0 c1 hv
          go_enter Tryz.func119, Tryz.ntmps119
          go_wp2_with (go_at_call 91; refine HV.out.mono ?_; rintro e w1 ⟨rfl, hw⟩; rw [hw]; clear hw)
          go_ret2
          exact HR.out
        | true =>
          rw [hv] at HV
          have HTr := Hid.mk' (trimmed_any m w (by unfold maxLen; omega))
          have hts := text_same ⟨(Lib.trimS m.data.toList Ch.ws).toArray⟩ m
          obtain ⟨T, hT⟩ : ∃ T : ByteArray, T = ⟨(Lib.trimS m.data.toList Ch.ws).toArray⟩ := ⟨_, rfl⟩
          have hTd : T.data.toList = Lib.trimS m.data.toList Ch.ws := by rw [hT]
          rw [← hT] at HTr hts
          rw [hTd] at hts
          by_cases h4 : Lib.trimS m.data.toList Ch.ws = m.data.toList
          · rw [decide_eq_true h4] at hts
            have e3 : ¬ (Ch.isVisible m.data.toList = false ∨ Lib.trimS m.data.toList Ch.ws ≠ m.data.toList) := by rw [hv]; simpa using h4
            by_cases h5 : 12 ≤ s.l.length
            · have HR : Hid (Made S 50 w g (Sp.create s sz m) (.returned (.tuple #[.int .i64 0, .int .i64 (8 : Nat)])) w) := Made.none_ h (Below.refl _ _) (by unfold Sp.create; rw [if_neg h1, if_neg e2, if_neg e3, if_pos h5])
              have n5 : decide ((s.l.length : Int) ≥ 12) = true := by rw [decide_eq_true_eq]; omega
              clear h ok hU hg c1 hT hTd h4 hv e3
              go_enter Tryz.func119, Tryz.ntmps119
              go_wp2_with (first | (go_at_call 91; refine HV.out.mono ?_; rintro e w1 ⟨rfl, hw⟩; rw [hw]; clear hw) | (go_at_call 152; refine HTr.out.mono ?_; rintro e w1 ⟨rfl, hw⟩; rw [hw]; clear hw))
              go_ret2
              exact HR.out
            · have n5 : decide ((s.l.length : Int) ≥ 12) = false := by rw [decide_eq_false_iff_not]; omega
              have HCr : Hid (Sp.create s sz m = (⟨s.l ++ [⟨s.last + 1, sz, m, [], 0⟩], s.last + 1⟩, s.last + 1, 0)) := by unfold Sp.create; rw [if_neg h1, if_neg e2, if_neg e3, if_neg h5]; exact rfl
              have HA := Hid.mk' h
              have hwl : IntKind.i64.wrap (s.last + 1) = s.last + 1 := wrap_id (by omega) (by omega)
              clear h ok hU hg f0 hT hTd h4 hv e3
              go_enter Tryz.func119, Tryz.ntmps119
              go_wp2_with (first | (go_at_call 91; refine HV.out.mono ?_; rintro e w1 ⟨rfl, hw⟩; rw [hw]; clear hw) | (go_at_call 152; refine HTr.out.mono ?_; rintro e w1 ⟨rfl, hw⟩; rw [hw]; clear hw))
              obtain ⟨hs2, ht2⟩ := HA.out.last_ (s.last + 1)
              have hT2 : Turns S w (w.setCell ⟨g, 1, none⟩ (.int .i64 (s.last + 1))) := ht2.mono (fun k e => by subst e; exact hS)
              generalize hw3 : w.setCell ⟨g, 1, none⟩ (.int .i64 (s.last + 1)) = wc at *
              clear hw3 ht2 c0 c1 f1 HTr HV
              obtain ⟨ao3, cap3, c0, c1, f0, f1, hg4, hS3, hU4⟩ := hs2.cells
              have hlt := hs2.lt
              have HT3 := Hid.mk' hT2
              clear hs2 hT2 HA
              simp only at c0 c1
              obtain ⟨xs, hO, hP⟩ := hU4.push (.cells #[.int .i64 (s.last + 1), .int .i64 sz, .string m, .slice none 0 0, .int .i64 0] 67)
              have hbA := (Below.refl _ wc).alloc (Nat.le_refl _) (.cells #[.int .i64 (s.last + 1), .int .i64 sz, .string m, .slice none 0 0, .int .i64 0] 67)
              have hbl : ∀ k, blockOf ao3 = some k → (S k ∧ k ≠ g) := fun k e => by
                obtain ⟨us, _, h2, h3, _⟩ := hU4
                cases ao3 with
                | none => cases e
                | some a => injection e with e; subst e; exact h3 a rfl
              have HK : Hid (∀ w5, (wc.alloc (.cells #[.int .i64 (s.last + 1), .int .i64 sz, .string m, .slice none 0 0, .int .i64 0] 67)).drew.grownBy w5 (Value.slice ao3 s.l.length cap3).ownBlock → w5.heap[g]? = some (.cells #[.slice ao3 s.l.length cap3, .int .i64 (s.last + 1)] 50 (0, 0))) := fun w5 hG => by
                rw [ownBlock_slice] at hG
                rw [hG.block g (by show g < (wc.alloc _).heap.size; rw [World.size_alloc]; omega) (fun e => (hbl g e.symm).2 rfl)]
                exact (hbA.block g (by omega)).trans hg4
              have c0a : (wc.alloc (.cells #[.int .i64 (s.last + 1), .int .i64 sz, .string m, .slice none 0 0, .int .i64 0] 67)).cell? ⟨g, 0, none⟩ = some (.slice ao3 s.l.length cap3) := (hbA.cell (p := ⟨g, 0, none⟩) hlt).trans c0
              have c1a : (wc.alloc (.cells #[.int .i64 (s.last + 1), .int .i64 sz, .string m, .slice none 0 0, .int .i64 0] 67)).cell? ⟨g, 1, none⟩ = some (.int .i64 (s.last + 1)) := (hbA.cell (p := ⟨g, 1, none⟩) hlt).trans c1
              have HOw := Hid.mk' (OwnV.stay hO (below_drew _ _))
              have HNw : Hid (∀ j u, (upC ⟨s.last + 1, sz, m, [], 0⟩ ⟨none, 0⟩)[j]? = some u → (wc.alloc (.cells #[.int .i64 (s.last + 1), .int .i64 sz, .string m, .slice none 0 0, .int .i64 0] 67)).drew.cell? (Addr.add ⟨wc.heap.size, 0, none⟩ j) = some u) := fun j u hu => by
                rw [Addr.add_lit, Nat.zero_add]
                show (wc.alloc _).cell? _ = _
                rw [World.cell?_alloc_at _ _ _ _ rfl, List.getElem?_toArray]
                exact hu
              have HP := Hid.mk' hP
              obtain ⟨i0, hi0, hz0, hz1, hz2⟩ := info_parts info_up
              have Hi := Hid.mk' hi0; have Hz0 := Hid.mk' hz0; have Hz1 := Hid.mk' hz1; have Hz2 := Hid.mk' hz2
              have HN : Hid (s.l.length + 1 ≤ maxLen ∧ (s.l.length + 1) * 64 ≤ 140737488355328) := ⟨by unfold maxLen; omega, by omega⟩
              clear hi0 hz0 hz1 hz2 hO hP hbl hbA hg4 hU4 f0 f1
              go_wp2
              go_region_law
                ((refine step_append_lies _ (by rfl) _ _ _ (by rfl) 0 67 i0 (.agg #[.int .i64 0, .int .i64 0, .string ⟨#[]⟩, .slice none 0 0, .int .i64 0]) 5 64 Tryz.underlying43 Hi.out Hz0.out Hz1.out Hz2.out (by rfl) (by decide) (.slice ao3 s.l.length cap3) s.l.length _ (by rfl) HOw.out ⟨wc.heap.size, 0, none⟩ 1 1 (upC ⟨s.last + 1, sz, m, [], 0⟩ ⟨none, 0⟩) (by rfl) (by rfl) HNw.out (upC_one _ _) (by decide) HN.out.1 HN.out.2 (Nat.zero_le _) (wc.heap.size + 1) (by simp) ?_; intro g5 cap5 w5 hown5 hgrow hat5 hlt5; have r5 := HK.out _ hgrow; have q0 : w5.cell? ⟨g, 0, none⟩ = some (.slice ao3 s.l.length cap3) := cell_of_row w5 g 0 _ _ _ r5; have q1 : w5.frozen? ⟨g, 0, none⟩ = false := frozen_of_row w5 g 0 _ _ r5; have q2 : w5.cell? ⟨g, 1, none⟩ = some (.int .i64 (s.last + 1)) := cell_of_row w5 g 1 _ _ _ r5; have HR5 := Hid.mk' r5; have HG5 := Hid.mk' hgrow; have HO5 := Hid.mk' hown5; have HA5 := Hid.mk' hat5; clear hgrow hown5 hat5 r5 hlt5))
              all_goals
                go_wp2
                go_ret2
                have hG := HG5.out
                have hat := HA5.out
                rw [ownBlock_slice] at hG hat
                obtain ⟨r1, r2⟩ := HP.out (some ⟨g5, 0, none⟩) cap5 w5 ⟨s.last + 1, sz, m, [], 0⟩ ⟨none, 0⟩ (fun _ => False) (GrowB.nil _ _ _) (fun _ _ e => e) HO5.out (grown_trans (grown_drew _ _) hG) (by
                  rcases hat with e | e
                  · exact Or.inl e.symm
                  · exact Or.inr (by rw [World.size_alloc, e]; rfl))
                have hszw := HT3.out.size
                obtain ⟨hL, hTL⟩ := SpAt.lay (S := orNew S w) HR5.out (Or.inl hS3) (n := s.l.length + 1) (r1.mono (fun k _ e => by
                  rcases e with e | e | e
                  · exact ⟨Or.inl e.1, e.2⟩
                  · exact e.elim
                  · exact ⟨Or.inr (by omega), by omega⟩)) (by simp)
                refine ⟨by rw [HCr.out]; rfl, by rw [HCr.out]; exact hL, ?_⟩
                exact (HT3.out.trans (r2.mono (fun k e => e.1)) (fun _ e _ => e)).trans (hTL.mono (fun k e => by subst e; exact hS3)) (fun _ e _ => e)
          · rw [decide_eq_false h4] at hts
            have HR : Hid (Made S 50 w g (Sp.create s sz m) (.returned (.tuple #[.int .i64 0, .int .i64 (3 : Nat)])) w) := Made.none_ h (Below.refl _ _) (by unfold Sp.create; rw [if_neg h1, if_neg e2, if_pos (Or.inr h4)])
            clear h ok hU hg c0 c1 hT hTd h4 hv
            go_enter Tryz.func119, Tryz.ntmps119
            go_wp2_with (first | (go_at_call 91; refine HV.out.mono ?_; rintro e w1 ⟨rfl, hw⟩; rw [hw]; clear hw) | (go_at_call 152; refine HTr.out.mono ?_; rintro e w1 ⟨rfl, hw⟩; rw [hw]; clear hw))
            go_ret2
            exact HR.out
end Go.Proofs.YtdclmpdjjkjfjaaGreatDoor
