/- The document's own answer, walked: a Hold: Drop. -/
import Derived.Test.YtdclmpdjjkjfjaaGreatDoorRfHB
import Derived.Test.YtdclmpdjjkjfjaaGreatDoorPk20
import Derived.Test.YtdclmpdjjkjfjaaGreatDoorPk9
namespace Go.Proofs.YtdclmpdjjkjfjaaGreatDoor
open Go.RowKit

theorem upV_ones (us : List (Sp.Up × UpS)) : ∀ u ∈ upV us, u.oneCell' = true := fun u hu => by
  obtain ⟨x, _, hx⟩ := List.mem_flatMap.1 hu
  exact upC_one _ _ u hx
set_option maxRecDepth 100000 in
set_option maxHeartbeats 2000000 in
theorem dropH_any (s : Sp.St) (S : Nat → Prop) (g : Nat) (id : Int) (w : World) (h : HoldAt w S g s) (ok : Sp.Ok s) :
    Calls Tryz.prog 121 #[.pointer (some ⟨g, 0, none⟩), .int .i64 id] w (Did S 50 w g (Sp.drop s id)) := by
  have hfew := ok.few
  have HI := Hid.mk' (atH_any s S g id w h (by omega))
  rw [Sp.drop_F]
  cases hp : Sp.place s.l id with
  | none =>
    rw [Sp.pl_none hp] at HI
    have HR : Hid (Did S 50 w g (Sp.atUp s id (Sp.drpF s)) (.returned (.int .i64 (10 : Nat))) w) := Did.none_ h (Below.refl _ _) (Sp.atUp_none hp)
    clear hp h ok
    generalize Sp.atUp s id (Sp.drpF s) = r at *
    go_enter Tryz.func121, Tryz.ntmps121
    go_wp2_with (go_at_call 34; refine HI.out.mono ?_; rintro e w1 ⟨rfl, hw⟩; rw [hw]; clear hw)
    go_ret
    exact HR.out
  | some i =>
    rw [Sp.pl_some hp] at HI
    have hi := Sp.place_lt hp
    have hat : Sp.atUp s id (Sp.drpF s) = (⟨s.l.eraseIdx i, s.last⟩, 0) := Sp.atUp_some hp
    rw [hat]
    clear hp hat
    obtain ⟨ao, cap, c0, c1, f0, f1, hg, hS, hU⟩ := h.cells
    obtain ⟨gu, rfl, hSu, _⟩ := hU.at_.row i hi
    have hcap := hU.cap_
    obtain ⟨us, hul, hO, hK⟩ := hU.drop i hi
    have hlen : (upV us).length = s.l.length * 5 := by rw [upV_length, hul]
    have hgl := h.lt
    have hsrc1 : IsV w (some ⟨gu, 0, none⟩) cap i (upV (us.take i)) := ⟨by omega, fun e => by simp at e, fun j u hu => ⟨_, rfl, by
      refine hO.isV.cell (j := j) ?_
      have hj := (List.getElem?_eq_some_iff.1 hu).1
      rw [← List.take_append_drop i us, upV_append, List.getElem?_append_left hj]; exact hu⟩⟩
    have hl1 : (upV (us.take i)).length = i * 5 := by rw [upV_length, List.length_take]; omega
    have hl2 : (upV (us.drop (i + 1))).length = (s.l.length - (i + 1)) * 5 := by rw [upV_length, List.length_drop]; omega
    obtain ⟨A, hA, hsrc2⟩ : ∃ A : Addr, (if cap = i + 1 then some (⟨gu, 0, none⟩ : Addr) else some ⟨gu, (i + 1) * 5, none⟩) = some A ∧ IsV w (some A) (cap - (i + 1)) (s.l.length - (i + 1)) (upV (us.drop (i + 1))) := by
      by_cases hc : cap = i + 1
      · refine ⟨⟨gu, 0, none⟩, by simp [hc], by omega, fun e => by simp at e, fun j u hu => ?_⟩
        have hj := (List.getElem?_eq_some_iff.1 hu).1
        rw [hl2] at hj; omega
      · refine ⟨⟨gu, (i + 1) * 5, none⟩, by simp [hc], by omega, fun e => by simp at e, fun j u hu => ⟨_, rfl, ?_⟩⟩
        have hj := (List.getElem?_eq_some_iff.1 hu).1
        have h2 := hO.isV.cell (j := (i + 1) * 5 + j) (u := u) (by
          rw [← List.take_append_drop (i + 1) us, upV_append, List.getElem?_append_right (by rw [upV_length, List.length_take]; omega)]
          rw [upV_length, List.length_take, show (i + 1) * 5 + j - min (i + 1) us.length * 5 = j by omega]; exact hu)
        rw [Addr.add_lit] at h2 ⊢
        rw [Nat.zero_add] at h2; exact h2
    have HS1 := Hid.mk' (fun w2 (hb : Below w.heap.size w w2) => hsrc1.stay hb)
    have HS2 := Hid.mk' (fun w2 (hb : Below w.heap.size w w2) => hsrc2.stay hb)
    have HL1 := Hid.mk' hl1; have HL2 := Hid.mk' hl2
    have HE : Hid (∀ w4 ao4 cap4 n4, OwnV w4 0 67 5 ao4 cap4 n4 (upV (us.take i) ++ upV (us.drop (i + 1))) → n4 = s.l.length - 1 → Below w.heap.size w w4 → (∀ k, blockOf ao4 = some k → w.heap.size ≤ k) → w4.cell? ⟨g, 0, none⟩ = some (.slice (some ⟨gu, 0, none⟩) s.l.length cap) ∧ w4.frozen? ⟨g, 0, none⟩ = false ∧ Did S 50 w g (⟨s.l.eraseIdx i, s.last⟩, 0) (.returned (.int .i64 0)) (w4.setCell ⟨g, 0, none⟩ (.slice ao4 n4 cap4))) := fun w4 ao4 cap4 n4 hO4 hn4 hb4 hk4 => by
      subst hn4
      have hg4 := (hb4.block g hgl).trans hg
      have hU4 := (hK w4 ao4 cap4 (by rw [upV_erase]; exact hO4) (Turns.of_below hb4) (fun k e => Or.inr (hk4 k e))).1
      obtain ⟨hL, hTL⟩ := SpAt.lay (S := orNew S w) hg4 (Or.inl hS) (n := s.l.length - 1) (hU4.mono (fun k _ e => by
        rcases e with e | e
        · exact ⟨Or.inl e.1, e.2⟩
        · exact ⟨Or.inr e, by omega⟩)) (by rw [List.length_eraseIdx_of_lt hi])
      exact ⟨cell_of_row w4 g 0 _ _ _ hg4, frozen_of_row w4 g 0 _ _ hg4, ⟨rfl, hL, (Turns.of_below hb4).trans (hTL.mono (fun k e => by subst e; exact hS)) (fun _ e _ => e)⟩⟩
    obtain ⟨i0, hi0, hz0, hz1, hz2⟩ := info_parts info_up
    have Hi := Hid.mk' hi0; have Hz0 := Hid.mk' hz0; have Hz1 := Hid.mk' hz1; have Hz2 := Hid.mk' hz2
    have hw : IntKind.i64.wrap ((i : Int) + 1) = (i : Int) + 1 := wrap_id (by omega) (by omega)
    have hic : i ≤ cap := by omega
    have hi1 : i + 1 ≤ s.l.length := by omega
    have hi' : (i : Int) + 1 ≤ s.l.length := by omega
    have hcc : ((i : Int) + 1).toNat = i + 1 := by omega
    have hc0 : (0 : Int) ≤ (i : Int) + 1 := by omega
    clear h hU hg hS hSu hK hO hsrc1 hsrc2 hl1 hl2 hlen hul hi0 hz0 hz1 hz2 c1 f0 f1 ok
    generalize ((⟨s.l.eraseIdx i, s.last⟩, 0) : Sp.St × Nat) = r at *
    generalize s.l.length = n at *
    go_enter Tryz.func121, Tryz.ntmps121
    go_wp2_with (go_at_call 34; refine HI.out.mono ?_; rintro e w1 ⟨rfl, hw⟩; rw [hw]; clear hw)
    go_region_law (first
      | (refine step_append_v (by rfl) (.tmp 13) (.tmp 19) _ (by rfl) 67 i0 (.agg #[.int .i64 0, .int .i64 0, .string ⟨#[]⟩, .slice none 0 0, .int .i64 0]) 5 64 Tryz.underlying43 Hi.out Hz0.out Hz1.out Hz2.out (by rfl) (by decide) (by rfl) (OwnV.nil _ _ _ _) (by rfl) (HS1.out _ (by exact ⟨rfl, rfl, rfl, Nat.le_refl _, fun _ _ => rfl⟩)) HL1.out (upV_ones _) (by omega) (by omega) ?_; intro ao3 cap3 w3 hO3 hG3 hk3; rw [Nat.zero_add, List.nil_append] at hO3; have hb3 : Below w.heap.size w w3 := ⟨hG3.os, hG3.tape, hG3.output, hG3.size, fun k hk => hG3.block k hk (by simp [blockOf])⟩; have c03 : w3.cell? ⟨g, 0, none⟩ = some (.slice (some ⟨gu, 0, none⟩) n cap) := (hb3.cell (p := ⟨g, 0, none⟩) hgl).trans c0; have HO3 := Hid.mk' hO3; have HB3 := Hid.mk' hb3; have HK3 : Hid (∀ k, blockOf ao3 = some k → w.heap.size ≤ k) := (fun k e => (hk3 k e).elim (fun e2 => by simp [blockOf] at e2) (fun e2 => e2)); clear hO3 hG3 hk3 hb3)
      | (refine step_append_v (by rfl) (.tmp 20) (.tmp 27) _ (by rfl) 67 i0 (.agg #[.int .i64 0, .int .i64 0, .string ⟨#[]⟩, .slice none 0 0, .int .i64 0]) 5 64 Tryz.underlying43 Hi.out Hz0.out Hz1.out Hz2.out (by rfl) (by decide) (by rfl) HO3.out (by rfl) (HS2.out _ HB3.out) HL2.out (upV_ones _) (by omega) (by omega) ?_; intro ao4 cap4 w4 hO4 hG4 hk4; have hb4 : Below w.heap.size w w4 := HB3.out.trans ⟨hG4.os, hG4.tape, hG4.output, hG4.size, fun k hk => hG4.block k (Nat.lt_of_lt_of_le hk HB3.out.size) (fun e => absurd (HK3.out k e.symm) (by omega))⟩; obtain ⟨d0, d1, hd⟩ := HE.out w4 ao4 cap4 _ hO4 (by omega) hb4 (fun k e => (hk4 k e).elim (HK3.out k) (fun e2 => Nat.le_trans HB3.out.size e2)); have HD := Hid.mk' hd; clear hO4 hG4 hk4 hb4 hd))
    all_goals
      go_wp2
      go_ret
      exact HD.out
end Go.Proofs.YtdclmpdjjkjfjaaGreatDoor
