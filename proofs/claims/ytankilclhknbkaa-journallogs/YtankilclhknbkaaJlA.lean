/- A log of bytes, as an object: what it holds in memory; package journal, walked: New, Sure, Room, Bytes, Sync. -/
import Derived.Test.YtankilclhknbkaaJrF
import Derived.Test.YtankilclhknbkaaMemKp
namespace Go.Proofs.Ytankilclhknbkaa
open Go.RowKit

/-- a log at block g: its bytes in a row of its own among the blocks from base on, and how many are made sure of -/
structure LogAt (w : World) (base g : Nat) (b : List UInt8) (sure : Nat) (ao : Option Addr) (ca : Nat) : Prop where
  row : w.heap[g]? = some (.cells #[.slice ao b.length ca, .int .i64 (sure : Int)] 64 (0, 0))
  own : OwnB w base 5 ao ca b
  low : base ≤ g
  le : sure ≤ b.length
  few : b.length ≤ 100000
theorem row2 {W : World} {g t : Nat} {c0 c1 : Value} (h : W.heap[g]? = some (.cells #[c0, c1] t (0, 0))) : (W.cell? ⟨g, 0, none⟩ = some c0 ∧ W.cell? ⟨g, 1, none⟩ = some c1) ∧ (W.frozen? ⟨g, 0, none⟩ = false ∧ W.frozen? ⟨g, 1, none⟩ = false) :=
  ⟨⟨cell_of_row W g 0 _ _ _ h, cell_of_row W g 1 _ _ _ h⟩, frozen_of_row W g 0 _ _ h, frozen_of_row W g 1 _ _ h⟩
section
variable {w w' : World} {base g : Nat} {b : List UInt8} {sure : Nat} {ao : Option Addr} {ca : Nat}
theorem LogAt.stay (h : LogAt w base g b sure ao ca) (hb : Below w.heap.size w w') : LogAt w' base g b sure ao ca := ⟨(hb.block g (Array.getElem?_eq_some_iff.1 h.row).1).trans h.row, h.own.stay hb, h.low, h.le, h.few⟩
theorem LogAt.lt (h : LogAt w base g b sure ao ca) : g < w.heap.size := (Array.getElem?_eq_some_iff.1 h.row).1
theorem t_log : (64 : Nat) ≠ 5 := by decide
/-- its bytes lie apart from it -/
theorem LogAt.apart (h : LogAt w base g b sure ao ca) : ∀ a, ao = some a → a.block ≠ g := by
  intro a e e2
  have := row_ne h.row h.own t_log
  rw [ownBlock_slice, e] at this
  exact this (by rw [← e2]; rfl)
theorem newLog_any (w : World) : Calls Try.prog 15 #[] w fun e w' => e = .returned (.pointer (some ⟨w.heap.size, 0, none⟩)) ∧ LogAt w' w.heap.size w.heap.size [] 0 none 0 ∧ Below w.heap.size w w' := by
  have H : Hid (LogAt (w.alloc (.cells #[.slice none 0 0, .int .i64 0] 64)) w.heap.size w.heap.size [] 0 none 0 ∧ Below w.heap.size w (w.alloc (.cells #[.slice none 0 0, .int .i64 0] 64))) :=
    ⟨⟨heap_alloc_new w _, OwnB.nil _ _ _, Nat.le_refl _, Nat.le_refl _, by decide⟩, (Below.refl _ w).alloc (Nat.le_refl _) _⟩
  go_enter Try.func15, Try.ntmps15
  go_wp2
  go_ret
  exact ⟨rfl, H.out⟩
theorem sureLog_any (h : LogAt w base g b sure ao ca) : Calls Try.prog 20 #[.pointer (some ⟨g, 0, none⟩)] w fun e w' => e = .returned (.int .i64 (sure : Int)) ∧ w' = w := by
  obtain ⟨⟨c0, c1⟩, _⟩ := row2 h.row
  clear h
  go_enter Try.func20, Try.ntmps20
  go_wp2
  go_ret
  exact ⟨rfl, rfl⟩
theorem roomLog_any (h : LogAt w base g b sure ao ca) (n : Int) : Calls Try.prog 22 #[.pointer (some ⟨g, 0, none⟩), .int .i64 n] w fun e w' => e = .returned (.bool (decide (0 ≤ n) && decide (n ≤ 100000 - (b.length : Int)))) ∧ w' = w := by
  obtain ⟨⟨c0, c1⟩, _⟩ := row2 h.row
  have hfew := h.few
  have hw : IntKind.i64.wrap (100000 - (b.length : Int)) = 100000 - (b.length : Int) := wrap_id (by omega) (by omega)
  clear h
  generalize b.length = m at *
  by_cases h1 : 0 ≤ n
  · by_cases h2 : n ≤ 100000 - (m : Int)
    · have HR : Hid ((decide (0 ≤ n) && decide (n ≤ 100000 - (m : Int))) = true) := by unfold Hid; rw [decide_eq_true h1, decide_eq_true h2]; rfl
      generalize (decide (0 ≤ n) && decide (n ≤ 100000 - (m : Int))) = r at *
      go_enter Try.func22, Try.ntmps22
      go_wp2
      go_ret
      exact ⟨by rw [HR.out]; first | rfl | simp, rfl⟩
    · have HR : Hid ((decide (0 ≤ n) && decide (n ≤ 100000 - (m : Int))) = false) := by unfold Hid; rw [decide_eq_false h2]; simp
      generalize (decide (0 ≤ n) && decide (n ≤ 100000 - (m : Int))) = r at *
      go_enter Try.func22, Try.ntmps22
      go_wp2
      go_ret
      exact ⟨by rw [HR.out]; first | rfl | (simp; done) | (simp; omega), rfl⟩
  · have HR : Hid ((decide (0 ≤ n) && decide (n ≤ 100000 - (m : Int))) = false) := by unfold Hid; rw [decide_eq_false h1]; rfl
    generalize (decide (0 ≤ n) && decide (n ≤ 100000 - (m : Int))) = r at *
    go_enter Try.func22, Try.ntmps22
    go_wp2
    go_ret
    exact ⟨by rw [HR.out]; first | rfl | simp, rfl⟩
theorem OwnB.less {t : Nat} (h : OwnB w base t ao ca b) (n : Nat) (hn : n ≤ b.length) : OwnB w base t ao ca (b.take n) := by
  have hl : (b.take n).length = n := by rw [List.length_take]; omega
  have e : byteV (b.take n) = (byteV b).take n := by unfold byteV; rw [List.map_take]
  unfold OwnB
  rw [hl, e]
  refine ⟨by rw [List.length_take, byteV_length]; omega, ?_⟩
  rcases h.2 with ⟨e1, h0⟩ | ⟨g, cap', cur, e1, hg, hh, hn', hm, hs, ht⟩
  · left
    injection e1 with e1 _ e3
    subst e1; subst e3
    have : n = 0 := by omega
    subst this
    exact ⟨rfl, rfl⟩
  · right
    injection e1 with e1 _ e3
    subst e1; subst e3
    refine ⟨g, ca, cur, rfl, hg, hh, by omega, hm, hs, ?_⟩
    rw [← ht, List.take_take]
    congr 1
    omega
theorem bytesLog_any (h : LogAt w base g b sure ao ca) : Calls Try.prog 21 #[.pointer (some ⟨g, 0, none⟩)] w fun e w' => ∃ ao' ca', e = .returned (.slice ao' b.length ca') ∧ IsB w' ao' ca' b ∧ Below w.heap.size w w' := by
  obtain ⟨⟨c0, c1⟩, _⟩ := row2 h.row
  have HI := Hid.mk' h.own.isB
  have hfew := h.few
  obtain ⟨i0, hi0, hz0, hz1, hz2⟩ := info_parts info_u8
  have Hi := Hid.mk' hi0; have Hz0 := Hid.mk' hz0; have Hz1 := Hid.mk' hz1; have Hz2 := Hid.mk' hz2
  clear h hi0 hz0 hz1 hz2
  obtain ⟨m, hm⟩ : ∃ m, b.length = m := ⟨_, rfl⟩
  rw [hm] at c0 hfew
  have HM := Hid.mk' hm
  rw [hm]
  clear hm
  go_enter Try.func21, Try.ntmps21
  go_wp2_with (at_builtin; refine wpList_append_grown (S := fun _ => False) rfl (.const (.slice none 0 0)) (.tmp 6) 22 rfl 5 i0 Try.underlying22 Hi.out Hz0.out Hz1.out Hz2.out (l := []) rfl rfl (GrowB.nil _ _ _) rfl HI.out HM.out (by omega) ?_; intro bo4 bc4 w4 hO4 hT4; have HO4 := Hid.mk' hO4.isB; have HB4 : Hid (Below w.heap.size w w4) := hT4.below (fun k e => by simp [blkB] at e) (Nat.le_refl _); clear hO4 hT4)
  go_ret
  exact ⟨bo4, bc4, by first | rfl | simp, by have := HO4.out; rwa [List.nil_append] at this, HB4.out⟩
theorem LogAt.put (h : LogAt w base g b sure ao ca) (n : Nat) (hn : n ≤ b.length) : LogAt (w.setCell ⟨g, 1, none⟩ (.int .i64 (n : Int))) base g b n ao ca ∧ Turns (fun k => k = g) w (w.setCell ⟨g, 1, none⟩ (.int .i64 (n : Int))) := by
  have ht : Turns (fun k => k = g) w (w.setCell ⟨g, 1, none⟩ (.int .i64 (n : Int))) := Turns.setCell _ w _ _ rfl
  exact ⟨⟨heap_setCell_same w g 1 _ _ _ h.row, h.own.turns ht h.apart, h.low, hn, h.few⟩, ht⟩
theorem syncLog_any (h : LogAt w base g b sure ao ca) : Calls Try.prog 17 #[.pointer (some ⟨g, 0, none⟩)] w fun e w' => e = .returned (.tuple #[]) ∧ LogAt w' base g b b.length ao ca ∧ Turns (fun k => k = g) w w' := by
  obtain ⟨⟨c0, c1⟩, f0, f1⟩ := row2 h.row
  have HP := Hid.mk' (h.put b.length (Nat.le_refl _))
  clear h
  generalize b.length = m at *
  go_enter Try.func17, Try.ntmps17
  go_wp2
  go_end0
  exact ⟨rfl, HP.out⟩
/-- cut off behind n bytes -/
theorem LogAt.cut (h : LogAt w base g b sure ao ca) (n : Nat) (hn : n ≤ b.length) : LogAt ((w.setCell ⟨g, 0, none⟩ (.slice ao n ca)).setCell ⟨g, 1, none⟩ (.int .i64 ((min sure n : Nat) : Int))) base g (b.take n) (min sure n) ao ca ∧ Turns (fun k => k = g) w ((w.setCell ⟨g, 0, none⟩ (.slice ao n ca)).setCell ⟨g, 1, none⟩ (.int .i64 ((min sure n : Nat) : Int))) := by
  have t1 : Turns (fun k => k = g) w (w.setCell ⟨g, 0, none⟩ (.slice ao n ca)) := Turns.setCell _ w _ _ rfl
  have t2 : Turns (fun k => k = g) (w.setCell ⟨g, 0, none⟩ (.slice ao n ca)) ((w.setCell ⟨g, 0, none⟩ (.slice ao n ca)).setCell ⟨g, 1, none⟩ (.int .i64 ((min sure n : Nat) : Int))) := Turns.setCell _ _ _ _ rfl
  have ht := t1.trans t2 (fun _ e _ => e)
  have hl : (b.take n).length = n := by rw [List.length_take]; omega
  have hr := heap_setCell_same _ g 1 _ _ (.int .i64 ((min sure n : Nat) : Int)) (heap_setCell_same w g 0 _ _ (.slice ao n ca) h.row)
  refine ⟨⟨by rw [hl]; exact hr, (h.own.turns ht h.apart).less n hn, h.low, by rw [hl]; omega, by rw [hl]; have := h.few; omega⟩, ht⟩
theorem cutLog_no (h : LogAt w base g b sure ao ca) (n : Int) (hn : ¬ (0 ≤ n ∧ n < b.length)) : Calls Try.prog 19 #[.pointer (some ⟨g, 0, none⟩), .int .i64 n] w fun e w' => e = .returned (.tuple #[]) ∧ w' = w := by
  obtain ⟨⟨c0, c1⟩, f0, f1⟩ := row2 h.row
  clear h
  generalize b.length = m at *
  by_cases h1 : n < 0
  · clear hn
    go_enter Try.func19, Try.ntmps19
    go_wp2
    refine bodyPost_ret (results_none rfl _ _ _) rfl ?_
    exact ⟨rfl, rfl⟩
  · have h2 : (m : Int) ≤ n := by omega
    clear hn
    go_enter Try.func19, Try.ntmps19
    go_wp2
    refine bodyPost_ret (results_none rfl _ _ _) rfl ?_
    exact ⟨rfl, rfl⟩
theorem cutLog_yes (h : LogAt w base g b sure ao ca) (n : Nat) (hn : n < b.length) : Calls Try.prog 19 #[.pointer (some ⟨g, 0, none⟩), .int .i64 (n : Int)] w fun e w' => e = .returned (.tuple #[]) ∧ LogAt w' base g (b.take n) (min sure n) ao ca ∧ Turns (fun k => k = g) w w' := by
  obtain ⟨⟨c0, c1⟩, f0, f1⟩ := row2 h.row
  have HP := Hid.mk' (h.cut n (by omega))
  have hca := h.own.isB.1
  clear h
  have h1 : ¬ (n : Int) < 0 := by omega
  have h2 : ¬ (b.length : Int) ≤ n := by omega
  have h3 : (n : Int) ≤ ca := by omega
  generalize b.length = m at *
  have h4 : (n : Int) ≤ m := by omega
  by_cases hs : n < sure
  · have em : min sure n = n := by omega
    have hs' : (n : Int) < sure := by omega
    rw [em] at HP ⊢
    go_enter Try.func19, Try.ntmps19
    go_wp2
    go_end0
    exact ⟨rfl, HP.out⟩
  · have em : min sure n = sure := by omega
    have hs' : ¬ (n : Int) < sure := by omega
    rw [em] at HP ⊢
    go_enter Try.func19, Try.ntmps19
    go_wp2
    go_end0
    exact ⟨rfl, HP.out⟩
end
end Go.Proofs.Ytankilclhknbkaa
