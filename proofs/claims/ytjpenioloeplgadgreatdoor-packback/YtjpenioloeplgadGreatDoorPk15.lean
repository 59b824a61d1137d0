/- Small texts, one behind the other: LinA, LinB, TdA, PmRdA, PmRdB, PmRdC. -/
import Derived.Test.YtjpenioloeplgadGreatDoorPk5
import Derived.Test.YtjpenioloeplgadGreatDoorPk1
import Derived.Test.YtjpenioloeplgadGreatDoorPk12
import Derived.Test.YtjpenioloeplgadGreatDoorPk10
import Derived.Test.YtjpenioloeplgadGreatDoorPk6
import Derived.Test.YtjpenioloeplgadGreatDoorPk2
import Derived.Test.YtjpenioloeplgadGreatDoorBase
import Derived.Test.YtjpenioloeplgadGreatDoorProg
/- A reader of lines as it lies in memory; New, fault walked. -/
namespace Go.Proofs.YtjpenioloeplgadGreatDoor
open Go.RowKit

/-- block g is a reader of lines that keeps s; it and all its memory are among the blocks S -/
def LineAt (w : World) (S : Nat → Prop) (g : Nat) (s : Ln.St) : Prop :=
  ∃ ao cap, w.heap[g]? = some (.cells #[.slice ao s.line.length cap, .bool s.ending, .int .i64 (s.code : Int)] 116 (0, 0)) ∧
    OwnB w 0 5 ao cap s.line ∧ S g ∧ ∀ a, ao = some a → S a.block
theorem LineAt.lt {w : World} {S : Nat → Prop} {g : Nat} {s : Ln.St} (h : LineAt w S g s) : g < w.heap.size := by
  obtain ⟨_, _, hg, _⟩ := h; exact (Array.getElem?_eq_some_iff.1 hg).1
theorem LineAt.mono {w : World} {S S' : Nat → Prop} {g : Nat} {s : Ln.St} (h : LineAt w S g s) (hs : ∀ k, k < w.heap.size → S k → S' k) : LineAt w S' g s := by
  obtain ⟨ao, cap, hg, ho, h1, h2⟩ := h
  exact ⟨ao, cap, hg, ho, hs g (Array.getElem?_eq_some_iff.1 hg).1 h1, fun a e => hs _ (ho.block a e).2 (h2 a e)⟩
/-- it stays while none of its blocks turns -/
theorem LineAt.turns {w w' : World} {S S' : Nat → Prop} {g : Nat} {s : Ln.St} (h : LineAt w S g s) (ht : Turns S' w w') (hs : ∀ k, S k → ¬ S' k) : LineAt w' S g s := by
  obtain ⟨ao, cap, hg, ho, h1, h2⟩ := h
  exact ⟨ao, cap, ht.row hg (hs g h1), ho.turns ht (fun a e => hs _ (h2 a e)), h1, h2⟩
theorem LineAt.drewN {w : World} {S : Nat → Prop} {g : Nat} {s : Ln.St} (h : LineAt w S g s) (n : Nat) : LineAt (w.drewN n) S g s := h.turns (Turns.drewN (fun _ => False) w n) (fun _ _ e => e)
/-- stores into it -/
theorem LineAt.code {w : World} {S : Nat → Prop} {g : Nat} {s : Ln.St} (h : LineAt w S g s) (k : Nat) : LineAt (w.setCell ⟨g, 2, none⟩ (.int .i64 (k : Int))) S g { s with code := k } ∧ Turns S w (w.setCell ⟨g, 2, none⟩ (.int .i64 (k : Int))) := by
  obtain ⟨ao, cap, hg, ho, h1, h2⟩ := h
  refine ⟨⟨ao, cap, ?_, ho.turns (Turns.setCell (fun i => i = g) w _ _ rfl) ?_, h1, h2⟩, Turns.setCell S w _ _ h1⟩
  · rw [heap_setCell_same w g 2 _ _ _ hg]; rfl
  · intro a e
    have := row_ne hg ho (by decide)
    rw [ownBlock_slice, e] at this
    intro e2; exact this (by simp [blockOf, e2])
theorem LineAt.ends {w : World} {S : Nat → Prop} {g : Nat} {s : Ln.St} (h : LineAt w S g s) (b : Bool) : LineAt (w.setCell ⟨g, 1, none⟩ (.bool b)) S g { s with ending := b } ∧ Turns S w (w.setCell ⟨g, 1, none⟩ (.bool b)) := by
  obtain ⟨ao, cap, hg, ho, h1, h2⟩ := h
  refine ⟨⟨ao, cap, ?_, ho.turns (Turns.setCell (fun i => i = g) w _ _ rfl) ?_, h1, h2⟩, Turns.setCell S w _ _ h1⟩
  · rw [heap_setCell_same w g 1 _ _ _ hg]; rfl
  · intro a e
    have := row_ne hg ho (by decide)
    rw [ownBlock_slice, e] at this
    intro e2; exact this (by simp [blockOf, e2])
theorem LineAt.drop {w : World} {S : Nat → Prop} {g : Nat} {s : Ln.St} (h : LineAt w S g s) : LineAt (w.setCell ⟨g, 0, none⟩ (.slice none 0 0)) S g { s with line := [] } ∧ Turns S w (w.setCell ⟨g, 0, none⟩ (.slice none 0 0)) := by
  obtain ⟨ao, cap, hg, ho, h1, h2⟩ := h
  refine ⟨⟨none, 0, ?_, OwnB.nil _ _ _, h1, fun a e => by cases e⟩, Turns.setCell S w _ _ h1⟩
  rw [heap_setCell_same w g 0 _ _ _ hg]; rfl
/-- a line that grew is laid into it -/
theorem LineAt.grow {w w1 : World} {S : Nat → Prop} {g : Nat} {s : Ln.St} {l : List UInt8} {ao : Option Addr} {cap : Nat} {ao' : Option Addr} {cap' : Nat} (hg : w.heap[g]? = some (.cells #[.slice ao s.line.length cap, .bool s.ending, .int .i64 (s.code : Int)] 116 (0, 0))) (h1 : S g) (ho : OwnB w1 0 5 ao' cap' l) (ht : Turns (fun k => S k ∧ k ≠ g) w w1) (ha : ∀ a, ao' = some a → orNew S w a.block) (n : Nat) (hn : n = l.length) :
    LineAt (w1.setCell ⟨g, 0, none⟩ (.slice ao' n cap')) (orNew S w) g { s with line := l } ∧ Turns S w (w1.setCell ⟨g, 0, none⟩ (.slice ao' n cap')) := by
  subst hn
  have hg1 := ht.row hg (fun e => e.2 rfl)
  refine ⟨⟨ao', cap', ?_, ho.turns (Turns.setCell (fun i => i = g) w1 _ _ rfl) ?_, Or.inl h1, ha⟩, (ht.mono (fun k e => e.1)).trans (Turns.setCell S w1 _ _ h1) (fun i e _ => e)⟩
  · rw [heap_setCell_same w1 g 0 _ _ _ hg1]; rfl
  · intro a e
    have := row_ne hg1 ho (by decide)
    rw [ownBlock_slice, e] at this
    intro e2; exact this (by simp [blockOf, e2])

theorem newLines_any (w : World) :
    Calls Tryz.prog 43 #[] w fun e w' => e = .returned (.pointer (some ⟨w.heap.size, 0, none⟩)) ∧ LineAt w' (fun k => w.heap.size ≤ k) w.heap.size Ln.start ∧ Below w.heap.size w w' := by
  go_enter Tryz.func43, Tryz.ntmps43
  go_wp2
  go_ret
  exact ⟨rfl, ⟨none, 0, heap_alloc_new w _, OwnB.nil _ _ _, Nat.le_refl _, fun a e => by cases e⟩, (Below.refl _ _).alloc (Nat.le_refl _) _⟩

set_option maxHeartbeats 800000 in
theorem faultLines_any (w : World) (S : Nat → Prop) (g : Nat) (s : Ln.St) (c : UInt8) (h : LineAt w S g s) :
    Calls Tryz.prog 121 #[.pointer (some ⟨g, 0, none⟩), .int .u8 c.toNat] w fun e w' => e = .returned (.int .i64 (Ln.fault s c : Int)) ∧ w' = w := by
  obtain ⟨ao, cap, hg, _⟩ := h
  have c0 : w.cell? ⟨g, 0, none⟩ = some (.slice ao s.line.length cap) := cell_of_row w g 0 _ _ _ hg
  have c1 : w.cell? ⟨g, 1, none⟩ = some (.bool s.ending) := cell_of_row w g 1 _ _ _ hg
  clear hg
  have HV := Hid.mk' (visible_any (c.toNat : Int) w)
  by_cases hq : s.ending = (c == 10)
  · by_cases h13 : c = 13
    · have t13 : ((c.toNat : Int) == 13) = true := by rw [h13]; rfl
      have t10 : ((c.toNat : Int) == 10) = false := by rw [h13]; rfl
      have hF : Ln.fault s c = 0 := by unfold Ln.fault; rw [if_pos hq, if_pos (Or.inl h13)]
      have hE : s.ending = false := by rw [hq, h13]; rfl
      rw [hF]; rw [hE] at c1
      clear hF hq hE h13
      go_enter Tryz.func121, Tryz.ntmps121
      go_wp2
      go_ret
      exact ⟨rfl, rfl⟩
    · have t13 : ((c.toNat : Int) == 13) = false := byte_ne' h13
      by_cases h10 : c = 10
      · have t10 : ((c.toNat : Int) == 10) = true := by rw [h10]; rfl
        have hF : Ln.fault s c = 0 := by unfold Ln.fault; rw [if_pos hq, if_pos (Or.inr h10)]
        have hE : s.ending = true := by rw [hq, h10]; rfl
        rw [hF]; rw [hE] at c1
        clear hF hq hE h13 h10
        go_enter Tryz.func121, Tryz.ntmps121
        go_wp2
        go_ret
        exact ⟨rfl, rfl⟩
      · have t10 : ((c.toNat : Int) == 10) = false := byte_ne' h10
        have hE : s.ending = false := by rw [hq]; exact beq_eq_false_iff_ne.2 h10
        have hno : ¬ (c = 13 ∨ c = 10) := by rintro (e | e) <;> contradiction
        rw [hE] at c1
        cases hv : Ch.visible (c.toNat : Int)
        · have hF : Ln.fault s c = 3 := by unfold Ln.fault; rw [if_pos hq, if_neg hno, if_pos hv]
          rw [hv] at HV
          rw [hF]
          clear hF hq hE h13 h10 hno hv
          go_enter Tryz.func121, Tryz.ntmps121
          go_wp2_with fail
          refine HV.out.mono ?_
          rintro e w' ⟨rfl, hw⟩
          subst hw
          go_wp2
          go_ret
          exact ⟨rfl, rfl⟩
        · rw [hv] at HV
          by_cases h2 : 200 ≤ s.line.length
          · have hF : Ln.fault s c = 4 := by unfold Ln.fault; rw [if_pos hq, if_neg hno, if_neg (by rw [hv]; simp), if_pos h2]
            have t2 : decide ((s.line.length : Int) ≥ 200) = true := by rw [decide_eq_true_eq]; omega
            rw [hF]
            clear hF hq hE h13 h10 hno hv
            go_enter Tryz.func121, Tryz.ntmps121
            go_wp2_with fail
            refine HV.out.mono ?_
            rintro e w' ⟨rfl, hw⟩
            subst hw
            go_wp2
            go_ret
            exact ⟨rfl, rfl⟩
          · have hF : Ln.fault s c = 0 := by unfold Ln.fault; rw [if_pos hq, if_neg hno, if_neg (by rw [hv]; simp), if_neg h2]
            have t2 : decide ((s.line.length : Int) ≥ 200) = false := by rw [decide_eq_false_iff_not]; omega
            rw [hF]
            clear hF hq hE h13 h10 hno hv
            go_enter Tryz.func121, Tryz.ntmps121
            go_wp2_with fail
            refine HV.out.mono ?_
            rintro e w' ⟨rfl, hw⟩
            subst hw
            go_wp2
            go_ret
            exact ⟨rfl, rfl⟩
  · have hF : Ln.fault s c = 2 := by unfold Ln.fault; rw [if_neg hq]
    rw [hF]
    by_cases h10 : c = 10
    · have t10 : ((c.toNat : Int) == 10) = true := by rw [h10]; rfl
      have hE : s.ending = false := by
        cases hh : s.ending
        · rfl
        · exact absurd (by rw [hh, h10]; rfl) hq
      rw [hE] at c1
      clear hF hq hE h10
      go_enter Tryz.func121, Tryz.ntmps121
      go_wp2
      go_ret
      exact ⟨rfl, rfl⟩
    · have t10 : ((c.toNat : Int) == 10) = false := byte_ne' h10
      have hE : s.ending = true := by
        cases hh : s.ending
        · exact absurd (by rw [hh]; exact (beq_eq_false_iff_ne.2 h10).symm) hq
        · rfl
      rw [hE] at c1
      clear hF hq hE h10
      go_enter Tryz.func121, Tryz.ntmps121
      go_wp2
      go_ret
      exact ⟨rfl, rfl⟩
end Go.Proofs.YtjpenioloeplgadGreatDoor

/- One byte more for a reader of lines, walked. -/
namespace Go.Proofs.YtjpenioloeplgadGreatDoor
open Go.RowKit

/-- what Feed answers, as a value -/
def Ln.fed (s : Ln.St) (c : UInt8) : Value := .tuple #[.string ⟨(Ln.text s c).toArray⟩, .bool (Ln.ends s c), .int .i64 ((Ln.next s c).code : Int)]
theorem Ln.fed_of {s s' : Ln.St} {c : UInt8} {t : List UInt8} {b : Bool} {k : Nat} (ht : Ln.text s c = t) (hb : Ln.ends s c = b) (hn : Ln.next s c = s') (hk : s'.code = k) : Ln.fed s c = .tuple #[.string ⟨t.toArray⟩, .bool b, .int .i64 (k : Int)] := by
  unfold Ln.fed; rw [ht, hb, hn, hk]
theorem keep_line {w : World} {S : Nat → Prop} {g : Nat} {s : Ln.St} (h : LineAt w S g s) (W : World) : LineAt w (orNew S W) g s := h.mono (fun _ _ e => Or.inl e)

theorem IsB.one_at (W : World) (c : UInt8) (t : Nat) (fr : Nat × Nat) {k : Nat} (hk : W.heap.size = k) : IsB (W.alloc (.cells #[.int .u8 (c.toNat : Int)] t fr)) (Option.some ⟨k, 0, Option.none⟩) 1 [c] := hk ▸ IsB.one W c t fr
/-- a block stays by an append to another one -/
theorem kept_row {W w3 : World} {g : Nat} {row : Obj} {r : Option Nat} (hg : W.heap[g]? = some row) (ob : Obj) (hG : (W.alloc ob).grownBy w3 r) (hr : some g ≠ r) : w3.heap[g]? = some row := by
  have hlt : g < W.heap.size := (Array.getElem?_eq_some_iff.1 hg).1
  have := hG.block g (by simp; omega) hr
  rw [this, (World.grownBy_alloc W ob none).block g hlt (by simp)]; exact hg

/-- a code is told again -/
theorem feed_again (w : World) (S : Nat → Prop) (g : Nat) (s : Ln.St) (c : UInt8) (h : LineAt w S g s) (hc : s.code ≠ 0) :
    Calls Tryz.prog 95 #[.pointer (some ⟨g, 0, none⟩), .int .u8 c.toNat] w fun e w' => e = .returned (Ln.fed s c) ∧ LineAt w' (orNew S w) g (Ln.next s c) ∧ Turns S w w' := by
  have HA := Ln.again c hc
  rw [Ln.fed_of HA.2.1 HA.2.2 HA.1 rfl, HA.1]
  clear HA
  have HS := Hid.mk' h
  obtain ⟨ao, cap, hg, _⟩ := h
  have c2 : w.cell? ⟨g, 2, none⟩ = some (.int .i64 (s.code : Int)) := cell_of_row w g 2 _ _ _ hg
  have t0 : ((s.code : Int) == 0) = false := by rw [beq_eq_false_iff_ne]; omega
  have t1 : ((s.code : Int) != 0) = true := by rw [bne_iff_ne]; omega
  clear hg hc
  go_enter Tryz.func95, Tryz.ntmps95
  go_wp2
  go_quiet (fail)
  go_wp2
  go_ret3
  exact ⟨rfl, keep_line (HS.out.drewN _) w, Turns.drewN _ _ _⟩

/-- a code -/
theorem feed_code (w : World) (S : Nat → Prop) (g : Nat) (s : Ln.St) (c : UInt8) (k : Nat) (h : LineAt w S g s) (hc : s.code = 0) (hf : Ln.fault s c = k) (hk : k ≠ 0) :
    Calls Tryz.prog 95 #[.pointer (some ⟨g, 0, none⟩), .int .u8 c.toNat] w fun e w' => e = .returned (Ln.fed s c) ∧ LineAt w' (orNew S w) g (Ln.next s c) ∧ Turns S w w' := by
  have hn : Ln.next s c = { s with code := k } := by unfold Ln.next; rw [if_neg (by omega), hf, if_pos hk]
  rw [Ln.fed_of (t := []) (b := false) (by unfold Ln.text; rw [if_neg (fun e => hk (hf.symm.trans e.2.1))]) (by unfold Ln.ends; rw [decide_eq_false_iff_not]; exact fun e => hk (hf.symm.trans e.2.1)) hn rfl, hn]
  have HF := Hid.mk' (faultLines_any w S g s c h)
  rw [hf] at HF
  have HS := Hid.mk' (h.code k)
  obtain ⟨ao, cap, hg, _⟩ := h
  have c2 : w.cell? ⟨g, 2, none⟩ = some (.int .i64 0) := by
    rw [cell_of_row w g 2 _ _ _ hg]; simp [hc]
  have f2 : w.frozen? ⟨g, 2, none⟩ = false := frozen_of_row w g 2 _ _ hg
  have t1 : ((k : Int) != 0) = true := by rw [bne_iff_ne]; omega
  clear hg hc hf hn hk
  go_enter Tryz.func95, Tryz.ntmps95
  go_wp2_with fail
  refine HF.out.mono ?_
  rintro e w1 ⟨rfl, hw⟩
  subst hw
  go_wp2
  go_quiet (fail)
  go_wp2
  go_ret3
  exact ⟨rfl, keep_line (HS.out.1.drewN _) _, HS.out.2.trans (Turns.drewN S _ _) (fun _ e _ => e)⟩

/-- a line's end -/
theorem feed_end (w : World) (S : Nat → Prop) (g : Nat) (s : Ln.St) (h : LineAt w S g s) (hc : s.code = 0) (hf : Ln.fault s 10 = 0) :
    Calls Tryz.prog 95 #[.pointer (some ⟨g, 0, none⟩), .int .u8 10] w fun e w' => e = .returned (Ln.fed s 10) ∧ LineAt w' (orNew S w) g (Ln.next s 10) ∧ Turns S w w' := by
  have hn : Ln.next s 10 = ⟨[], false, 0⟩ := by unfold Ln.next; rw [if_neg (by omega), hf]; rfl
  rw [Ln.fed_of (t := s.line) (b := true) (by unfold Ln.text; rw [if_pos ⟨hc, hf, rfl⟩]) (by unfold Ln.ends; rw [decide_eq_true_eq]; exact ⟨hc, hf, rfl⟩) hn rfl, hn]
  have HF := Hid.mk' (faultLines_any w S g s 10 h)
  rw [hf] at HF
  have HS := Hid.mk' (h.code 0)
  have HS2 := Hid.mk' (HS.out.1.drop)
  have HS3 := Hid.mk' (HS2.out.1.ends false)
  obtain ⟨ao, cap, hg, ho, _⟩ := h
  have c0 : w.cell? ⟨g, 0, none⟩ = some (.slice ao s.line.length cap) := cell_of_row w g 0 _ _ _ hg
  have c1 : w.cell? ⟨g, 1, none⟩ = some (.bool s.ending) := cell_of_row w g 1 _ _ _ hg
  have c2 : w.cell? ⟨g, 2, none⟩ = some (.int .i64 0) := by
    rw [cell_of_row w g 2 _ _ _ hg]; simp [hc]
  have f0 : w.frozen? ⟨g, 0, none⟩ = false := frozen_of_row w g 0 _ _ hg
  have f1 : w.frozen? ⟨g, 1, none⟩ = false := frozen_of_row w g 1 _ _ hg
  have f2 : w.frozen? ⟨g, 2, none⟩ = false := frozen_of_row w g 2 _ _ hg
  have hq := (ho.isB.turns (w' := w.setCell ⟨g, 2, none⟩ (.int .i64 0)) (Turns.setCell (fun i => i = g) w _ _ rfl) (fun a e => by
    have := row_ne hg ho (by decide)
    rw [ownBlock_slice, e] at this
    intro e2; exact this (by simp [blockOf, e2]))).str (P := Tryz.prog) 25 9 5 Tryz.underlying25 Tryz.underlying5 Tryz.underlying9
  generalize (⟨s.line.toArray⟩ : ByteArray) = bs at hq ⊢
  clear hg ho hc hf hn
  go_enter Tryz.func95, Tryz.ntmps95
  go_wp2_with fail
  refine HF.out.mono ?_
  rintro e w1 ⟨rfl, hw⟩
  subst hw
  go_wp2
  go_ret3
  exact ⟨rfl, keep_line HS3.out.1 _, HS.out.2.trans (HS2.out.2.trans HS3.out.2 (fun _ e _ => e)) (fun _ e _ => e)⟩

/-- a CR -/
theorem feed_cr (w : World) (S : Nat → Prop) (g : Nat) (s : Ln.St) (h : LineAt w S g s) (hc : s.code = 0) (hf : Ln.fault s 13 = 0) :
    Calls Tryz.prog 95 #[.pointer (some ⟨g, 0, none⟩), .int .u8 13] w fun e w' => e = .returned (Ln.fed s 13) ∧ LineAt w' (orNew S w) g (Ln.next s 13) ∧ Turns S w w' := by
  have hn : Ln.next s 13 = ⟨s.line, true, 0⟩ := by unfold Ln.next; rw [if_neg (by omega), hf, hc]; rfl
  rw [Ln.fed_of (t := []) (b := false) (by unfold Ln.text; rw [if_neg (fun e => by cases e.2.2)]) (by unfold Ln.ends; rw [decide_eq_false_iff_not]; exact fun e => by cases e.2.2) hn rfl, hn]
  have HF := Hid.mk' (faultLines_any w S g s 13 h)
  rw [hf] at HF
  have HS := Hid.mk' (h.code 0)
  have HS3 := Hid.mk' (HS.out.1.ends true)
  obtain ⟨ao, cap, hg, ho, _⟩ := h
  have c1 : w.cell? ⟨g, 1, none⟩ = some (.bool s.ending) := cell_of_row w g 1 _ _ _ hg
  have c2 : w.cell? ⟨g, 2, none⟩ = some (.int .i64 0) := by
    rw [cell_of_row w g 2 _ _ _ hg]; simp [hc]
  have f1 : w.frozen? ⟨g, 1, none⟩ = false := frozen_of_row w g 1 _ _ hg
  have f2 : w.frozen? ⟨g, 2, none⟩ = false := frozen_of_row w g 2 _ _ hg
  clear hg ho hc hf hn
  go_enter Tryz.func95, Tryz.ntmps95
  go_wp2_with fail
  refine HF.out.mono ?_
  rintro e w1 ⟨rfl, hw⟩
  subst hw
  go_wp2
  go_ret3
  exact ⟨rfl, keep_line HS3.out.1 _, HS.out.2.trans HS3.out.2 (fun _ e _ => e)⟩

set_option maxHeartbeats 800000 in
/-- a byte of a line -/
theorem feed_byte (w : World) (S : Nat → Prop) (g : Nat) (s : Ln.St) (c : UInt8) (h : LineAt w S g s) (hs : s.line.length ≤ 200) (hc : s.code = 0) (hf : Ln.fault s c = 0) (h10 : c ≠ 10) (h13 : c ≠ 13) :
    Calls Tryz.prog 95 #[.pointer (some ⟨g, 0, none⟩), .int .u8 c.toNat] w fun e w' => e = .returned (Ln.fed s c) ∧ LineAt w' (orNew S w) g (Ln.next s c) ∧ Turns S w w' := by
  have hn : Ln.next s c = ⟨s.line ++ [c], s.ending, 0⟩ := by unfold Ln.next; rw [if_neg (by omega), hf, if_neg (by omega), if_neg h10, if_neg h13, hc]
  rw [Ln.fed_of (t := []) (b := false) (by unfold Ln.text; rw [if_neg (fun e => h10 e.2.2)]) (by unfold Ln.ends; rw [decide_eq_false_iff_not]; exact fun e => h10 e.2.2) hn rfl, hn]
  have HF := Hid.mk' (faultLines_any w S g s c h)
  rw [hf] at HF
  have t10 : ((c.toNat : Int) == 10) = false := byte_ne' h10
  have t13 : ((c.toNat : Int) == 13) = false := byte_ne' h13
  have HS := Hid.mk' (h.code 0)
  obtain ⟨ao, cap, hg, ho, h1, h2⟩ := h
  obtain ⟨i0, hi0, hz0, hz1, hz2⟩ := info_parts info_u8
  have Hi := Hid.mk' hi0; have Hz0 := Hid.mk' hz0; have Hz1 := Hid.mk' hz1; have Hz2 := Hid.mk' hz2
  have hne : ∀ a, ao = some a → a.block ≠ g := fun a e e2 => by
    have := row_ne hg ho (by decide)
    rw [ownBlock_slice, e] at this
    exact this (by simp [blockOf, e2])
  have c0 : w.cell? ⟨g, 0, none⟩ = some (.slice ao s.line.length cap) := cell_of_row w g 0 _ _ _ hg
  have c2 : w.cell? ⟨g, 2, none⟩ = some (.int .i64 0) := by
    rw [cell_of_row w g 2 _ _ _ hg]; simp [hc]
  have f0 : w.frozen? ⟨g, 0, none⟩ = false := frozen_of_row w g 0 _ _ hg
  have f2 : w.frozen? ⟨g, 2, none⟩ = false := frozen_of_row w g 2 _ _ hg
  have HO := Hid.mk' (ho.turns (w' := w.setCell ⟨g, 2, none⟩ (.int .i64 0)) (Turns.setCell (fun i => i = g) w _ _ rfl) (fun a e => hne a e))
  have HG : Hid ((w.setCell ⟨g, 2, none⟩ (.int .i64 0)).heap[g]? = some (.cells #[.slice ao s.line.length cap, .bool s.ending, .int .i64 (0 : Int)] 116 (0, 0))) := by
    show _ = _
    rw [heap_setCell_same w g 2 _ _ _ hg]; rfl
  have hlt : g < w.heap.size := (Array.getElem?_eq_some_iff.1 hg).1
  clear hg ho hf hn hi0 hz0 hz1 hz2 h10 h13
  go_enter Tryz.func95, Tryz.ntmps95
  go_wp2_with fail
  refine HF.out.mono ?_
  rintro e w1 ⟨rfl, hw⟩
  subst hw
  have HN : some g ≠ blockOf ao := by
    cases ao with
    | none => simp [blockOf]
    | some a => intro e; injection e with e; exact hne a rfl e.symm
  go_wp2_with (at_builtin; refine wpList_append_at rfl (.tmp 23) (.tmp 25) 25 rfl 0 5 i0 Tryz.underlying25 Hi.out Hz0.out Hz1.out Hz2.out (l := s.line) (l2 := [c]) rfl rfl (HO.out.alloc _) rfl rfl (IsB.one_at _ _ _ _ (by simp)) (by simp; omega) (Nat.zero_le _) ?_; intro ao3 cap3 w3 hO3 hG3 hat3; have h3 := kept_row HG.out _ hG3 HN; have c3 : w3.cell? ⟨g, 0, none⟩ = some (.slice ao s.line.length cap) := cell_of_row w3 g 0 _ _ _ h3; have f3 : w3.frozen? ⟨g, 0, none⟩ = false := frozen_of_row w3 g 0 _ _ h3; have HO3 := Hid.mk' hO3; have HG3 := Hid.mk' hG3; have HA3 := Hid.mk' hat3; clear hO3 hG3 hat3 h3)
  go_ret3
  have hz : (w1.setCell ⟨g, 2, none⟩ (.int .i64 0)).heap.size = w1.heap.size := by simp
  have hT : Turns (fun k => S k ∧ k ≠ g) (w1.setCell ⟨g, 2, none⟩ (.int .i64 0)) w3 :=
    (Turns.of_grown (World.grownBy_alloc _ _ none) (fun k e => by cases e)).trans (Turns.of_grown HG3.out (S := fun k => S k ∧ k ≠ g) (fun k e => by
      cases ao with
      | none => cases e
      | some a => injection e with e; subst e; exact ⟨h2 a rfl, hne a rfl⟩)) (fun _ e _ => e)
  have hA : ∀ a, ao3 = some a → orNew S (w1.setCell ⟨g, 2, none⟩ (.int .i64 0)) a.block := by
    intro a e
    subst e
    rcases HA3.out with e | e
    · cases ao with
      | none => cases e
      | some a' => injection e with e; rw [e]; exact Or.inl (h2 a' rfl)
    · injection e with e; rw [e]; exact Or.inr (by simp)
  have hL := LineAt.grow (s := ⟨s.line, s.ending, 0⟩) HG.out h1 HO3.out hT hA (s.line.length + 1) (by simp)
  refine ⟨rfl, hL.1.mono (fun k _ e => ?_), HS.out.2.trans hL.2 (fun _ e _ => e)⟩
  rcases e with e | e
  · exact Or.inl e
  · exact Or.inr (by omega)
/-- one byte more -/
theorem feedLines_any (w : World) (S : Nat → Prop) (g : Nat) (s : Ln.St) (c : UInt8) (h : LineAt w S g s) (hs : s.line.length ≤ 200) :
    Calls Tryz.prog 95 #[.pointer (some ⟨g, 0, none⟩), .int .u8 c.toNat] w fun e w' => e = .returned (Ln.fed s c) ∧ LineAt w' (orNew S w) g (Ln.next s c) ∧ Turns S w w' := by
  by_cases hc : s.code = 0
  · by_cases hf : Ln.fault s c = 0
    · by_cases h10 : c = 10
      · subst h10; exact feed_end w S g s h hc hf
      · by_cases h13 : c = 13
        · subst h13; exact feed_cr w S g s h hc hf
        · exact feed_byte w S g s c h hs hc hf h10 h13
    · exact feed_code w S g s c _ h hc rfl hf
  · exact feed_again w S g s c h hc
end Go.Proofs.YtjpenioloeplgadGreatDoor

/- What a reader of forms told, as it lies in memory while a call gathers it. -/
namespace Go.Proofs.YtjpenioloeplgadGreatDoor
open Go.RowKit

/-- block g holds what was told, and bytes that wait; it and all its memory are among the blocks S -/
structure TdRow (w : World) (S : Nat → Prop) (g : Nat) (ao : Option Addr) (cap : Nat) (bo : Option Addr) (bc : Nat) (t : Fm.Td) : Prop where
  row : w.heap[g]? = some (.cells #[.slice ao t.es.length cap, .slice bo t.bs.length bc] 91 (0, 0))
  all : AllN w (fun k => (S k ∧ k ≠ g) ∧ blockOf bo ≠ some k) 54 ao cap t.es
  own : OwnB w 0 5 bo bc t.bs
  mem : ∀ a, bo = some a → S a.block ∧ a.block ≠ g
  me : S g
section
variable {w w' : World} {S S' : Nat → Prop} {g : Nat} {ao bo : Option Addr} {cap bc : Nat} {t : Fm.Td}
theorem TdRow.lt (h : TdRow w S g ao cap bo bc t) : g < w.heap.size := (Array.getElem?_eq_some_iff.1 h.row).1
theorem TdRow.c0 (h : TdRow w S g ao cap bo bc t) : w.cell? ⟨g, 0, none⟩ = some (.slice ao t.es.length cap) := cell_of_row w g 0 _ _ _ h.row
theorem TdRow.c1 (h : TdRow w S g ao cap bo bc t) : w.cell? ⟨g, 1, none⟩ = some (.slice bo t.bs.length bc) := cell_of_row w g 1 _ _ _ h.row
theorem TdRow.fz (h : TdRow w S g ao cap bo bc t) (j : Nat) : w.frozen? ⟨g, j, none⟩ = false := frozen_of_row w g j _ _ h.row
theorem TdRow.turns (h : TdRow w S g ao cap bo bc t) (ht : Turns S' w w') (hs : ∀ k, S k → ¬ S' k) : TdRow w' S g ao cap bo bc t :=
  ⟨ht.row h.row (hs g h.me), h.all.turns ht (fun k e => hs k e.1.1), h.own.turns ht (fun a e => hs _ (h.mem a e).1), h.mem, h.me⟩
theorem TdRow.mono (h : TdRow w S g ao cap bo bc t) (hs : ∀ k, k < w.heap.size → S k → S' k) : TdRow w S' g ao cap bo bc t :=
  ⟨h.row, h.all.mono (fun k hk e => ⟨⟨hs k hk e.1.1, e.1.2⟩, e.2⟩), h.own, fun a e => ⟨hs _ (h.own.block a e).2 (h.mem a e).1, (h.mem a e).2⟩, hs g h.lt h.me⟩
theorem TdRow.stay (h : TdRow w S g ao cap bo bc t) (hb : Below w.heap.size w w') : TdRow w' S g ao cap bo bc t := h.turns (Turns.of_below (S := fun _ => False) hb) (fun _ _ e => e)
end
theorem TdRow.made (w : World) : TdRow (w.alloc (.cells #[.slice none 0 0, .slice none 0 0] 91)) (fun k => w.heap.size ≤ k) w.heap.size none 0 none 0 Fm.td0 :=
  ⟨heap_alloc_new w _, AllN.nil _ _ _, OwnB.nil _ _ _, fun a e => (by cases e), Nat.le_refl _⟩
/-- somewhere -/
def TdAt (w : World) (S : Nat → Prop) (g : Nat) (t : Fm.Td) : Prop := ∃ ao cap bo bc, TdRow w S g ao cap bo bc t
section
variable {w w' : World} {S S' : Nat → Prop} {g : Nat} {t : Fm.Td}
theorem TdAt.lt (h : TdAt w S g t) : g < w.heap.size := by obtain ⟨_, _, _, _, h⟩ := h; exact h.lt
theorem TdAt.turns (h : TdAt w S g t) (ht : Turns S' w w') (hs : ∀ k, S k → ¬ S' k) : TdAt w' S g t := by obtain ⟨a, b, c, d, h⟩ := h; exact ⟨a, b, c, d, h.turns ht hs⟩
theorem TdAt.mono (h : TdAt w S g t) (hs : ∀ k, k < w.heap.size → S k → S' k) : TdAt w S' g t := by obtain ⟨a, b, c, d, h⟩ := h; exact ⟨a, b, c, d, h.mono hs⟩
theorem TdAt.stay (h : TdAt w S g t) (hb : Below w.heap.size w w') : TdAt w' S g t := by obtain ⟨a, b, c, d, h⟩ := h; exact ⟨a, b, c, d, h.stay hb⟩
end
/-- one event more, its cells in a block just made -/
theorem AllN.push {W : World} {S : Nat → Prop} {tE : Nat} {ao : Option Addr} {cap : Nat} {es : List EvD} (h : AllN W S tE ao cap es) (ob : Obj) : ∃ ps : List (EvD × EvS), OwnV (W.alloc ob) 0 tE 12 ao cap es.length (rowsV ps) ∧
    ∀ ao' cap' w' (e : EvD) s (N : Nat → Prop) ys, e.cells s = ys → InE W N e s → s.po = none ∧ s.pcap = 0 → (∀ k, S k → ¬ N k) → OwnV w' 0 tE 12 ao' cap' (es.length + 1) (rowsV ps ++ ys) → (W.alloc ob).grownBy w' (blockOf ao) → (blockOf ao' = blockOf ao ∨ blockOf ao' = some (W.alloc ob).heap.size) → AllN w' (fun k => S k ∨ N k ∨ W.heap.size ≤ k) tE ao' cap' (es ++ [e]) ∧ Turns S W w' := by
  obtain ⟨ps, hes, hO, hm, hI, hX⟩ := h
  have hb : Below W.heap.size W (W.alloc ob) := (Below.refl _ _).alloc (Nat.le_refl _) _
  have ht := Turns.of_below (S := fun _ => False) hb
  refine ⟨ps, hO.stay hb, fun ao' cap' w' e s N ys hy hE hpn hN hO' hG hat => ?_⟩
  subst hy
  have e1 : rowsV [(e, s)] = e.cells s := by simp [rowsV]
  rw [← e1] at hO'
  have := AllN.more (N := N) hm (fun p hp => (hI p hp).turns ht (fun _ _ e => e)) (ps2 := [(e, s)]) (fun p hp => by rw [List.mem_singleton.1 hp]; exact hE.turns ht (fun _ _ e => e)) hN hO' (by rw [← hes, List.length_map]; rfl) hG hat hX (fun p hp => by rw [List.mem_singleton.1 hp]; exact hpn)
  refine ⟨?_, ?_⟩
  · rw [hes] at this
    refine this.mono (fun k hk e => ?_)
    rcases e with e | e | e
    · exact Or.inl e
    · exact Or.inr (Or.inl e)
    · rw [World.size_alloc] at e; exact Or.inr (Or.inr (by omega))
  · refine (Turns.of_below (S := S) hb).trans (Turns.of_grown (S := S) hG (fun k e => ?_)) (fun _ e _ => e)
    cases ao with
    | none => cases e
    | some a => injection e with e; subst e; exact hm a rfl
theorem one_cellsE (e : EvD) (s : EvS) (ys : List Value) (h : e.cells s = ys) : ∀ u ∈ ys, u.oneCell' = true := by subst h; exact cells_one e s
end Go.Proofs.YtjpenioloeplgadGreatDoor

/- Package params, walked: a reader as it lies in memory; more, skip, need. -/
namespace Go.Proofs.YtjpenioloeplgadGreatDoor
open Go.RowKit

/-- a reader at block g: its text, and where it stands -/
def RdAt (w : World) (g : Nat) (s : ByteArray) (i : Nat) : Prop := w.heap[g]? = some (.cells #[.string s, .int .i64 (i : Int)] 124 (0, 0))
/-- that block alone -/
def only (g : Nat) : Nat → Prop := fun k => k = g
/-- a reader gave up -/
def gave (c : Nat) : Ending := .panicked [{ v := .iface 149 (.int .i64 (c : Int)), recovered := false }]
section
variable {w w' : World} {g : Nat} {s : ByteArray} {i : Nat}
theorem RdAt.lt (h : RdAt w g s i) : g < w.heap.size := (Array.getElem?_eq_some_iff.1 h).1
theorem RdAt.keep (h : RdAt w g s i) (hb : Below w.heap.size w w') : RdAt w' g s i := (hb.block g h.lt).trans h
theorem RdAt.drewN (h : RdAt w g s i) (n : Nat) : RdAt (w.drewN n) g s i := h
theorem RdAt.turns {S : Nat → Prop} (h : RdAt w g s i) (ht : Turns S w w') (hn : ¬ S g) : RdAt w' g s i := ht.row h hn
theorem RdAt.cells (h : RdAt w g s i) : w.cell? ⟨g, 0, none⟩ = some (.string s) ∧ w.cell? ⟨g, 1, none⟩ = some (.int .i64 (i : Int)) ∧ w.frozen? ⟨g, 1, none⟩ = false :=
  ⟨cell_of_row w _ 0 _ _ _ h, cell_of_row w _ 1 _ _ _ h, frozen_of_row w _ 1 _ _ h⟩
theorem RdAt.go (h : RdAt w g s i) (j : Nat) (x : Int) (hx : x = j) : RdAt (w.setCell ⟨g, 1, none⟩ (.int .i64 x)) g s j := by
  subst hx
  unfold RdAt at h ⊢
  rw [heap_setCell_same w g 1 _ _ _ h]; rfl
end
/-- what a call that goes on may turn -/
theorem Turns.go {w : World} {g : Nat} (n : Nat) (v : Value) : Turns (only g) w ((w.drewN n).setCell ⟨g, 1, none⟩ v) :=
  (Turns.drewN _ w n).trans (Turns.setCell (only g) _ _ _ rfl) (fun _ h _ => h)

theorem more_any (s : ByteArray) (i g : Nat) (w : World) (h : RdAt w g s i) :
    Calls Tryz.prog 109 #[.pointer (some ⟨g, 0, none⟩)] w fun e w' => e = .returned (.bool (decide (i < s.size))) ∧ ∃ n, w' = w.drewN n := by
  obtain ⟨c0, c1, f1⟩ := h.cells
  clear h
  go_enter Tryz.func109, Tryz.ntmps109
  go_wp2
  go_quiet (fail)
  go_wp2
  go_ret
  exact ⟨rfl, nq, rfl⟩

set_option maxHeartbeats 800000 in
theorem skip_yes (s : ByteArray) (i g : Nat) (c : UInt8) (w : World) (h : RdAt w g s i) (hs : s.size ≤ 1000000) (hc : s.data.toList[i]? = some c) :
    Calls Tryz.prog 131 #[.pointer (some ⟨g, 0, none⟩), .int .u8 (c.toNat : Int)] w fun e w' => e = .returned (.bool true) ∧ RdAt w' g s (i + 1) ∧ Turns (only g) w w' := by
  have hl : s.data.toList.length = s.size := by rw [Array.length_toList]; rfl
  have HM := Hid.mk' (fun q => more_any s i g (w.drewN q) (h.drewN q))
  have H := Hid.mk' h
  obtain ⟨c0, c1, f1⟩ := h.cells
  clear h
  have hlt : i < s.size := by
    have := (List.getElem?_eq_some_iff.1 hc).1
    rwa [hl] at this
  have t1 : decide (i < s.size) = true := by rw [decide_eq_true_eq]; omega
  have hlt' : (i : Int) < s.size := by omega
  have he : s[i] = c := by
    rw [List.getElem?_eq_getElem (by rw [hl]; exact hlt)] at hc
    injection hc with hc
  rw [t1] at HM
  have t2 : ((s[i].toNat : Int) != c.toNat) = false := byte_eq he
  clear hl he hc
  go_enter Tryz.func131, Tryz.ntmps131
  go_wp2
  go_quiet ((go_at_call 109; exact Calls.quiet_of (HM.out _)))
  go_wp2
  go_ret
  exact ⟨rfl, (H.out.drewN nq).go (i + 1) _ (by omega), Turns.go _ _⟩
set_option maxHeartbeats 800000 in
theorem skip_no (s : ByteArray) (i g : Nat) (c : UInt8) (w : World) (h : RdAt w g s i) (hc : ¬ s.data.toList[i]? = some c) :
    Calls Tryz.prog 131 #[.pointer (some ⟨g, 0, none⟩), .int .u8 (c.toNat : Int)] w fun e w' => e = .returned (.bool false) ∧ RdAt w' g s i ∧ Turns (only g) w w' := by
  have hl : s.data.toList.length = s.size := by rw [Array.length_toList]; rfl
  have HM := Hid.mk' (fun q => more_any s i g (w.drewN q) (h.drewN q))
  have H := Hid.mk' h
  obtain ⟨c0, c1, f1⟩ := h.cells
  clear h
  by_cases hlt : i < s.size
  · have t1 : decide (i < s.size) = true := by rw [decide_eq_true_eq]; omega
    have hlt' : (i : Int) < s.size := by omega
    have he : s[i] ≠ c := by
      intro e
      refine hc ?_
      rw [List.getElem?_eq_getElem (by rw [hl]; exact hlt), ← e]; simp [ByteArray.getElem_eq_getElem_data]
    rw [t1] at HM
    have t2 : ((s[i].toNat : Int) != c.toNat) = true := byte_ne he
    clear hl he hc
    go_enter Tryz.func131, Tryz.ntmps131
    go_wp2
    go_quiet ((go_at_call 109; exact Calls.quiet_of (HM.out _)))
    go_wp2
    go_ret
    exact ⟨rfl, H.out.drewN nq, Turns.drewN _ _ _⟩
  · have t1 : decide (i < s.size) = false := by rw [decide_eq_false_iff_not]; omega
    rw [t1] at HM
    clear hl hc
    go_enter Tryz.func131, Tryz.ntmps131
    go_wp2
    go_quiet ((go_at_call 109; exact Calls.quiet_of (HM.out _)))
    go_wp2
    go_ret
    exact ⟨rfl, H.out.drewN nq, Turns.drewN _ _ _⟩

theorem need_yes (s : ByteArray) (i g : Nat) (c : UInt8) (w : World) (h : RdAt w g s i) (hs : s.size ≤ 1000000) (hc : s.data.toList[i]? = some c) :
    Calls Tryz.prog 110 #[.pointer (some ⟨g, 0, none⟩), .int .u8 (c.toNat : Int)] w fun e w' => e = .returned (.tuple #[]) ∧ RdAt w' g s (i + 1) ∧ Turns (only g) w w' := by
  have HS := Hid.mk' (skip_yes s i g c w h hs hc)
  clear hc
  go_enter Tryz.func110, Tryz.ntmps110
  go_wp2_with fail
  refine HS.out.mono ?_
  rintro e w1 ⟨rfl, h1, h2⟩
  go_wp2
  go_end0
  exact ⟨rfl, h1, h2⟩
theorem need_no (s : ByteArray) (i g : Nat) (c : UInt8) (w : World) (h : RdAt w g s i) (hc : ¬ s.data.toList[i]? = some c) :
    Calls Tryz.prog 110 #[.pointer (some ⟨g, 0, none⟩), .int .u8 (c.toNat : Int)] w fun e w' => e = gave 5 ∧ Turns (only g) w w' := by
  have HS := Hid.mk' (skip_no s i g c w h hc)
  clear hc
  go_enter Tryz.func110, Tryz.ntmps110
  go_wp2_with fail
  refine HS.out.mono ?_
  rintro e w1 ⟨rfl, h1, h2⟩
  go_wp2
  exact ⟨rfl, rfl, h2⟩
end Go.Proofs.YtjpenioloeplgadGreatDoor

/- Package params, walked: a reader's run, token, blanks, inner. -/
namespace Go.Proofs.YtjpenioloeplgadGreatDoor
open Go.RowKit

/-- where a reader stands, for a loop's measure -/
def atOf (w : World) (g : Nat) : Nat := match w.cell? ⟨g, 1, none⟩ with
  | some (.int _ x) => x.toNat
  | _ => 0
theorem RdAt.atOf {w : World} {g : Nat} {s : ByteArray} {i : Nat} (h : RdAt w g s i) : atOf w g = i := by
  unfold Go.Proofs.YtjpenioloeplgadGreatDoor.atOf; rw [h.cells.2.1]; simp
theorem text_at (s : ByteArray) (k : Nat) (h : k < s.size) : s.data.toList[k]'(by rw [Array.length_toList]; exact h) = s[k] := by simp [ByteArray.getElem_eq_getElem_data]
theorem byte_tok (c : UInt8) : Ch.token (c.toNat : Int) = Pm.tok c := rfl

theorem blank_any (c : UInt8) (w : World) :
    Calls Tryz.prog 129 #[.int .u8 (c.toNat : Int)] w fun e w' => e = .returned (.bool (Pm.blank c)) ∧ w' = w := by
  by_cases h32 : c = 32
  · subst h32
    go_enter Tryz.func129, Tryz.ntmps129
    go_wp2
    go_ret
    exact ⟨rfl, rfl⟩
  · have b1 : ((c.toNat : Int) == 32) = false := byte_ne' h32
    by_cases h9 : c = 9
    · subst h9
      go_enter Tryz.func129, Tryz.ntmps129
      go_wp2
      go_ret
      exact ⟨rfl, rfl⟩
    · have b2 : ((c.toNat : Int) == 9) = false := byte_ne' h9
      have HB : Hid (Pm.blank c = false) := by unfold Hid Pm.blank; rw [beq_eq_false_iff_ne.2 h32, beq_eq_false_iff_ne.2 h9]; rfl
      clear h32 h9
      go_enter Tryz.func129, Tryz.ntmps129
      go_wp2
      go_ret
      exact ⟨ret_bool (by rw [HB.out]), rfl⟩

set_option maxHeartbeats 1600000 in
theorem run_tok (s : ByteArray) (i g : Nat) (w : World) (h : RdAt w g s i) (hs : s.size ≤ 1000000) (hi : i ≤ s.size) :
    Calls Tryz.prog 128 #[.pointer (some ⟨g, 0, none⟩), .func (.func 120) #[] #[]] w fun e w' =>
      e = .returned (.string (s.extract i (i + Pm.word s.data.toList i))) ∧ RdAt w' g s (i + Pm.word s.data.toList i) ∧ Turns (only g) w w' := by
  have hl : s.data.toList.length = s.size := by rw [Array.length_toList]; rfl
  have HL := Hid.mk' hl
  have H := Hid.mk' h
  obtain ⟨c0, c1, f1⟩ := h.cells
  clear h hl
  go_enter Tryz.func128, Tryz.ntmps128
  go_wp2
  go_loopw [] (fun wr => ∃ k : Nat, i ≤ k ∧ k ≤ s.size ∧ RdAt wr g s k ∧ Turns (only g) w wr ∧ i + Pm.word s.data.toList i = k + Pm.word s.data.toList k) (fun wr => s.size - atOf wr g)
  case atStart => exact ⟨i, Nat.le_refl _, hi, H.out, Turns.refl _ _, rfl⟩
  case round =>
    clear H c0 c1 f1
    obtain ⟨k, hik, hk, h, ht, hw⟩ := hrel
    have HM := Hid.mk' (fun q => more_any s k g (wr.drewN q) (h.drewN q))
    have H := Hid.mk' h
    have HT := Hid.mk' ht
    have HW := Hid.mk' hw
    obtain ⟨c0, c1, f1⟩ := h.cells
    have HA := Hid.mk' h.atOf
    clear h ht hw
    by_cases hlt : k < s.size
    · have t1 : decide (k < s.size) = true := by rw [decide_eq_true_eq]; omega
      have hlt' : (k : Int) < s.size := by omega
      have HLL : Hid (k < s.data.toList.length) := by unfold Hid; rw [HL.out]; exact hlt
      have hat := text_at s k hlt
      rw [t1] at HM
      cases htk : Pm.tok s[k]
      · have HR : Hid (i + Pm.word s.data.toList i = k) := by
          unfold Hid; rw [HW.out]; unfold Pm.word; rw [Pm.run_stop HLL.out (by rw [hat]; exact htk)]; rfl
        have HK := Hid.mk' (fun W => token_any (s[k].toNat : Int) W)
        rw [byte_tok, htk] at HK
        clear hat htk HW
        have e1 : (i : Int) ≤ k := by omega
        have e2 : (k : Int) ≤ s.size := by omega
        go_wp2
        go_quiet ((first | (go_at_call 109; exact Calls.quiet_of (HM.out _)) | (go_at_call 120; exact Calls.quiet_of_same (HK.out _))))
        go_wp2
        go_quiet (fail)
        go_wp2
        go_ret
        exact ⟨ret_str (by rw [HR.out]), by rw [HR.out]; exact H.out, (HT.out.trans (Turns.drewN (only g) _ _) (fun _ h _ => h)).trans (Turns.drewN (only g) _ _) (fun _ h _ => h)⟩
      · have HR : Hid (i + Pm.word s.data.toList i = (k + 1) + Pm.word s.data.toList (k + 1)) := by
          unfold Hid; rw [HW.out]; unfold Pm.word; rw [Pm.run_step HLL.out (by rw [hat]; exact htk)]; omega
        have HK := Hid.mk' (fun W => token_any (s[k].toNat : Int) W)
        rw [byte_tok, htk] at HK
        clear hat htk HW
        go_wp2
        go_quiet ((first | (go_at_call 109; exact Calls.quiet_of (HM.out _)) | (go_at_call 120; exact Calls.quiet_of_same (HK.out _))))
        go_wp2
        have HN := Hid.mk' ((H.out.drewN nq).go (k + 1) ((k : Int) + 1) (by omega))
        go_roundw
        case rel => exact ⟨k + 1, by omega, by omega, HN.out, HT.out.trans (Turns.go _ _) (fun _ h _ => h), HR.out⟩
        case measure => rw [HN.out.atOf, HA.out]; omega
    · obtain rfl : k = s.size := by omega
      have t1 : decide (s.size < s.size) = false := by rw [decide_eq_false_iff_not]; omega
      have HR : Hid (i + Pm.word s.data.toList i = s.size) := by
        unfold Hid; rw [HW.out]; unfold Pm.word; rw [Pm.run_end _ (by rw [HL.out]; exact Nat.le_refl _)]; rfl
      rw [t1] at HM
      clear HW
      have e1 : (i : Int) ≤ s.size := by omega
      go_wp2
      go_quiet ((go_at_call 109; exact Calls.quiet_of (HM.out _)))
      go_wp2
      go_quiet (fail)
      go_wp2
      go_ret
      exact ⟨ret_str (by rw [HR.out]), by rw [HR.out]; exact H.out, (HT.out.trans (Turns.drewN (only g) _ _) (fun _ h _ => h)).trans (Turns.drewN (only g) _ _) (fun _ h _ => h)⟩
set_option maxHeartbeats 1600000 in
theorem run_blank (s : ByteArray) (i g : Nat) (w : World) (h : RdAt w g s i) (hs : s.size ≤ 1000000) (hi : i ≤ s.size) :
    Calls Tryz.prog 128 #[.pointer (some ⟨g, 0, none⟩), .func (.func 129) #[] #[]] w fun e w' =>
      e = .returned (.string (s.extract i (i + Pm.run Pm.blank s.data.toList i))) ∧ RdAt w' g s (i + Pm.run Pm.blank s.data.toList i) ∧ Turns (only g) w w' := by
  have hl : s.data.toList.length = s.size := by rw [Array.length_toList]; rfl
  have HL := Hid.mk' hl
  have H := Hid.mk' h
  obtain ⟨c0, c1, f1⟩ := h.cells
  clear h hl
  go_enter Tryz.func128, Tryz.ntmps128
  go_wp2
  go_loopw [] (fun wr => ∃ k : Nat, i ≤ k ∧ k ≤ s.size ∧ RdAt wr g s k ∧ Turns (only g) w wr ∧ i + Pm.run Pm.blank s.data.toList i = k + Pm.run Pm.blank s.data.toList k) (fun wr => s.size - atOf wr g)
  case atStart => exact ⟨i, Nat.le_refl _, hi, H.out, Turns.refl _ _, rfl⟩
  case round =>
    clear H c0 c1 f1
    obtain ⟨k, hik, hk, h, ht, hw⟩ := hrel
    have HM := Hid.mk' (fun q => more_any s k g (wr.drewN q) (h.drewN q))
    have H := Hid.mk' h
    have HT := Hid.mk' ht
    have HW := Hid.mk' hw
    obtain ⟨c0, c1, f1⟩ := h.cells
    have HA := Hid.mk' h.atOf
    clear h ht hw
    by_cases hlt : k < s.size
    · have t1 : decide (k < s.size) = true := by rw [decide_eq_true_eq]; omega
      have hlt' : (k : Int) < s.size := by omega
      have HLL : Hid (k < s.data.toList.length) := by unfold Hid; rw [HL.out]; exact hlt
      have hat := text_at s k hlt
      rw [t1] at HM
      cases htk : Pm.blank s[k]
      · have HR : Hid (i + Pm.run Pm.blank s.data.toList i = k) := by
          unfold Hid; rw [HW.out]; rw [Pm.run_stop HLL.out (by rw [hat]; exact htk)]; rfl
        have HK := Hid.mk' (fun W => blank_any s[k] W)
        rw [htk] at HK
        clear hat htk HW
        have e1 : (i : Int) ≤ k := by omega
        have e2 : (k : Int) ≤ s.size := by omega
        go_wp2
        go_quiet ((first | (go_at_call 109; exact Calls.quiet_of (HM.out _)) | (go_at_call 129; exact Calls.quiet_of_same (HK.out _))))
        go_wp2
        go_quiet (fail)
        go_wp2
        go_ret
        exact ⟨ret_str (by rw [HR.out]), by rw [HR.out]; exact H.out, (HT.out.trans (Turns.drewN (only g) _ _) (fun _ h _ => h)).trans (Turns.drewN (only g) _ _) (fun _ h _ => h)⟩
      · have HR : Hid (i + Pm.run Pm.blank s.data.toList i = (k + 1) + Pm.run Pm.blank s.data.toList (k + 1)) := by
          unfold Hid; rw [HW.out]; rw [Pm.run_step HLL.out (by rw [hat]; exact htk)]; omega
        have HK := Hid.mk' (fun W => blank_any s[k] W)
        rw [htk] at HK
        clear hat htk HW
        go_wp2
        go_quiet ((first | (go_at_call 109; exact Calls.quiet_of (HM.out _)) | (go_at_call 129; exact Calls.quiet_of_same (HK.out _))))
        go_wp2
        have HN := Hid.mk' ((H.out.drewN nq).go (k + 1) ((k : Int) + 1) (by omega))
        go_roundw
        case rel => exact ⟨k + 1, by omega, by omega, HN.out, HT.out.trans (Turns.go _ _) (fun _ h _ => h), HR.out⟩
        case measure => rw [HN.out.atOf, HA.out]; omega
    · obtain rfl : k = s.size := by omega
      have t1 : decide (s.size < s.size) = false := by rw [decide_eq_false_iff_not]; omega
      have HR : Hid (i + Pm.run Pm.blank s.data.toList i = s.size) := by
        unfold Hid; rw [HW.out]; rw [Pm.run_end _ (by rw [HL.out]; exact Nat.le_refl _)]; rfl
      rw [t1] at HM
      clear HW
      have e1 : (i : Int) ≤ s.size := by omega
      go_wp2
      go_quiet ((go_at_call 109; exact Calls.quiet_of (HM.out _)))
      go_wp2
      go_quiet (fail)
      go_wp2
      go_ret
      exact ⟨ret_str (by rw [HR.out]), by rw [HR.out]; exact H.out, (HT.out.trans (Turns.drewN (only g) _ _) (fun _ h _ => h)).trans (Turns.drewN (only g) _ _) (fun _ h _ => h)⟩

theorem blanksR_any (s : ByteArray) (i g : Nat) (w : World) (h : RdAt w g s i) (hs : s.size ≤ 1000000) (hi : i ≤ s.size) :
    Calls Tryz.prog 107 #[.pointer (some ⟨g, 0, none⟩)] w fun e w' => e = .returned (.tuple #[]) ∧ RdAt w' g s (Pm.blanks s.data.toList i) ∧ Turns (only g) w w' := by
  have HR := Hid.mk' (run_blank s i g w h hs hi)
  go_enter Tryz.func107, Tryz.ntmps107
  go_wp2_with fail
  refine HR.out.mono ?_
  rintro e w1 ⟨rfl, h1, h2⟩
  go_wp2
  go_end0
  exact ⟨rfl, h1, h2⟩
theorem token_yes (s : ByteArray) (i g : Nat) (w : World) (h : RdAt w g s i) (hs : s.size ≤ 1000000) (hi : i ≤ s.size) (hn : Pm.word s.data.toList i ≠ 0) :
    Calls Tryz.prog 130 #[.pointer (some ⟨g, 0, none⟩)] w fun e w' => e = .returned (.string (s.extract i (i + Pm.word s.data.toList i))) ∧ RdAt w' g s (i + Pm.word s.data.toList i) ∧ Turns (only g) w w' := by
  have HR := Hid.mk' (run_tok s i g w h hs hi)
  have hw := Pm.word_le s.data.toList i (by rw [Array.length_toList]; exact hi)
  rw [Array.length_toList] at hw
  have hw' : i + Pm.word s.data.toList i ≤ s.size := hw
  have hne := Ch.isEmpty_false (s.extract i (i + Pm.word s.data.toList i)) (by simp; omega)
  have hne2 : ((s.extract i (i + Pm.word s.data.toList i)).toList == []) = false := by
    cases hx : (s.extract i (i + Pm.word s.data.toList i)).toList with
    | nil => rw [hx] at hne; cases hne
    | cons _ _ => rfl
  clear hw hw' hn
  generalize Pm.word s.data.toList i = n at *
  generalize s.extract i (i + n) = x at *
  go_enter Tryz.func130, Tryz.ntmps130
  go_wp2_with fail
  refine HR.out.mono ?_
  rintro e w1 ⟨rfl, h1, h2⟩
  go_wp2
  go_ret
  exact ⟨rfl, h1, h2⟩
theorem token_no (s : ByteArray) (i g : Nat) (w : World) (h : RdAt w g s i) (hs : s.size ≤ 1000000) (hi : i ≤ s.size) (hn : Pm.word s.data.toList i = 0) :
    Calls Tryz.prog 130 #[.pointer (some ⟨g, 0, none⟩)] w fun e w' => e = gave 5 ∧ Turns (only g) w w' := by
  have HR := Hid.mk' (run_tok s i g w h hs hi)
  have hx : s.extract i (i + Pm.word s.data.toList i) = ⟨#[]⟩ := Ch.empty_eq _ (by rw [hn]; simp)
  rw [hx] at HR
  clear hx hn
  go_enter Tryz.func130, Tryz.ntmps130
  go_wp2_with fail
  refine HR.out.mono ?_
  rintro e w1 ⟨rfl, h1, h2⟩
  go_wp2
  exact ⟨rfl, rfl, h2⟩
set_option maxHeartbeats 800000 in
theorem inner_yes (s : ByteArray) (i g : Nat) (w : World) (h : RdAt w g s i) (hs : s.size ≤ 1000000) (hi : i < s.size) :
    Calls Tryz.prog 146 #[.pointer (some ⟨g, 0, none⟩)] w fun e w' => e = .returned (.int .u8 (s[i].toNat : Int)) ∧ RdAt w' g s (i + 1) ∧ Turns (only g) w w' := by
  have HM := Hid.mk' (more_any s i g w h)
  have t1 : decide (i < s.size) = true := by rw [decide_eq_true_eq]; omega
  rw [t1] at HM
  have H := Hid.mk' h
  clear h t1
  go_enter Tryz.func146, Tryz.ntmps146
  go_wp2_with fail
  refine HM.out.mono ?_
  rintro e w1 ⟨rfl, n, hw⟩
  have H1 : Hid (RdAt w1 g s i) := by rw [hw]; exact H.out.drewN n
  have T1 : Hid (Turns (only g) w w1) := by rw [hw]; exact Turns.drewN _ _ _
  clear hw H HM
  obtain ⟨c0, c1, f1⟩ := H1.out.cells
  have H2 := Hid.mk' (H1.out.go (i + 1) ((i : Int) + 1) (by omega))
  have T2 : Hid (Turns (only g) w (w1.setCell ⟨g, 1, none⟩ (.int .i64 ((i : Int) + 1)))) := T1.out.trans (Turns.setCell (only g) _ _ _ rfl) (fun _ h _ => h)
  have d0 : (w1.setCell ⟨g, 1, none⟩ (.int .i64 ((i : Int) + 1))).cell? ⟨g, 0, none⟩ = some (.string s) := H2.out.cells.1
  have e1 : (i : Int) + 1 - 1 = i := by omega
  have e2 : (i : Int) < s.size := by omega
  go_wp2
  go_quiet (fail)
  go_wp2
  go_ret
  exact ⟨rfl, H2.out.drewN nq, T2.out.trans (Turns.drewN (only g) _ _) (fun _ h _ => h)⟩
theorem inner_no (s : ByteArray) (i g : Nat) (w : World) (h : RdAt w g s i) (hi : ¬ i < s.size) :
    Calls Tryz.prog 146 #[.pointer (some ⟨g, 0, none⟩)] w fun e w' => e = gave 14 ∧ Turns (only g) w w' := by
  have HM := Hid.mk' (more_any s i g w h)
  have t1 : decide (i < s.size) = false := by rw [decide_eq_false_iff_not]; omega
  rw [t1] at HM
  clear h t1 hi
  go_enter Tryz.func146, Tryz.ntmps146
  go_wp2_with fail
  refine HM.out.mono ?_
  rintro e w1 ⟨rfl, n, hw⟩
  have T1 : Hid (Turns (only g) w w1) := by rw [hw]; exact Turns.drewN _ _ _
  clear hw
  go_wp2
  exact ⟨rfl, rfl, T1.out⟩
end Go.Proofs.YtjpenioloeplgadGreatDoor

/- Package params, walked: a reader's quoted. -/
namespace Go.Proofs.YtjpenioloeplgadGreatDoor
open Go.RowKit

/-- what a quoted text is told by -/
def QuoOut (m : Option (List UInt8 × List UInt8)) (w : World) (g : Nat) (s : ByteArray) (e : Ending) (w' : World) : Prop :=
  Turns (only g) w w' ∧ match m with
    | none => e = gave 14
    | some x => e = .returned (.string ⟨x.1.toArray⟩) ∧ ∃ j, j ≤ s.size ∧ RdAt w' g s j ∧ s.data.toList.drop j = x.2
theorem QuoOut.no {m : Option (List UInt8 × List UInt8)} {w : World} {g : Nat} {s : ByteArray} {w' : World} (hm : m = none) (ht : Turns (only g) w w') : QuoOut m w g s (gave 14) w' := by
  subst hm; exact ⟨ht, rfl⟩
theorem QuoOut.yes {m : Option (List UInt8 × List UInt8)} {w : World} {g : Nat} {s : ByteArray} {v r : List UInt8} {e : Ending} {w' : World} {j : Nat} (hm : m = some (v, r)) (he : e = .returned (.string ⟨v.toArray⟩)) (hj : j ≤ s.size) (hr : RdAt w' g s j) (hd : s.data.toList.drop j = r) (ht : Turns (only g) w w') : QuoOut m w g s e w' := by
  subst hm; exact ⟨ht, he, j, hj, hr, hd⟩
/-- a reader, and bytes that are gathered beside it -/
structure QuoAt (w : World) (g : Nat) (s : ByteArray) (k : Nat) (acc : List UInt8) (ao : Option Addr) (cap : Nat) (wr : World) : Prop where
  rd : RdAt wr g s k
  own : OwnB wr w.heap.size 5 ao cap acc
  turns : Turns (only g) w wr
  lt : g < w.heap.size
section
variable {w wr w1 w3 : World} {g k k' : Nat} {s : ByteArray} {acc acc' : List UInt8} {ao ao' : Option Addr} {cap cap' : Nat}
theorem QuoAt.feed (h : QuoAt w g s k acc ao cap wr) (h1 : RdAt w1 g s k') (h2 : Turns (only g) wr w1) : QuoAt w g s k' acc ao cap w1 :=
  ⟨h1, h.own.turns h2 (fun a e e2 => by have := (h.own.block a e).1; have := h.lt; unfold only at e2; omega), h.turns.trans h2 (fun _ h _ => h), h.lt⟩
theorem QuoAt.push (h : QuoAt w g s k acc ao cap wr) (ob : Obj) (hO : OwnB w3 w.heap.size 5 ao' cap' acc') (hG : (wr.alloc ob).grownBy w3 (blockOf ao)) : QuoAt w g s k acc' ao' cap' w3 := by
  have hS : ∀ i, blockOf ao = some i → w.heap.size ≤ i := by
    intro i e
    cases ao with
    | none => simp [blockOf] at e
    | some a => simp only [blockOf, Option.some.injEq] at e; have := (h.own.block a rfl).1; omega
  have hT : Turns (fun i => w.heap.size ≤ i) wr w3 := (Turns.of_grown (World.grownBy_alloc wr ob none) (fun k e => by cases e)).trans (Turns.of_grown hG hS) (fun _ h _ => h)
  exact ⟨h.rd.turns hT (by have := h.lt; omega), hO, h.turns.trans hT (fun i hi hlt => by omega), h.lt⟩
end
theorem IsB.one_at' (W : World) (c : UInt8) (t : Nat) (fr : Nat × Nat) {k : Nat} (hk : W.heap.size = k) : IsB (W.alloc (.cells #[.int .u8 (c.toNat : Int)] t fr)) (Option.some ⟨k, 0, Option.none⟩) 1 [c] := hk ▸ IsB.one W c t fr

set_option maxHeartbeats 1600000 in
theorem quoted_any (s : ByteArray) (i g : Nat) (w : World) (h : RdAt w g s i) (hs : s.size ≤ 1000000) (hi : i ≤ s.size) :
    Calls Tryz.prog 132 #[.pointer (some ⟨g, 0, none⟩)] w fun e w' => QuoOut (Pm.quo [] (s.data.toList.drop i)) w g s e w' := by
  have hl : s.data.toList.length = s.size := by rw [Array.length_toList]; rfl
  have HL := Hid.mk' hl
  have H := Hid.mk' h
  obtain ⟨i0, hi0, hz0, hz1, hz2⟩ := info_parts info_u8
  have Hi := Hid.mk' hi0; have Hz0 := Hid.mk' hz0; have Hz1 := Hid.mk' hz1; have Hz2 := Hid.mk' hz2
  clear h hl hi0 hz0 hz1 hz2
  go_enter Tryz.func132, Tryz.ntmps132
  go_wp2
  go_loopw [3] (fun t wr => ∃ (k : Nat) (acc : List UInt8) (ao : Option Addr) (cap : Nat), k ≤ s.size ∧ acc.length ≤ k ∧ t = .slice ao acc.length cap ∧ QuoAt w g s k acc ao cap wr ∧ Pm.quo [] (s.data.toList.drop i) = Pm.quo acc (s.data.toList.drop k)) (fun _ wr => s.size - atOf wr g)
  case atStart => exact ⟨i, [], none, 0, hi, Nat.zero_le _, rfl, ⟨H.out, OwnB.nil _ _ _, Turns.refl _ _, H.out.lt⟩, rfl⟩
  case round =>
    clear H
    obtain ⟨k, acc, ao, cap, hk, hal, rfl, hA, hq⟩ := hrel
    have HA := Hid.mk' hA
    have HAt := Hid.mk' hA.rd.atOf
    have HQ := Hid.mk' hq
    clear hA hq
    by_cases hlt : k < s.size
    · have HD : Hid (s.data.toList.drop k = s[k] :: s.data.toList.drop (k + 1)) := by
        unfold Hid; rw [List.drop_eq_getElem_cons (by rw [HL.out]; exact hlt), text_at s k hlt]
      go_wp2_with fail
      refine (inner_yes s k g _ HA.out.rd hs hlt).mono ?_
      rintro e w1 ⟨rfl, h1, h2⟩
      have HA1 := Hid.mk' (HA.out.feed h1 h2)
      clear h1 h2 HA
      generalize s[k] = c at *
      by_cases h34 : c = 34
      · subst h34
        have HR : Hid (Pm.quo [] (s.data.toList.drop i) = some (acc, s.data.toList.drop (k + 1))) := by unfold Hid; rw [HQ.out, HD.out, Pm.quo_end]
        have hconv := HA1.out.own.isB.str (P := Tryz.prog) 25 9 5 Tryz.underlying25 Tryz.underlying5 Tryz.underlying9
        clear HQ HD
        go_wp2
        go_ret
        exact QuoOut.yes HR.out rfl (by omega) HA1.out.rd rfl HA1.out.turns
      · have t34 : ((c.toNat : Int) == 34) = false := byte_ne' h34
        by_cases h92 : c = 92
        · subst h92
          clear t34 h34
          by_cases hlt2 : k + 1 < s.size
          · have HD2 : Hid (s.data.toList.drop (k + 1) = s[k + 1] :: s.data.toList.drop (k + 2)) := by
              unfold Hid; rw [List.drop_eq_getElem_cons (by rw [HL.out]; exact hlt2), text_at s (k + 1) hlt2]
            have HR : Hid (Pm.quo [] (s.data.toList.drop i) = Pm.quo (acc ++ [s[k + 1]]) (s.data.toList.drop (k + 2))) := by
              unfold Hid; rw [HQ.out, HD.out, HD2.out, Pm.quo_back]
            clear HQ HD HD2
            go_wp2_with fail
            refine (inner_yes s (k + 1) g _ HA1.out.rd hs hlt2).mono ?_
            rintro e w2 ⟨rfl, h1, h2⟩
            have HA2 := Hid.mk' (HA1.out.feed h1 h2)
            clear h1 h2 HA1
            generalize s[k + 1] = d at *
            go_wp2_with (at_builtin; refine wpList_append_at rfl (.tmp 15) (.tmp 17) 25 rfl w.heap.size 5 i0 Tryz.underlying25 Hi.out Hz0.out Hz1.out Hz2.out (l := acc) (l2 := [d]) rfl rfl (HA2.out.own.alloc _) rfl rfl (IsB.one_at' _ _ _ _ (by simp)) (by simp; omega) (by have := HA2.out.turns.size; simp; omega) ?_; intro ao3 cap3 w3 hO3 hG3 hat3; have HA3 := Hid.mk' (HA2.out.push _ hO3 hG3); clear hO3 hG3 hat3)
            go_roundw
            case rel => exact ⟨k + 2, acc ++ [d], ao3, cap3, by omega, by rw [List.length_append]; simp; omega, by rw [List.length_append]; rfl, HA3.out, HR.out⟩
            case measure => rw [HA3.out.rd.atOf, HAt.out]; omega
          · have HR : Hid (Pm.quo [] (s.data.toList.drop i) = none) := by
              unfold Hid; rw [HQ.out, HD.out, List.drop_eq_nil_of_le (show s.data.toList.length ≤ k + 1 by rw [HL.out]; omega), Pm.quo_back_nil]
            clear HQ HD
            go_wp2_with fail
            refine (inner_no s (k + 1) g _ HA1.out.rd hlt2).mono ?_
            rintro e w2 ⟨he, h2⟩
            unfold gave at he
            subst he
            have HT := Hid.mk' (HA1.out.turns.trans h2 (fun _ h _ => h))
            clear h2
            go_wp2
            exact ⟨rfl, QuoOut.no HR.out HT.out⟩
        · have t92 : ((c.toNat : Int) == 92) = false := byte_ne' h92
          have HR : Hid (Pm.quo [] (s.data.toList.drop i) = Pm.quo (acc ++ [c]) (s.data.toList.drop (k + 1))) := by
            unfold Hid; rw [HQ.out, HD.out, Pm.quo_byte _ _ _ h34 h92]
          clear HQ HD h34 h92
          go_wp2_with (at_builtin; refine wpList_append_at rfl (.tmp 15) (.tmp 17) 25 rfl w.heap.size 5 i0 Tryz.underlying25 Hi.out Hz0.out Hz1.out Hz2.out (l := acc) (l2 := [c]) rfl rfl (HA1.out.own.alloc _) rfl rfl (IsB.one_at' _ _ _ _ (by simp)) (by simp; omega) (by have := HA1.out.turns.size; simp; omega) ?_; intro ao3 cap3 w3 hO3 hG3 hat3; have HA3 := Hid.mk' (HA1.out.push _ hO3 hG3); clear hO3 hG3 hat3)
          go_roundw
          case rel => exact ⟨k + 1, acc ++ [c], ao3, cap3, by omega, by rw [List.length_append]; simp; omega, by rw [List.length_append]; rfl, HA3.out, HR.out⟩
          case measure => rw [HA3.out.rd.atOf, HAt.out]; omega
    · have HR : Hid (Pm.quo [] (s.data.toList.drop i) = none) := by
        unfold Hid; rw [HQ.out, List.drop_eq_nil_of_le (show s.data.toList.length ≤ k by rw [HL.out]; omega), Pm.quo_nil]
      clear HQ
      go_wp2_with fail
      refine (inner_no s k g _ HA.out.rd hlt).mono ?_
      rintro e w2 ⟨he, h2⟩
      unfold gave at he
      subst he
      have HT := Hid.mk' (HA.out.turns.trans h2 (fun _ h _ => h))
      clear h2
      go_wp2
      exact ⟨rfl, QuoOut.no HR.out HT.out⟩
end Go.Proofs.YtjpenioloeplgadGreatDoor
