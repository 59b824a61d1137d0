/- Small texts, one behind the other: LinA, LinB, CkA, LinG. -/
import Derived.Test.YtkafbifogdoneacGreatDoorPk5
import Derived.Test.YtkafbifogdoneacGreatDoorPk1
import Derived.Test.YtkafbifogdoneacGreatDoorPk10
import Derived.Test.YtkafbifogdoneacGreatDoorPk8
/- A reader of lines as it lies in memory; New, fault walked. -/
namespace Go.Proofs.YtkafbifogdoneacGreatDoor
open Go.RowKit

/-- block g is a reader of lines that keeps s; it and all its memory are among the blocks S -/
def LineAt (w : World) (S : Nat → Prop) (g : Nat) (s : Ln.St) : Prop :=
  ∃ ao cap, w.heap[g]? = some (.cells #[.slice ao s.line.length cap, .bool s.ending, .int .i64 (s.code : Int)] 125 (0, 0)) ∧
    OwnB w 0 5 ao cap s.line ∧ S g ∧ ∀ a, ao = some a → S a.block
theorem LineAt.lt {w : World} {S : Nat → Prop} {g : Nat} {s : Ln.St} (h : LineAt w S g s) : g < w.heap.size := by
  obtain ⟨_, _, hg, _⟩ := h; exact (Array.getElem?_eq_some_iff.1 hg).1
theorem LineAt.mono {w : World} {S S' : Nat → Prop} {g : Nat} {s : Ln.St} (h : LineAt w S g s) (hs : ∀ k, k < w.heap.size → S k → S' k) : LineAt w S' g s := by
  obtain ⟨ao, cap, hg, ho, h1, h2⟩ := h
  exact ⟨ao, cap, hg, ho, hs g (Array.getElem?_eq_some_iff.1 hg).1 h1, fun a e => hs _ (ho.block a e).2 (h2 a e)⟩
/-- it stays while none of its blocks turns -/
theorem LineAt.turns {w w' : World} {S S' : Nat → Prop} {g : Nat} {s : Ln.St} (h : LineAt w S g s) (ht : Turns S' w w') (hs : ∀ k, S k → ¬ S' k) : LineAt w' S g s := by
  obtain ⟨ao, cap, hg, ho, h1, h2⟩ := h
  exact ⟨ao, cap, ht.row hg (hs g h1), ho.turns ht (fun a e => hs _ (h2 a e)), h1, h2⟩
theorem LineAt.drewN {w : World} {S : Nat → Prop} {g : Nat} {s : Ln.St} (h : LineAt w S g s) (n : Nat) : LineAt (w.drewN n) S g s := h.turns (Turns.drewN (fun _ => False) w n) (fun _ _ e => e)
/-- stores into it -/
theorem LineAt.code {w : World} {S : Nat → Prop} {g : Nat} {s : Ln.St} (h : LineAt w S g s) (k : Nat) : LineAt (w.setCell ⟨g, 2, none⟩ (.int .i64 (k : Int))) S g { s with code := k } ∧ Turns S w (w.setCell ⟨g, 2, none⟩ (.int .i64 (k : Int))) := by
  obtain ⟨ao, cap, hg, ho, h1, h2⟩ := h
  refine ⟨⟨ao, cap, ?_, ho.turns (Turns.setCell (fun i => i = g) w _ _ rfl) ?_, h1, h2⟩, Turns.setCell S w _ _ h1⟩
  · rw [heap_setCell_same w g 2 _ _ _ hg]; rfl
  · intro a e
    have := row_ne hg ho (by decide)
    rw [ownBlock_slice, e] at this
    intro e2; exact this (by simp [blockOf, e2])
theorem LineAt.ends {w : World} {S : Nat → Prop} {g : Nat} {s : Ln.St} (h : LineAt w S g s) (b : Bool) : LineAt (w.setCell ⟨g, 1, none⟩ (.bool b)) S g { s with ending := b } ∧ Turns S w (w.setCell ⟨g, 1, none⟩ (.bool b)) := by
  obtain ⟨ao, cap, hg, ho, h1, h2⟩ := h
  refine ⟨⟨ao, cap, ?_, ho.turns (Turns.setCell (fun i => i = g) w _ _ rfl) ?_, h1, h2⟩, Turns.setCell S w _ _ h1⟩
  · rw [heap_setCell_same w g 1 _ _ _ hg]; rfl
  · intro a e
    have := row_ne hg ho (by decide)
    rw [ownBlock_slice, e] at this
    intro e2; exact this (by simp [blockOf, e2])
theorem LineAt.drop {w : World} {S : Nat → Prop} {g : Nat} {s : Ln.St} (h : LineAt w S g s) : LineAt (w.setCell ⟨g, 0, none⟩ (.slice none 0 0)) S g { s with line := [] } ∧ Turns S w (w.setCell ⟨g, 0, none⟩ (.slice none 0 0)) := by
  obtain ⟨ao, cap, hg, ho, h1, h2⟩ := h
  refine ⟨⟨none, 0, ?_, OwnB.nil _ _ _, h1, fun a e => by cases e⟩, Turns.setCell S w _ _ h1⟩
  rw [heap_setCell_same w g 0 _ _ _ hg]; rfl
/-- a line that grew is laid into it -/
theorem LineAt.grow {w w1 : World} {S : Nat → Prop} {g : Nat} {s : Ln.St} {l : List UInt8} {ao : Option Addr} {cap : Nat} {ao' : Option Addr} {cap' : Nat} (hg : w.heap[g]? = some (.cells #[.slice ao s.line.length cap, .bool s.ending, .int .i64 (s.code : Int)] 125 (0, 0))) (h1 : S g) (ho : OwnB w1 0 5 ao' cap' l) (ht : Turns (fun k => S k ∧ k ≠ g) w w1) (ha : ∀ a, ao' = some a → orNew S w a.block) (n : Nat) (hn : n = l.length) :
    LineAt (w1.setCell ⟨g, 0, none⟩ (.slice ao' n cap')) (orNew S w) g { s with line := l } ∧ Turns S w (w1.setCell ⟨g, 0, none⟩ (.slice ao' n cap')) := by
  subst hn
  have hg1 := ht.row hg (fun e => e.2 rfl)
  refine ⟨⟨ao', cap', ?_, ho.turns (Turns.setCell (fun i => i = g) w1 _ _ rfl) ?_, Or.inl h1, ha⟩, (ht.mono (fun k e => e.1)).trans (Turns.setCell S w1 _ _ h1) (fun i e _ => e)⟩
  · rw [heap_setCell_same w1 g 0 _ _ _ hg1]; rfl
  · intro a e
    have := row_ne hg1 ho (by decide)
    rw [ownBlock_slice, e] at this
    intro e2; exact this (by simp [blockOf, e2])

theorem newLines_any (w : World) :
    Calls Tryz.prog 36 #[] w fun e w' => e = .returned (.pointer (some ⟨w.heap.size, 0, none⟩)) ∧ LineAt w' (fun k => w.heap.size ≤ k) w.heap.size Ln.start ∧ Below w.heap.size w w' := by
  go_enter Tryz.func36, Tryz.ntmps36
  go_wp2
  go_ret
  exact ⟨rfl, ⟨none, 0, heap_alloc_new w _, OwnB.nil _ _ _, Nat.le_refl _, fun a e => by cases e⟩, (Below.refl _ _).alloc (Nat.le_refl _) _⟩

set_option maxHeartbeats 800000 in
theorem faultLines_any (w : World) (S : Nat → Prop) (g : Nat) (s : Ln.St) (c : UInt8) (h : LineAt w S g s) :
    Calls Tryz.prog 110 #[.pointer (some ⟨g, 0, none⟩), .int .u8 c.toNat] w fun e w' => e = .returned (.int .i64 (Ln.fault s c : Int)) ∧ w' = w := by
  obtain ⟨ao, cap, hg, _⟩ := h
  have c0 : w.cell? ⟨g, 0, none⟩ = some (.slice ao s.line.length cap) := cell_of_row w g 0 _ _ _ hg
  have c1 : w.cell? ⟨g, 1, none⟩ = some (.bool s.ending) := cell_of_row w g 1 _ _ _ hg
  clear hg
  have HV := Hid.mk' (visible_any (c.toNat : Int) w)
  by_cases hq : s.ending = (c == 10)
  · by_cases h13 : c = 13
    · have t13 : ((c.toNat : Int) == 13) = true := by rw [h13]; rfl
      have t10 : ((c.toNat : Int) == 10) = false := by rw [h13]; rfl
      have hF : Ln.fault s c = 0 := by unfold Ln.fault; rw [if_pos hq, if_pos (Or.inl h13)]
      have hE : s.ending = false := by rw [hq, h13]; rfl
      rw [hF]; rw [hE] at c1
      clear hF hq hE h13
      go_enter Tryz.func110, Tryz.ntmps110
      go_wp2
      go_ret
      exact ⟨rfl, rfl⟩
    · have t13 : ((c.toNat : Int) == 13) = false := byte_ne' h13
      by_cases h10 : c = 10
      · have t10 : ((c.toNat : Int) == 10) = true := by rw [h10]; rfl
        have hF : Ln.fault s c = 0 := by unfold Ln.fault; rw [if_pos hq, if_pos (Or.inr h10)]
        have hE : s.ending = true := by rw [hq, h10]; rfl
        rw [hF]; rw [hE] at c1
        clear hF hq hE h13 h10
        go_enter Tryz.func110, Tryz.ntmps110
        go_wp2
        go_ret
        exact ⟨rfl, rfl⟩
      · have t10 : ((c.toNat : Int) == 10) = false := byte_ne' h10
        have hE : s.ending = false := by rw [hq]; exact beq_eq_false_iff_ne.2 h10
        have hno : ¬ (c = 13 ∨ c = 10) := by rintro (e | e) <;> contradiction
        rw [hE] at c1
        cases hv : Ch.visible (c.toNat : Int)
        · have hF : Ln.fault s c = 3 := by unfold Ln.fault; rw [if_pos hq, if_neg hno, if_pos hv]
          rw [hv] at HV
          rw [hF]
          clear hF hq hE h13 h10 hno hv
          go_enter Tryz.func110, Tryz.ntmps110
          go_wp2_with fail
          refine HV.out.mono ?_
          rintro e w' ⟨rfl, hw⟩
          subst hw
          go_wp2
          go_ret
          exact ⟨rfl, rfl⟩
        · rw [hv] at HV
          by_cases h2 : 200 ≤ s.line.length
          · have hF : Ln.fault s c = 4 := by unfold Ln.fault; rw [if_pos hq, if_neg hno, if_neg (by rw [hv]; simp), if_pos h2]
            have t2 : decide ((s.line.length : Int) ≥ 200) = true := by rw [decide_eq_true_eq]; omega
            rw [hF]
            clear hF hq hE h13 h10 hno hv
            go_enter Tryz.func110, Tryz.ntmps110
            go_wp2_with fail
            refine HV.out.mono ?_
            rintro e w' ⟨rfl, hw⟩
            subst hw
            go_wp2
            go_ret
            exact ⟨rfl, rfl⟩
          · have hF : Ln.fault s c = 0 := by unfold Ln.fault; rw [if_pos hq, if_neg hno, if_neg (by rw [hv]; simp), if_neg h2]
            have t2 : decide ((s.line.length : Int) ≥ 200) = false := by rw [decide_eq_false_iff_not]; omega
            rw [hF]
            clear hF hq hE h13 h10 hno hv
            go_enter Tryz.func110, Tryz.ntmps110
            go_wp2_with fail
            refine HV.out.mono ?_
            rintro e w' ⟨rfl, hw⟩
            subst hw
            go_wp2
            go_ret
            exact ⟨rfl, rfl⟩
  · have hF : Ln.fault s c = 2 := by unfold Ln.fault; rw [if_neg hq]
    rw [hF]
    by_cases h10 : c = 10
    · have t10 : ((c.toNat : Int) == 10) = true := by rw [h10]; rfl
      have hE : s.ending = false := by
        cases hh : s.ending
        · rfl
        · exact absurd (by rw [hh, h10]; rfl) hq
      rw [hE] at c1
      clear hF hq hE h10
      go_enter Tryz.func110, Tryz.ntmps110
      go_wp2
      go_ret
      exact ⟨rfl, rfl⟩
    · have t10 : ((c.toNat : Int) == 10) = false := byte_ne' h10
      have hE : s.ending = true := by
        cases hh : s.ending
        · exact absurd (by rw [hh]; exact (beq_eq_false_iff_ne.2 h10).symm) hq
        · rfl
      rw [hE] at c1
      clear hF hq hE h10
      go_enter Tryz.func110, Tryz.ntmps110
      go_wp2
      go_ret
      exact ⟨rfl, rfl⟩
end Go.Proofs.YtkafbifogdoneacGreatDoor

/- One byte more for a reader of lines, walked. -/
namespace Go.Proofs.YtkafbifogdoneacGreatDoor
open Go.RowKit

/-- what Feed answers, as a value -/
def Ln.fed (s : Ln.St) (c : UInt8) : Value := .tuple #[.string ⟨(Ln.text s c).toArray⟩, .bool (Ln.ends s c), .int .i64 ((Ln.next s c).code : Int)]
theorem Ln.fed_of {s s' : Ln.St} {c : UInt8} {t : List UInt8} {b : Bool} {k : Nat} (ht : Ln.text s c = t) (hb : Ln.ends s c = b) (hn : Ln.next s c = s') (hk : s'.code = k) : Ln.fed s c = .tuple #[.string ⟨t.toArray⟩, .bool b, .int .i64 (k : Int)] := by
  unfold Ln.fed; rw [ht, hb, hn, hk]
theorem keep_line {w : World} {S : Nat → Prop} {g : Nat} {s : Ln.St} (h : LineAt w S g s) (W : World) : LineAt w (orNew S W) g s := h.mono (fun _ _ e => Or.inl e)

theorem IsB.one_at (W : World) (c : UInt8) (t : Nat) (fr : Nat × Nat) {k : Nat} (hk : W.heap.size = k) : IsB (W.alloc (.cells #[.int .u8 (c.toNat : Int)] t fr)) (Option.some ⟨k, 0, Option.none⟩) 1 [c] := hk ▸ IsB.one W c t fr
/-- a block stays by an append to another one -/
theorem kept_row {W w3 : World} {g : Nat} {row : Obj} {r : Option Nat} (hg : W.heap[g]? = some row) (ob : Obj) (hG : (W.alloc ob).grownBy w3 r) (hr : some g ≠ r) : w3.heap[g]? = some row := by
  have hlt : g < W.heap.size := (Array.getElem?_eq_some_iff.1 hg).1
  have := hG.block g (by simp; omega) hr
  rw [this, (World.grownBy_alloc W ob none).block g hlt (by simp)]; exact hg

/-- a code is told again -/
theorem feed_again (w : World) (S : Nat → Prop) (g : Nat) (s : Ln.St) (c : UInt8) (h : LineAt w S g s) (hc : s.code ≠ 0) :
    Calls Tryz.prog 75 #[.pointer (some ⟨g, 0, none⟩), .int .u8 c.toNat] w fun e w' => e = .returned (Ln.fed s c) ∧ LineAt w' (orNew S w) g (Ln.next s c) ∧ Turns S w w' := by
  have HA := Ln.again c hc
  rw [Ln.fed_of HA.2.1 HA.2.2 HA.1 rfl, HA.1]
  clear HA
  have HS := Hid.mk' h
  obtain ⟨ao, cap, hg, _⟩ := h
  have c2 : w.cell? ⟨g, 2, none⟩ = some (.int .i64 (s.code : Int)) := cell_of_row w g 2 _ _ _ hg
  have t0 : ((s.code : Int) == 0) = false := by rw [beq_eq_false_iff_ne]; omega
  have t1 : ((s.code : Int) != 0) = true := by rw [bne_iff_ne]; omega
  clear hg hc
  go_enter Tryz.func75, Tryz.ntmps75
  go_wp2
  go_quiet (fail)
  go_wp2
  go_ret3
  exact ⟨rfl, keep_line (HS.out.drewN _) w, Turns.drewN _ _ _⟩

/-- a code -/
theorem feed_code (w : World) (S : Nat → Prop) (g : Nat) (s : Ln.St) (c : UInt8) (k : Nat) (h : LineAt w S g s) (hc : s.code = 0) (hf : Ln.fault s c = k) (hk : k ≠ 0) :
    Calls Tryz.prog 75 #[.pointer (some ⟨g, 0, none⟩), .int .u8 c.toNat] w fun e w' => e = .returned (Ln.fed s c) ∧ LineAt w' (orNew S w) g (Ln.next s c) ∧ Turns S w w' := by
  have hn : Ln.next s c = { s with code := k } := by unfold Ln.next; rw [if_neg (by omega), hf, if_pos hk]
  rw [Ln.fed_of (t := []) (b := false) (by unfold Ln.text; rw [if_neg (fun e => hk (hf.symm.trans e.2.1))]) (by unfold Ln.ends; rw [decide_eq_false_iff_not]; exact fun e => hk (hf.symm.trans e.2.1)) hn rfl, hn]
  have HF := Hid.mk' (faultLines_any w S g s c h)
  rw [hf] at HF
  have HS := Hid.mk' (h.code k)
  obtain ⟨ao, cap, hg, _⟩ := h
  have c2 : w.cell? ⟨g, 2, none⟩ = some (.int .i64 0) := by
    rw [cell_of_row w g 2 _ _ _ hg]; simp [hc]
  have f2 : w.frozen? ⟨g, 2, none⟩ = false := frozen_of_row w g 2 _ _ hg
  have t1 : ((k : Int) != 0) = true := by rw [bne_iff_ne]; omega
  clear hg hc hf hn hk
  go_enter Tryz.func75, Tryz.ntmps75
  go_wp2_with fail
  refine HF.out.mono ?_
  rintro e w1 ⟨rfl, hw⟩
  subst hw
  go_wp2
  go_quiet (fail)
  go_wp2
  go_ret3
  exact ⟨rfl, keep_line (HS.out.1.drewN _) _, HS.out.2.trans (Turns.drewN S _ _) (fun _ e _ => e)⟩

/-- a line's end -/
theorem feed_end (w : World) (S : Nat → Prop) (g : Nat) (s : Ln.St) (h : LineAt w S g s) (hc : s.code = 0) (hf : Ln.fault s 10 = 0) :
    Calls Tryz.prog 75 #[.pointer (some ⟨g, 0, none⟩), .int .u8 10] w fun e w' => e = .returned (Ln.fed s 10) ∧ LineAt w' (orNew S w) g (Ln.next s 10) ∧ Turns S w w' := by
  have hn : Ln.next s 10 = ⟨[], false, 0⟩ := by unfold Ln.next; rw [if_neg (by omega), hf]; rfl
  rw [Ln.fed_of (t := s.line) (b := true) (by unfold Ln.text; rw [if_pos ⟨hc, hf, rfl⟩]) (by unfold Ln.ends; rw [decide_eq_true_eq]; exact ⟨hc, hf, rfl⟩) hn rfl, hn]
  have HF := Hid.mk' (faultLines_any w S g s 10 h)
  rw [hf] at HF
  have HS := Hid.mk' (h.code 0)
  have HS2 := Hid.mk' (HS.out.1.drop)
  have HS3 := Hid.mk' (HS2.out.1.ends false)
  obtain ⟨ao, cap, hg, ho, _⟩ := h
  have c0 : w.cell? ⟨g, 0, none⟩ = some (.slice ao s.line.length cap) := cell_of_row w g 0 _ _ _ hg
  have c1 : w.cell? ⟨g, 1, none⟩ = some (.bool s.ending) := cell_of_row w g 1 _ _ _ hg
  have c2 : w.cell? ⟨g, 2, none⟩ = some (.int .i64 0) := by
    rw [cell_of_row w g 2 _ _ _ hg]; simp [hc]
  have f0 : w.frozen? ⟨g, 0, none⟩ = false := frozen_of_row w g 0 _ _ hg
  have f1 : w.frozen? ⟨g, 1, none⟩ = false := frozen_of_row w g 1 _ _ hg
  have f2 : w.frozen? ⟨g, 2, none⟩ = false := frozen_of_row w g 2 _ _ hg
  have hq := (ho.isB.turns (w' := w.setCell ⟨g, 2, none⟩ (.int .i64 0)) (Turns.setCell (fun i => i = g) w _ _ rfl) (fun a e => by
    have := row_ne hg ho (by decide)
    rw [ownBlock_slice, e] at this
    intro e2; exact this (by simp [blockOf, e2]))).str (P := Tryz.prog) 22 9 5 Tryz.underlying22 Tryz.underlying5 Tryz.underlying9
  generalize (⟨s.line.toArray⟩ : ByteArray) = bs at hq ⊢
  clear hg ho hc hf hn
  go_enter Tryz.func75, Tryz.ntmps75
  go_wp2_with fail
  refine HF.out.mono ?_
  rintro e w1 ⟨rfl, hw⟩
  subst hw
  go_wp2
  go_ret3
  exact ⟨rfl, keep_line HS3.out.1 _, HS.out.2.trans (HS2.out.2.trans HS3.out.2 (fun _ e _ => e)) (fun _ e _ => e)⟩

/-- a CR -/
theorem feed_cr (w : World) (S : Nat → Prop) (g : Nat) (s : Ln.St) (h : LineAt w S g s) (hc : s.code = 0) (hf : Ln.fault s 13 = 0) :
    Calls Tryz.prog 75 #[.pointer (some ⟨g, 0, none⟩), .int .u8 13] w fun e w' => e = .returned (Ln.fed s 13) ∧ LineAt w' (orNew S w) g (Ln.next s 13) ∧ Turns S w w' := by
  have hn : Ln.next s 13 = ⟨s.line, true, 0⟩ := by unfold Ln.next; rw [if_neg (by omega), hf, hc]; rfl
  rw [Ln.fed_of (t := []) (b := false) (by unfold Ln.text; rw [if_neg (fun e => by cases e.2.2)]) (by unfold Ln.ends; rw [decide_eq_false_iff_not]; exact fun e => by cases e.2.2) hn rfl, hn]
  have HF := Hid.mk' (faultLines_any w S g s 13 h)
  rw [hf] at HF
  have HS := Hid.mk' (h.code 0)
  have HS3 := Hid.mk' (HS.out.1.ends true)
  obtain ⟨ao, cap, hg, ho, _⟩ := h
  have c1 : w.cell? ⟨g, 1, none⟩ = some (.bool s.ending) := cell_of_row w g 1 _ _ _ hg
  have c2 : w.cell? ⟨g, 2, none⟩ = some (.int .i64 0) := by
    rw [cell_of_row w g 2 _ _ _ hg]; simp [hc]
  have f1 : w.frozen? ⟨g, 1, none⟩ = false := frozen_of_row w g 1 _ _ hg
  have f2 : w.frozen? ⟨g, 2, none⟩ = false := frozen_of_row w g 2 _ _ hg
  clear hg ho hc hf hn
  go_enter Tryz.func75, Tryz.ntmps75
  go_wp2_with fail
  refine HF.out.mono ?_
  rintro e w1 ⟨rfl, hw⟩
  subst hw
  go_wp2
  go_ret3
  exact ⟨rfl, keep_line HS3.out.1 _, HS.out.2.trans HS3.out.2 (fun _ e _ => e)⟩

set_option maxHeartbeats 800000 in
/-- a byte of a line -/
theorem feed_byte (w : World) (S : Nat → Prop) (g : Nat) (s : Ln.St) (c : UInt8) (h : LineAt w S g s) (hs : s.line.length ≤ 200) (hc : s.code = 0) (hf : Ln.fault s c = 0) (h10 : c ≠ 10) (h13 : c ≠ 13) :
    Calls Tryz.prog 75 #[.pointer (some ⟨g, 0, none⟩), .int .u8 c.toNat] w fun e w' => e = .returned (Ln.fed s c) ∧ LineAt w' (orNew S w) g (Ln.next s c) ∧ Turns S w w' := by
  have hn : Ln.next s c = ⟨s.line ++ [c], s.ending, 0⟩ := by unfold Ln.next; rw [if_neg (by omega), hf, if_neg (by omega), if_neg h10, if_neg h13, hc]
  rw [Ln.fed_of (t := []) (b := false) (by unfold Ln.text; rw [if_neg (fun e => h10 e.2.2)]) (by unfold Ln.ends; rw [decide_eq_false_iff_not]; exact fun e => h10 e.2.2) hn rfl, hn]
  have HF := Hid.mk' (faultLines_any w S g s c h)
  rw [hf] at HF
  have t10 : ((c.toNat : Int) == 10) = false := byte_ne' h10
  have t13 : ((c.toNat : Int) == 13) = false := byte_ne' h13
  have HS := Hid.mk' (h.code 0)
  obtain ⟨ao, cap, hg, ho, h1, h2⟩ := h
  obtain ⟨i0, hi0, hz0, hz1, hz2⟩ := info_parts info_u8
  have Hi := Hid.mk' hi0; have Hz0 := Hid.mk' hz0; have Hz1 := Hid.mk' hz1; have Hz2 := Hid.mk' hz2
  have hne : ∀ a, ao = some a → a.block ≠ g := fun a e e2 => by
    have := row_ne hg ho (by decide)
    rw [ownBlock_slice, e] at this
    exact this (by simp [blockOf, e2])
  have c0 : w.cell? ⟨g, 0, none⟩ = some (.slice ao s.line.length cap) := cell_of_row w g 0 _ _ _ hg
  have c2 : w.cell? ⟨g, 2, none⟩ = some (.int .i64 0) := by
    rw [cell_of_row w g 2 _ _ _ hg]; simp [hc]
  have f0 : w.frozen? ⟨g, 0, none⟩ = false := frozen_of_row w g 0 _ _ hg
  have f2 : w.frozen? ⟨g, 2, none⟩ = false := frozen_of_row w g 2 _ _ hg
  have HO := Hid.mk' (ho.turns (w' := w.setCell ⟨g, 2, none⟩ (.int .i64 0)) (Turns.setCell (fun i => i = g) w _ _ rfl) (fun a e => hne a e))
  have HG : Hid ((w.setCell ⟨g, 2, none⟩ (.int .i64 0)).heap[g]? = some (.cells #[.slice ao s.line.length cap, .bool s.ending, .int .i64 (0 : Int)] 125 (0, 0))) := by
    show _ = _
    rw [heap_setCell_same w g 2 _ _ _ hg]; rfl
  have hlt : g < w.heap.size := (Array.getElem?_eq_some_iff.1 hg).1
  clear hg ho hf hn hi0 hz0 hz1 hz2 h10 h13
  go_enter Tryz.func75, Tryz.ntmps75
  go_wp2_with fail
  refine HF.out.mono ?_
  rintro e w1 ⟨rfl, hw⟩
  subst hw
  have HN : some g ≠ blockOf ao := by
    cases ao with
    | none => simp [blockOf]
    | some a => intro e; injection e with e; exact hne a rfl e.symm
  go_wp2_with (at_builtin; refine wpList_append_at rfl (.tmp 23) (.tmp 25) 22 rfl 0 5 i0 Tryz.underlying22 Hi.out Hz0.out Hz1.out Hz2.out (l := s.line) (l2 := [c]) rfl rfl (HO.out.alloc _) rfl rfl (IsB.one_at _ _ _ _ (by simp)) (by simp; omega) (Nat.zero_le _) ?_; intro ao3 cap3 w3 hO3 hG3 hat3; have h3 := kept_row HG.out _ hG3 HN; have c3 : w3.cell? ⟨g, 0, none⟩ = some (.slice ao s.line.length cap) := cell_of_row w3 g 0 _ _ _ h3; have f3 : w3.frozen? ⟨g, 0, none⟩ = false := frozen_of_row w3 g 0 _ _ h3; have HO3 := Hid.mk' hO3; have HG3 := Hid.mk' hG3; have HA3 := Hid.mk' hat3; clear hO3 hG3 hat3 h3)
  go_ret3
  have hz : (w1.setCell ⟨g, 2, none⟩ (.int .i64 0)).heap.size = w1.heap.size := by simp
  have hT : Turns (fun k => S k ∧ k ≠ g) (w1.setCell ⟨g, 2, none⟩ (.int .i64 0)) w3 :=
    (Turns.of_grown (World.grownBy_alloc _ _ none) (fun k e => by cases e)).trans (Turns.of_grown HG3.out (S := fun k => S k ∧ k ≠ g) (fun k e => by
      cases ao with
      | none => cases e
      | some a => injection e with e; subst e; exact ⟨h2 a rfl, hne a rfl⟩)) (fun _ e _ => e)
  have hA : ∀ a, ao3 = some a → orNew S (w1.setCell ⟨g, 2, none⟩ (.int .i64 0)) a.block := by
    intro a e
    subst e
    rcases HA3.out with e | e
    · cases ao with
      | none => cases e
      | some a' => injection e with e; rw [e]; exact Or.inl (h2 a' rfl)
    · injection e with e; rw [e]; exact Or.inr (by simp)
  have hL := LineAt.grow (s := ⟨s.line, s.ending, 0⟩) HG.out h1 HO3.out hT hA (s.line.length + 1) (by simp)
  refine ⟨rfl, hL.1.mono (fun k _ e => ?_), HS.out.2.trans hL.2 (fun _ e _ => e)⟩
  rcases e with e | e
  · exact Or.inl e
  · exact Or.inr (by omega)
/-- one byte more -/
theorem feedLines_any (w : World) (S : Nat → Prop) (g : Nat) (s : Ln.St) (c : UInt8) (h : LineAt w S g s) (hs : s.line.length ≤ 200) :
    Calls Tryz.prog 75 #[.pointer (some ⟨g, 0, none⟩), .int .u8 c.toNat] w fun e w' => e = .returned (Ln.fed s c) ∧ LineAt w' (orNew S w) g (Ln.next s c) ∧ Turns S w w' := by
  by_cases hc : s.code = 0
  · by_cases hf : Ln.fault s c = 0
    · by_cases h10 : c = 10
      · subst h10; exact feed_end w S g s h hc hf
      · by_cases h13 : c = 13
        · subst h13; exact feed_cr w S g s h hc hf
        · exact feed_byte w S g s c h hs hc hf h10 h13
    · exact feed_code w S g s c _ h hc rfl hf
  · exact feed_again w S g s c h hc
end Go.Proofs.YtkafbifogdoneacGreatDoor

/- A reader of a body in chunks as it lies in memory; New walked. -/
namespace Go.Proofs.YtkafbifogdoneacGreatDoor
open Go.RowKit

/-- block g is a reader of a body in chunks whose cells are these; it and all its memory are among the blocks S -/
structure CkRow (w : World) (S : Nat → Prop) (g gl : Nat) (nx lf rm fd code : Int) (ln : Ln.St) : Prop where
  row : w.heap[g]? = some (.cells #[.pointer (some ⟨gl, 0, none⟩), .int .i64 nx, .int .i64 lf, .int .i64 rm, .int .i64 fd, .int .i64 code] 202 (0, 0))
  mem : S g
  line : LineAt w (fun k => S k ∧ k ≠ g) gl ln
/-- block g is a reader that keeps s -/
def CkAt (w : World) (S : Nat → Prop) (g : Nat) (s : Ck.St) : Prop :=
  ∃ gl nx lf rm fd ln, CkRow w S g gl nx lf rm fd (Ck.pc s : Int) ln ∧ (Ck.pc s = 0 → ln = s.ln ∧ nx = (Ck.nx s : Int) ∧ lf = (Ck.lf s : Int) ∧ rm = 4000 - (s.total : Int) ∧ fd = (s.count : Int))
section
variable {w w' : World} {S S' : Nat → Prop} {g gl : Nat} {nx lf rm fd code : Int} {ln : Ln.St}
theorem CkRow.mono (h : CkRow w S g gl nx lf rm fd code ln) (hs : ∀ k, k < w.heap.size → S k → S' k) : CkRow w S' g gl nx lf rm fd code ln :=
  ⟨h.row, hs g (Array.getElem?_eq_some_iff.1 h.row).1 h.mem, h.line.mono (fun k hk e => ⟨hs k hk e.1, e.2⟩)⟩
theorem CkRow.turns (h : CkRow w S g gl nx lf rm fd code ln) (ht : Turns S' w w') (hs : ∀ k, S k → ¬ S' k) : CkRow w' S g gl nx lf rm fd code ln :=
  ⟨ht.row h.row (hs g h.mem), h.mem, h.line.turns ht (fun k e => hs k e.1)⟩
theorem CkRow.stay (h : CkRow w S g gl nx lf rm fd code ln) (hb : Below w.heap.size w w') : CkRow w' S g gl nx lf rm fd code ln := h.turns (Turns.of_below (S := fun _ => False) hb) (fun _ _ e => e)
theorem CkRow.cell (h : CkRow w S g gl nx lf rm fd code ln) (j : Nat) (hj : j < 6) : w.cell? ⟨g, j, none⟩ = #[Value.pointer (some ⟨gl, 0, none⟩), .int .i64 nx, .int .i64 lf, .int .i64 rm, .int .i64 fd, .int .i64 code][j]? := by
  match j, hj with
  | 0, _ => exact cell_of_row w g 0 _ _ _ h.row
  | 1, _ => exact cell_of_row w g 1 _ _ _ h.row
  | 2, _ => exact cell_of_row w g 2 _ _ _ h.row
  | 3, _ => exact cell_of_row w g 3 _ _ _ h.row
  | 4, _ => exact cell_of_row w g 4 _ _ _ h.row
  | 5, _ => exact cell_of_row w g 5 _ _ _ h.row
theorem CkRow.frozen (h : CkRow w S g gl nx lf rm fd code ln) (j : Nat) : w.frozen? ⟨g, j, none⟩ = false := frozen_of_row w g j _ _ h.row
theorem CkRow.put (h : CkRow w S g gl nx lf rm fd code ln) (j : Nat) (v : Value) {nx' lf' rm' fd' code' : Int}
    (e : (#[Value.pointer (some ⟨gl, 0, none⟩), .int .i64 nx, .int .i64 lf, .int .i64 rm, .int .i64 fd, .int .i64 code].setIfInBounds j v) = #[Value.pointer (some ⟨gl, 0, none⟩), .int .i64 nx', .int .i64 lf', .int .i64 rm', .int .i64 fd', .int .i64 code']) :
    CkRow (w.setCell ⟨g, j, none⟩ v) S g gl nx' lf' rm' fd' code' ln := by
  refine ⟨?_, h.mem, h.line.turns (Turns.setCell (fun i => i = g) w _ _ rfl) (fun k e => e.2)⟩
  rw [heap_setCell_same w g j _ _ _ h.row, e]
/-- stores into it -/
theorem CkRow.next (h : CkRow w S g gl nx lf rm fd code ln) (k : Int) : CkRow (w.setCell ⟨g, 1, none⟩ (.int .i64 k)) S g gl k lf rm fd code ln := h.put 1 _ rfl
theorem CkRow.left (h : CkRow w S g gl nx lf rm fd code ln) (k : Int) : CkRow (w.setCell ⟨g, 2, none⟩ (.int .i64 k)) S g gl nx k rm fd code ln := h.put 2 _ rfl
theorem CkRow.room (h : CkRow w S g gl nx lf rm fd code ln) (k : Int) : CkRow (w.setCell ⟨g, 3, none⟩ (.int .i64 k)) S g gl nx lf k fd code ln := h.put 3 _ rfl
theorem CkRow.fields (h : CkRow w S g gl nx lf rm fd code ln) (k : Int) : CkRow (w.setCell ⟨g, 4, none⟩ (.int .i64 k)) S g gl nx lf rm k code ln := h.put 4 _ rfl
theorem CkRow.code_ (h : CkRow w S g gl nx lf rm fd code ln) (k : Int) : CkRow (w.setCell ⟨g, 5, none⟩ (.int .i64 k)) S g gl nx lf rm fd k ln := h.put 5 _ rfl
theorem CkRow.turn (h : CkRow w S g gl nx lf rm fd code ln) (j : Nat) (v : Value) : Turns S w (w.setCell ⟨g, j, none⟩ v) := Turns.setCell S w _ _ h.mem
end
theorem CkAt.mono {w : World} {S S' : Nat → Prop} {g : Nat} {s : Ck.St} (h : CkAt w S g s) (hs : ∀ k, k < w.heap.size → S k → S' k) : CkAt w S' g s := by
  obtain ⟨gl, nx, lf, rm, fd, ln, h, k⟩ := h
  exact ⟨gl, nx, lf, rm, fd, ln, h.mono hs, k⟩
theorem CkAt.turns {w w' : World} {S S' : Nat → Prop} {g : Nat} {s : Ck.St} (h : CkAt w S g s) (ht : Turns S' w w') (hs : ∀ k, S k → ¬ S' k) : CkAt w' S g s := by
  obtain ⟨gl, nx, lf, rm, fd, ln, h, k⟩ := h
  exact ⟨gl, nx, lf, rm, fd, ln, h.turns ht hs, k⟩

theorem newChunks_any (w : World) :
    Calls Tryz.prog 114 #[] w fun e w' => ∃ g, e = .returned (.pointer (some ⟨g, 0, none⟩)) ∧ CkAt w' (fun k => w.heap.size ≤ k) g Ck.start ∧ Below w.heap.size w w' := by
  go_enter Tryz.func114, Tryz.ntmps114
  go_wp2_with fail
  refine (newLines_any w).mono ?_
  rintro e w1 ⟨rfl, hL, hB⟩
  have HL := Hid.mk' hL; have HB := Hid.mk' hB
  clear hL hB
  go_wp2
  go_ret
  have hsz := HB.out.size
  have hlt := HL.out.lt
  have hT : Turns (fun _ => False) w1 (w1.alloc (.cells #[.pointer (some ⟨w.heap.size, 0, none⟩), .int .i64 0, .int .i64 0, .int .i64 4000, .int .i64 0, .int .i64 0] 202)) := Turns.of_below ((Below.refl _ _).alloc (Nat.le_refl _) _)
  have hL2 := (HL.out.mono (S' := fun k => w.heap.size ≤ k ∧ k ≠ w1.heap.size) (fun k hk e => ⟨e, by omega⟩)).turns hT (fun _ _ e => e)
  exact ⟨w1.heap.size, rfl, ⟨w.heap.size, 0, 0, 4000, 0, Ln.start, ⟨heap_alloc_new w1 _, hsz, hL2⟩, fun _ => ⟨rfl, rfl, rfl, rfl, rfl⟩⟩, HB.out.trans ((Below.refl _ _).alloc hsz _)⟩
end Go.Proofs.YtkafbifogdoneacGreatDoor

/- A reader of lines: Begun walked. -/
namespace Go.Proofs.YtkafbifogdoneacGreatDoor
open Go.RowKit

theorem begunLines_any (w : World) (S : Nat → Prop) (g : Nat) (s : Ln.St) (h : LineAt w S g s) :
    Calls Tryz.prog 47 #[.pointer (some ⟨g, 0, none⟩)] w fun e w' => e = .returned (.bool (Ln.begun s)) ∧ w' = w := by
  obtain ⟨ao, cap, hg, _⟩ := h
  have c0 : w.cell? ⟨g, 0, none⟩ = some (.slice ao s.line.length cap) := cell_of_row w g 0 _ _ _ hg
  have c1 : w.cell? ⟨g, 1, none⟩ = some (.bool s.ending) := cell_of_row w g 1 _ _ _ hg
  clear hg
  unfold Ln.begun
  generalize s.ending = b at c1 ⊢
  cases b
  · go_enter Tryz.func47, Tryz.ntmps47
    go_wp2
    go_ret
    exact ⟨ret_bool (by simp), rfl⟩
  · go_enter Tryz.func47, Tryz.ntmps47
    go_wp2
    go_ret
    exact ⟨ret_bool (by simp), rfl⟩
end Go.Proofs.YtkafbifogdoneacGreatDoor
