/- Small texts, one behind the other: BtInfo, LinA, LinB, PlainLT. -/
import Derived.Test.YtbcmlolaihnalacGreatDoorProg
import Derived.Test.YtbcmlolaihnalacGreatDoorPk2
import Derived.Test.YtbcmlolaihnalacGreatDoorPk1
/- The table's rows of bytes and ints. -/
namespace Go.Proofs.YtbcmlolaihnalacGreatDoor
open Go.RowKit

theorem info_u8 : (Tryz.prog.info? 5).map (fun i => (i.zero, i.size, i.bytes)) = some (some (.int .u8 0), 1, 1) := by kernel_rfl

theorem info_int : (Tryz.prog.info? 3).map (fun i => (i.zero, i.size, i.bytes)) = some (some (.int .i64 0), 1, 8) := by kernel_rfl
end Go.Proofs.YtbcmlolaihnalacGreatDoor

/- A reader of lines as it lies in memory; New, fault walked. -/
namespace Go.Proofs.YtbcmlolaihnalacGreatDoor
open Go.RowKit

/-- block g is a reader of lines that keeps s; it and all its memory are among the blocks S -/
def LineAt (w : World) (S : Nat → Prop) (g : Nat) (s : Ln.St) : Prop :=
  ∃ ao cap, w.heap[g]? = some (.cells #[.slice ao s.line.length cap, .bool s.ending, .int .i64 (s.code : Int)] 79 (0, 0)) ∧
    OwnB w 0 5 ao cap s.line ∧ S g ∧ ∀ a, ao = some a → S a.block
theorem LineAt.lt {w : World} {S : Nat → Prop} {g : Nat} {s : Ln.St} (h : LineAt w S g s) : g < w.heap.size := by
  obtain ⟨_, _, hg, _⟩ := h; exact (Array.getElem?_eq_some_iff.1 hg).1
theorem LineAt.mono {w : World} {S S' : Nat → Prop} {g : Nat} {s : Ln.St} (h : LineAt w S g s) (hs : ∀ k, k < w.heap.size → S k → S' k) : LineAt w S' g s := by
  obtain ⟨ao, cap, hg, ho, h1, h2⟩ := h
  exact ⟨ao, cap, hg, ho, hs g (Array.getElem?_eq_some_iff.1 hg).1 h1, fun a e => hs _ (ho.block a e).2 (h2 a e)⟩
/-- it stays while none of its blocks turns -/
theorem LineAt.turns {w w' : World} {S S' : Nat → Prop} {g : Nat} {s : Ln.St} (h : LineAt w S g s) (ht : Turns S' w w') (hs : ∀ k, S k → ¬ S' k) : LineAt w' S g s := by
  obtain ⟨ao, cap, hg, ho, h1, h2⟩ := h
  exact ⟨ao, cap, ht.row hg (hs g h1), ho.turns ht (fun a e => hs _ (h2 a e)), h1, h2⟩
theorem LineAt.drewN {w : World} {S : Nat → Prop} {g : Nat} {s : Ln.St} (h : LineAt w S g s) (n : Nat) : LineAt (w.drewN n) S g s := h.turns (Turns.drewN (fun _ => False) w n) (fun _ _ e => e)
/-- stores into it -/
theorem LineAt.code {w : World} {S : Nat → Prop} {g : Nat} {s : Ln.St} (h : LineAt w S g s) (k : Nat) : LineAt (w.setCell ⟨g, 2, none⟩ (.int .i64 (k : Int))) S g { s with code := k } ∧ Turns S w (w.setCell ⟨g, 2, none⟩ (.int .i64 (k : Int))) := by
  obtain ⟨ao, cap, hg, ho, h1, h2⟩ := h
  refine ⟨⟨ao, cap, ?_, ho.turns (Turns.setCell (fun i => i = g) w _ _ rfl) ?_, h1, h2⟩, Turns.setCell S w _ _ h1⟩
  · rw [heap_setCell_same w g 2 _ _ _ hg]; rfl
  · intro a e
    have := row_ne hg ho (by decide)
    rw [ownBlock_slice, e] at this
    intro e2; exact this (by simp [blockOf, e2])
theorem LineAt.ends {w : World} {S : Nat → Prop} {g : Nat} {s : Ln.St} (h : LineAt w S g s) (b : Bool) : LineAt (w.setCell ⟨g, 1, none⟩ (.bool b)) S g { s with ending := b } ∧ Turns S w (w.setCell ⟨g, 1, none⟩ (.bool b)) := by
  obtain ⟨ao, cap, hg, ho, h1, h2⟩ := h
  refine ⟨⟨ao, cap, ?_, ho.turns (Turns.setCell (fun i => i = g) w _ _ rfl) ?_, h1, h2⟩, Turns.setCell S w _ _ h1⟩
  · rw [heap_setCell_same w g 1 _ _ _ hg]; rfl
  · intro a e
    have := row_ne hg ho (by decide)
    rw [ownBlock_slice, e] at this
    intro e2; exact this (by simp [blockOf, e2])
theorem LineAt.drop {w : World} {S : Nat → Prop} {g : Nat} {s : Ln.St} (h : LineAt w S g s) : LineAt (w.setCell ⟨g, 0, none⟩ (.slice none 0 0)) S g { s with line := [] } ∧ Turns S w (w.setCell ⟨g, 0, none⟩ (.slice none 0 0)) := by
  obtain ⟨ao, cap, hg, ho, h1, h2⟩ := h
  refine ⟨⟨none, 0, ?_, OwnB.nil _ _ _, h1, fun a e => by cases e⟩, Turns.setCell S w _ _ h1⟩
  rw [heap_setCell_same w g 0 _ _ _ hg]; rfl
/-- a line that grew is laid into it -/
theorem LineAt.grow {w w1 : World} {S : Nat → Prop} {g : Nat} {s : Ln.St} {l : List UInt8} {ao : Option Addr} {cap : Nat} {ao' : Option Addr} {cap' : Nat} (hg : w.heap[g]? = some (.cells #[.slice ao s.line.length cap, .bool s.ending, .int .i64 (s.code : Int)] 79 (0, 0))) (h1 : S g) (ho : OwnB w1 0 5 ao' cap' l) (ht : Turns (fun k => S k ∧ k ≠ g) w w1) (ha : ∀ a, ao' = some a → orNew S w a.block) (n : Nat) (hn : n = l.length) :
    LineAt (w1.setCell ⟨g, 0, none⟩ (.slice ao' n cap')) (orNew S w) g { s with line := l } ∧ Turns S w (w1.setCell ⟨g, 0, none⟩ (.slice ao' n cap')) := by
  subst hn
  have hg1 := ht.row hg (fun e => e.2 rfl)
  refine ⟨⟨ao', cap', ?_, ho.turns (Turns.setCell (fun i => i = g) w1 _ _ rfl) ?_, Or.inl h1, ha⟩, (ht.mono (fun k e => e.1)).trans (Turns.setCell S w1 _ _ h1) (fun i e _ => e)⟩
  · rw [heap_setCell_same w1 g 0 _ _ _ hg1]; rfl
  · intro a e
    have := row_ne hg1 ho (by decide)
    rw [ownBlock_slice, e] at this
    intro e2; exact this (by simp [blockOf, e2])

theorem newLines_any (w : World) :
    Calls Tryz.prog 19 #[] w fun e w' => e = .returned (.pointer (some ⟨w.heap.size, 0, none⟩)) ∧ LineAt w' (fun k => w.heap.size ≤ k) w.heap.size Ln.start ∧ Below w.heap.size w w' := by
  go_enter Tryz.func19, Tryz.ntmps19
  go_wp2
  go_ret
  exact ⟨rfl, ⟨none, 0, heap_alloc_new w _, OwnB.nil _ _ _, Nat.le_refl _, fun a e => by cases e⟩, (Below.refl _ _).alloc (Nat.le_refl _) _⟩

set_option maxHeartbeats 800000 in
theorem faultLines_any (w : World) (S : Nat → Prop) (g : Nat) (s : Ln.St) (c : UInt8) (h : LineAt w S g s) :
    Calls Tryz.prog 54 #[.pointer (some ⟨g, 0, none⟩), .int .u8 c.toNat] w fun e w' => e = .returned (.int .i64 (Ln.fault s c : Int)) ∧ w' = w := by
  obtain ⟨ao, cap, hg, _⟩ := h
  have c0 : w.cell? ⟨g, 0, none⟩ = some (.slice ao s.line.length cap) := cell_of_row w g 0 _ _ _ hg
  have c1 : w.cell? ⟨g, 1, none⟩ = some (.bool s.ending) := cell_of_row w g 1 _ _ _ hg
  clear hg
  have HV := Hid.mk' (visible_any (c.toNat : Int) w)
  by_cases hq : s.ending = (c == 10)
  · by_cases h13 : c = 13
    · have t13 : ((c.toNat : Int) == 13) = true := by rw [h13]; rfl
      have t10 : ((c.toNat : Int) == 10) = false := by rw [h13]; rfl
      have hF : Ln.fault s c = 0 := by unfold Ln.fault; rw [if_pos hq, if_pos (Or.inl h13)]
      have hE : s.ending = false := by rw [hq, h13]; rfl
      rw [hF]; rw [hE] at c1
      clear hF hq hE h13
      go_enter Tryz.func54, Tryz.ntmps54
      go_wp2
      go_ret
      exact ⟨rfl, rfl⟩
    · have t13 : ((c.toNat : Int) == 13) = false := byte_ne' h13
      by_cases h10 : c = 10
      · have t10 : ((c.toNat : Int) == 10) = true := by rw [h10]; rfl
        have hF : Ln.fault s c = 0 := by unfold Ln.fault; rw [if_pos hq, if_pos (Or.inr h10)]
        have hE : s.ending = true := by rw [hq, h10]; rfl
        rw [hF]; rw [hE] at c1
        clear hF hq hE h13 h10
        go_enter Tryz.func54, Tryz.ntmps54
        go_wp2
        go_ret
        exact ⟨rfl, rfl⟩
      · have t10 : ((c.toNat : Int) == 10) = false := byte_ne' h10
        have hE : s.ending = false := by rw [hq]; exact beq_eq_false_iff_ne.2 h10
        have hno : ¬ (c = 13 ∨ c = 10) := by rintro (e | e) <;> contradiction
        rw [hE] at c1
        cases hv : Ch.visible (c.toNat : Int)
        · have hF : Ln.fault s c = 3 := by unfold Ln.fault; rw [if_pos hq, if_neg hno, if_pos hv]
          rw [hv] at HV
          rw [hF]
          clear hF hq hE h13 h10 hno hv
          go_enter Tryz.func54, Tryz.ntmps54
          go_wp2_with fail
          refine HV.out.mono ?_
          rintro e w' ⟨rfl, hw⟩
          subst hw
          go_wp2
          go_ret
          exact ⟨rfl, rfl⟩
        · rw [hv] at HV
          by_cases h2 : 200 ≤ s.line.length
          · have hF : Ln.fault s c = 4 := by unfold Ln.fault; rw [if_pos hq, if_neg hno, if_neg (by rw [hv]; simp), if_pos h2]
            have t2 : decide ((s.line.length : Int) ≥ 200) = true := by rw [decide_eq_true_eq]; omega
            rw [hF]
            clear hF hq hE h13 h10 hno hv
            go_enter Tryz.func54, Tryz.ntmps54
            go_wp2_with fail
            refine HV.out.mono ?_
            rintro e w' ⟨rfl, hw⟩
            subst hw
            go_wp2
            go_ret
            exact ⟨rfl, rfl⟩
          · have hF : Ln.fault s c = 0 := by unfold Ln.fault; rw [if_pos hq, if_neg hno, if_neg (by rw [hv]; simp), if_neg h2]
            have t2 : decide ((s.line.length : Int) ≥ 200) = false := by rw [decide_eq_false_iff_not]; omega
            rw [hF]
            clear hF hq hE h13 h10 hno hv
            go_enter Tryz.func54, Tryz.ntmps54
            go_wp2_with fail
            refine HV.out.mono ?_
            rintro e w' ⟨rfl, hw⟩
            subst hw
            go_wp2
            go_ret
            exact ⟨rfl, rfl⟩
  · have hF : Ln.fault s c = 2 := by unfold Ln.fault; rw [if_neg hq]
    rw [hF]
    by_cases h10 : c = 10
    · have t10 : ((c.toNat : Int) == 10) = true := by rw [h10]; rfl
      have hE : s.ending = false := by
        cases hh : s.ending
        · rfl
        · exact absurd (by rw [hh, h10]; rfl) hq
      rw [hE] at c1
      clear hF hq hE h10
      go_enter Tryz.func54, Tryz.ntmps54
      go_wp2
      go_ret
      exact ⟨rfl, rfl⟩
    · have t10 : ((c.toNat : Int) == 10) = false := byte_ne' h10
      have hE : s.ending = true := by
        cases hh : s.ending
        · exact absurd (by rw [hh]; exact (beq_eq_false_iff_ne.2 h10).symm) hq
        · rfl
      rw [hE] at c1
      clear hF hq hE h10
      go_enter Tryz.func54, Tryz.ntmps54
      go_wp2
      go_ret
      exact ⟨rfl, rfl⟩
end Go.Proofs.YtbcmlolaihnalacGreatDoor

/- One byte more for a reader of lines, walked. -/
namespace Go.Proofs.YtbcmlolaihnalacGreatDoor
open Go.RowKit

/-- what Feed answers, as a value -/
def Ln.fed (s : Ln.St) (c : UInt8) : Value := .tuple #[.string ⟨(Ln.text s c).toArray⟩, .bool (Ln.ends s c), .int .i64 ((Ln.next s c).code : Int)]
theorem Ln.fed_of {s s' : Ln.St} {c : UInt8} {t : List UInt8} {b : Bool} {k : Nat} (ht : Ln.text s c = t) (hb : Ln.ends s c = b) (hn : Ln.next s c = s') (hk : s'.code = k) : Ln.fed s c = .tuple #[.string ⟨t.toArray⟩, .bool b, .int .i64 (k : Int)] := by
  unfold Ln.fed; rw [ht, hb, hn, hk]
theorem keep_line {w : World} {S : Nat → Prop} {g : Nat} {s : Ln.St} (h : LineAt w S g s) (W : World) : LineAt w (orNew S W) g s := h.mono (fun _ _ e => Or.inl e)

theorem IsB.one_at (W : World) (c : UInt8) (t : Nat) (fr : Nat × Nat) {k : Nat} (hk : W.heap.size = k) : IsB (W.alloc (.cells #[.int .u8 (c.toNat : Int)] t fr)) (Option.some ⟨k, 0, Option.none⟩) 1 [c] := hk ▸ IsB.one W c t fr
/-- a block stays by an append to another one -/
theorem kept_row {W w3 : World} {g : Nat} {row : Obj} {r : Option Nat} (hg : W.heap[g]? = some row) (ob : Obj) (hG : (W.alloc ob).grownBy w3 r) (hr : some g ≠ r) : w3.heap[g]? = some row := by
  have hlt : g < W.heap.size := (Array.getElem?_eq_some_iff.1 hg).1
  have := hG.block g (by simp; omega) hr
  rw [this, (World.grownBy_alloc W ob none).block g hlt (by simp)]; exact hg

/-- a code is told again -/
theorem feed_again (w : World) (S : Nat → Prop) (g : Nat) (s : Ln.St) (c : UInt8) (h : LineAt w S g s) (hc : s.code ≠ 0) :
    Calls Tryz.prog 36 #[.pointer (some ⟨g, 0, none⟩), .int .u8 c.toNat] w fun e w' => e = .returned (Ln.fed s c) ∧ LineAt w' (orNew S w) g (Ln.next s c) ∧ Turns S w w' := by
  have HA := Ln.again c hc
  rw [Ln.fed_of HA.2.1 HA.2.2 HA.1 rfl, HA.1]
  clear HA
  have HS := Hid.mk' h
  obtain ⟨ao, cap, hg, _⟩ := h
  have c2 : w.cell? ⟨g, 2, none⟩ = some (.int .i64 (s.code : Int)) := cell_of_row w g 2 _ _ _ hg
  have t0 : ((s.code : Int) == 0) = false := by rw [beq_eq_false_iff_ne]; omega
  have t1 : ((s.code : Int) != 0) = true := by rw [bne_iff_ne]; omega
  clear hg hc
  go_enter Tryz.func36, Tryz.ntmps36
  go_wp2
  go_quiet (fail)
  go_wp2
  go_ret3
  exact ⟨rfl, keep_line (HS.out.drewN _) w, Turns.drewN _ _ _⟩

/-- a code -/
theorem feed_code (w : World) (S : Nat → Prop) (g : Nat) (s : Ln.St) (c : UInt8) (k : Nat) (h : LineAt w S g s) (hc : s.code = 0) (hf : Ln.fault s c = k) (hk : k ≠ 0) :
    Calls Tryz.prog 36 #[.pointer (some ⟨g, 0, none⟩), .int .u8 c.toNat] w fun e w' => e = .returned (Ln.fed s c) ∧ LineAt w' (orNew S w) g (Ln.next s c) ∧ Turns S w w' := by
  have hn : Ln.next s c = { s with code := k } := by unfold Ln.next; rw [if_neg (by omega), hf, if_pos hk]
  rw [Ln.fed_of (t := []) (b := false) (by unfold Ln.text; rw [if_neg (fun e => hk (hf.symm.trans e.2.1))]) (by unfold Ln.ends; rw [decide_eq_false_iff_not]; exact fun e => hk (hf.symm.trans e.2.1)) hn rfl, hn]
  have HF := Hid.mk' (faultLines_any w S g s c h)
  rw [hf] at HF
  have HS := Hid.mk' (h.code k)
  obtain ⟨ao, cap, hg, _⟩ := h
  have c2 : w.cell? ⟨g, 2, none⟩ = some (.int .i64 0) := by
    rw [cell_of_row w g 2 _ _ _ hg]; simp [hc]
  have f2 : w.frozen? ⟨g, 2, none⟩ = false := frozen_of_row w g 2 _ _ hg
  have t1 : ((k : Int) != 0) = true := by rw [bne_iff_ne]; omega
  clear hg hc hf hn hk
  go_enter Tryz.func36, Tryz.ntmps36
  go_wp2_with fail
  refine HF.out.mono ?_
  rintro e w1 ⟨rfl, hw⟩
  subst hw
  go_wp2
  go_quiet (fail)
  go_wp2
  go_ret3
  exact ⟨rfl, keep_line (HS.out.1.drewN _) _, HS.out.2.trans (Turns.drewN S _ _) (fun _ e _ => e)⟩

/-- a line's end -/
theorem feed_end (w : World) (S : Nat → Prop) (g : Nat) (s : Ln.St) (h : LineAt w S g s) (hc : s.code = 0) (hf : Ln.fault s 10 = 0) :
    Calls Tryz.prog 36 #[.pointer (some ⟨g, 0, none⟩), .int .u8 10] w fun e w' => e = .returned (Ln.fed s 10) ∧ LineAt w' (orNew S w) g (Ln.next s 10) ∧ Turns S w w' := by
  have hn : Ln.next s 10 = ⟨[], false, 0⟩ := by unfold Ln.next; rw [if_neg (by omega), hf]; rfl
  rw [Ln.fed_of (t := s.line) (b := true) (by unfold Ln.text; rw [if_pos ⟨hc, hf, rfl⟩]) (by unfold Ln.ends; rw [decide_eq_true_eq]; exact ⟨hc, hf, rfl⟩) hn rfl, hn]
  have HF := Hid.mk' (faultLines_any w S g s 10 h)
  rw [hf] at HF
  have HS := Hid.mk' (h.code 0)
  have HS2 := Hid.mk' (HS.out.1.drop)
  have HS3 := Hid.mk' (HS2.out.1.ends false)
  obtain ⟨ao, cap, hg, ho, _⟩ := h
  have c0 : w.cell? ⟨g, 0, none⟩ = some (.slice ao s.line.length cap) := cell_of_row w g 0 _ _ _ hg
  have c1 : w.cell? ⟨g, 1, none⟩ = some (.bool s.ending) := cell_of_row w g 1 _ _ _ hg
  have c2 : w.cell? ⟨g, 2, none⟩ = some (.int .i64 0) := by
    rw [cell_of_row w g 2 _ _ _ hg]; simp [hc]
  have f0 : w.frozen? ⟨g, 0, none⟩ = false := frozen_of_row w g 0 _ _ hg
  have f1 : w.frozen? ⟨g, 1, none⟩ = false := frozen_of_row w g 1 _ _ hg
  have f2 : w.frozen? ⟨g, 2, none⟩ = false := frozen_of_row w g 2 _ _ hg
  have hq := (ho.isB.turns (w' := w.setCell ⟨g, 2, none⟩ (.int .i64 0)) (Turns.setCell (fun i => i = g) w _ _ rfl) (fun a e => by
    have := row_ne hg ho (by decide)
    rw [ownBlock_slice, e] at this
    intro e2; exact this (by simp [blockOf, e2]))).str (P := Tryz.prog) 22 9 5 Tryz.underlying22 Tryz.underlying5 Tryz.underlying9
  generalize (⟨s.line.toArray⟩ : ByteArray) = bs at hq ⊢
  clear hg ho hc hf hn
  go_enter Tryz.func36, Tryz.ntmps36
  go_wp2_with fail
  refine HF.out.mono ?_
  rintro e w1 ⟨rfl, hw⟩
  subst hw
  go_wp2
  go_ret3
  exact ⟨rfl, keep_line HS3.out.1 _, HS.out.2.trans (HS2.out.2.trans HS3.out.2 (fun _ e _ => e)) (fun _ e _ => e)⟩

/-- a CR -/
theorem feed_cr (w : World) (S : Nat → Prop) (g : Nat) (s : Ln.St) (h : LineAt w S g s) (hc : s.code = 0) (hf : Ln.fault s 13 = 0) :
    Calls Tryz.prog 36 #[.pointer (some ⟨g, 0, none⟩), .int .u8 13] w fun e w' => e = .returned (Ln.fed s 13) ∧ LineAt w' (orNew S w) g (Ln.next s 13) ∧ Turns S w w' := by
  have hn : Ln.next s 13 = ⟨s.line, true, 0⟩ := by unfold Ln.next; rw [if_neg (by omega), hf, hc]; rfl
  rw [Ln.fed_of (t := []) (b := false) (by unfold Ln.text; rw [if_neg (fun e => by cases e.2.2)]) (by unfold Ln.ends; rw [decide_eq_false_iff_not]; exact fun e => by cases e.2.2) hn rfl, hn]
  have HF := Hid.mk' (faultLines_any w S g s 13 h)
  rw [hf] at HF
  have HS := Hid.mk' (h.code 0)
  have HS3 := Hid.mk' (HS.out.1.ends true)
  obtain ⟨ao, cap, hg, ho, _⟩ := h
  have c1 : w.cell? ⟨g, 1, none⟩ = some (.bool s.ending) := cell_of_row w g 1 _ _ _ hg
  have c2 : w.cell? ⟨g, 2, none⟩ = some (.int .i64 0) := by
    rw [cell_of_row w g 2 _ _ _ hg]; simp [hc]
  have f1 : w.frozen? ⟨g, 1, none⟩ = false := frozen_of_row w g 1 _ _ hg
  have f2 : w.frozen? ⟨g, 2, none⟩ = false := frozen_of_row w g 2 _ _ hg
  clear hg ho hc hf hn
  go_enter Tryz.func36, Tryz.ntmps36
  go_wp2_with fail
  refine HF.out.mono ?_
  rintro e w1 ⟨rfl, hw⟩
  subst hw
  go_wp2
  go_ret3
  exact ⟨rfl, keep_line HS3.out.1 _, HS.out.2.trans HS3.out.2 (fun _ e _ => e)⟩

set_option maxHeartbeats 800000 in
/-- a byte of a line -/
theorem feed_byte (w : World) (S : Nat → Prop) (g : Nat) (s : Ln.St) (c : UInt8) (h : LineAt w S g s) (hs : s.line.length ≤ 200) (hc : s.code = 0) (hf : Ln.fault s c = 0) (h10 : c ≠ 10) (h13 : c ≠ 13) :
    Calls Tryz.prog 36 #[.pointer (some ⟨g, 0, none⟩), .int .u8 c.toNat] w fun e w' => e = .returned (Ln.fed s c) ∧ LineAt w' (orNew S w) g (Ln.next s c) ∧ Turns S w w' := by
  have hn : Ln.next s c = ⟨s.line ++ [c], s.ending, 0⟩ := by unfold Ln.next; rw [if_neg (by omega), hf, if_neg (by omega), if_neg h10, if_neg h13, hc]
  rw [Ln.fed_of (t := []) (b := false) (by unfold Ln.text; rw [if_neg (fun e => h10 e.2.2)]) (by unfold Ln.ends; rw [decide_eq_false_iff_not]; exact fun e => h10 e.2.2) hn rfl, hn]
  have HF := Hid.mk' (faultLines_any w S g s c h)
  rw [hf] at HF
  have t10 : ((c.toNat : Int) == 10) = false := byte_ne' h10
  have t13 : ((c.toNat : Int) == 13) = false := byte_ne' h13
  have HS := Hid.mk' (h.code 0)
  obtain ⟨ao, cap, hg, ho, h1, h2⟩ := h
  obtain ⟨i0, hi0, hz0, hz1, hz2⟩ := info_parts info_u8
  have Hi := Hid.mk' hi0; have Hz0 := Hid.mk' hz0; have Hz1 := Hid.mk' hz1; have Hz2 := Hid.mk' hz2
  have hne : ∀ a, ao = some a → a.block ≠ g := fun a e e2 => by
    have := row_ne hg ho (by decide)
    rw [ownBlock_slice, e] at this
    exact this (by simp [blockOf, e2])
  have c0 : w.cell? ⟨g, 0, none⟩ = some (.slice ao s.line.length cap) := cell_of_row w g 0 _ _ _ hg
  have c2 : w.cell? ⟨g, 2, none⟩ = some (.int .i64 0) := by
    rw [cell_of_row w g 2 _ _ _ hg]; simp [hc]
  have f0 : w.frozen? ⟨g, 0, none⟩ = false := frozen_of_row w g 0 _ _ hg
  have f2 : w.frozen? ⟨g, 2, none⟩ = false := frozen_of_row w g 2 _ _ hg
  have HO := Hid.mk' (ho.turns (w' := w.setCell ⟨g, 2, none⟩ (.int .i64 0)) (Turns.setCell (fun i => i = g) w _ _ rfl) (fun a e => hne a e))
  have HG : Hid ((w.setCell ⟨g, 2, none⟩ (.int .i64 0)).heap[g]? = some (.cells #[.slice ao s.line.length cap, .bool s.ending, .int .i64 (0 : Int)] 79 (0, 0))) := by
    show _ = _
    rw [heap_setCell_same w g 2 _ _ _ hg]; rfl
  have hlt : g < w.heap.size := (Array.getElem?_eq_some_iff.1 hg).1
  clear hg ho hf hn hi0 hz0 hz1 hz2 h10 h13
  go_enter Tryz.func36, Tryz.ntmps36
  go_wp2_with fail
  refine HF.out.mono ?_
  rintro e w1 ⟨rfl, hw⟩
  subst hw
  have HN : some g ≠ blockOf ao := by
    cases ao with
    | none => simp [blockOf]
    | some a => intro e; injection e with e; exact hne a rfl e.symm
  go_wp2_with (at_builtin; refine wpList_append_at rfl (.tmp 23) (.tmp 25) 22 rfl 0 5 i0 Tryz.underlying22 Hi.out Hz0.out Hz1.out Hz2.out (l := s.line) (l2 := [c]) rfl rfl (HO.out.alloc _) rfl rfl (IsB.one_at _ _ _ _ (by simp)) (by simp; omega) (Nat.zero_le _) ?_; intro ao3 cap3 w3 hO3 hG3 hat3; have h3 := kept_row HG.out _ hG3 HN; have c3 : w3.cell? ⟨g, 0, none⟩ = some (.slice ao s.line.length cap) := cell_of_row w3 g 0 _ _ _ h3; have f3 : w3.frozen? ⟨g, 0, none⟩ = false := frozen_of_row w3 g 0 _ _ h3; have HO3 := Hid.mk' hO3; have HG3 := Hid.mk' hG3; have HA3 := Hid.mk' hat3; clear hO3 hG3 hat3 h3)
  go_ret3
  have hz : (w1.setCell ⟨g, 2, none⟩ (.int .i64 0)).heap.size = w1.heap.size := by simp
  have hT : Turns (fun k => S k ∧ k ≠ g) (w1.setCell ⟨g, 2, none⟩ (.int .i64 0)) w3 :=
    (Turns.of_grown (World.grownBy_alloc _ _ none) (fun k e => by cases e)).trans (Turns.of_grown HG3.out (S := fun k => S k ∧ k ≠ g) (fun k e => by
      cases ao with
      | none => cases e
      | some a => injection e with e; subst e; exact ⟨h2 a rfl, hne a rfl⟩)) (fun _ e _ => e)
  have hA : ∀ a, ao3 = some a → orNew S (w1.setCell ⟨g, 2, none⟩ (.int .i64 0)) a.block := by
    intro a e
    subst e
    rcases HA3.out with e | e
    · cases ao with
      | none => cases e
      | some a' => injection e with e; rw [e]; exact Or.inl (h2 a' rfl)
    · injection e with e; rw [e]; exact Or.inr (by simp)
  have hL := LineAt.grow (s := ⟨s.line, s.ending, 0⟩) HG.out h1 HO3.out hT hA (s.line.length + 1) (by simp)
  refine ⟨rfl, hL.1.mono (fun k _ e => ?_), HS.out.2.trans hL.2 (fun _ e _ => e)⟩
  rcases e with e | e
  · exact Or.inl e
  · exact Or.inr (by omega)
/-- one byte more -/
theorem feedLines_any (w : World) (S : Nat → Prop) (g : Nat) (s : Ln.St) (c : UInt8) (h : LineAt w S g s) (hs : s.line.length ≤ 200) :
    Calls Tryz.prog 36 #[.pointer (some ⟨g, 0, none⟩), .int .u8 c.toNat] w fun e w' => e = .returned (Ln.fed s c) ∧ LineAt w' (orNew S w) g (Ln.next s c) ∧ Turns S w w' := by
  by_cases hc : s.code = 0
  · by_cases hf : Ln.fault s c = 0
    · by_cases h10 : c = 10
      · subst h10; exact feed_end w S g s h hc hf
      · by_cases h13 : c = 13
        · subst h13; exact feed_cr w S g s h hc hf
        · exact feed_byte w S g s c h hs hc hf h10 h13
    · exact feed_code w S g s c _ h hc rfl hf
  · exact feed_again w S g s c h hc
end Go.Proofs.YtbcmlolaihnalacGreatDoor

/- Plain laws of lines: the line at the beginning of bytes is told by its own bytes alone; a reader that is fed them. -/
namespace Go.Proofs.YtbcmlolaihnalacGreatDoor.Ln

theorem go_size (l : List UInt8) : ∀ (t : List UInt8) (i : Nat), (go l i t).size = 0 ∨ i < (go l i t).size
  | [], i => Or.inl rfl
  | c :: t, i => by
    unfold go
    split
    · split
      · exact Or.inl rfl
      · split
        · right; show i < i + 2; omega
        · right; show i < i + 2; omega
    · split
      · right; show i < i + 1; omega
      · split
        · right; show i < i + 1; omega
        · split
          · right; show i < i + 1; omega
          · rcases go_size l t (i + 1) with h | h
            · exact Or.inl h
            · right; omega
theorem go_le (l : List UInt8) : ∀ (d i : Nat), l.length - i = d → i ≤ l.length → (go l i (l.drop i)).size ≤ l.length := by
  intro d
  induction d with
  | zero =>
    intro i hd hi
    rw [go_end l i (by omega)]
    exact Nat.zero_le _
  | succ d ih =>
    intro i hd hi
    have hlt : i < l.length := by omega
    rw [go_at l i hlt]
    split
    · split
      · split
        · show i + 2 ≤ _; omega
        · show i + 2 ≤ _; omega
      · exact Nat.zero_le _
    · split
      · show i + 1 ≤ _; omega
      · split
        · show i + 1 ≤ _; omega
        · split
          · show i + 1 ≤ _; omega
          · exact ih (i + 1) (by omega) (by omega)
theorem of_le (l : List UInt8) : (of l).size ≤ l.length := go_le l _ 0 rfl (Nat.zero_le _)
/-- its beginning tells it, or nothing yet -/
theorem go_take (l : List UInt8) (k : Nat) (hk : k ≤ l.length) : ∀ (d i : Nat), l.length - i = d → i ≤ k →
    go (l.take k) i ((l.take k).drop i) = if 0 < (go l i (l.drop i)).size ∧ (go l i (l.drop i)).size ≤ k then go l i (l.drop i) else open_ := by
  intro d
  induction d with
  | zero =>
    intro i hd hi
    rw [go_end l i (by omega), go_end (l.take k) i (by rw [List.length_take]; omega), if_neg (fun h => by have := h.1; simp [open_] at this)]
  | succ d ih =>
    intro i hd hi
    have hlt : i < l.length := by omega
    by_cases hik : i = k
    · subst hik
      rw [go_end (l.take i) i (by rw [List.length_take]; omega)]
      rw [if_neg]
      rintro ⟨h1, h2⟩
      rcases go_size l (l.drop i) i with h | h <;> omega
    · have hlk : (l.take k).length = k := by rw [List.length_take]; omega
      have hi2 : i < (l.take k).length := by omega
      have e0 : (l.take k)[i] = l[i] := by simp
      have et : (l.take k).take i = l.take i := by rw [List.take_take, Nat.min_eq_left (by omega)]
      rw [go_at (l.take k) i hi2, go_at l i hlt, e0]
      by_cases h13 : l[i] = 13
      · rw [if_pos h13, if_pos h13]
        by_cases h2 : i + 1 < k
        · have h2l : i + 1 < (l.take k).length := by omega
          have h2l' : i + 1 < l.length := by omega
          have e1 : (l.take k)[i + 1] = l[i + 1] := by simp
          rw [dif_pos h2l, dif_pos h2l', e1, et]
          by_cases h10 : l[i + 1] = 10
          · rw [if_pos h10, if_pos ⟨by show 0 < i + 2; omega, by show i + 2 ≤ k; omega⟩]
          · rw [if_neg h10, if_pos ⟨by show 0 < i + 2; omega, by show i + 2 ≤ k; omega⟩]
        · rw [dif_neg (show ¬ i + 1 < (l.take k).length by omega)]
          by_cases h2l' : i + 1 < l.length
          · rw [dif_pos h2l']
            by_cases h10 : l[i + 1] = 10
            · rw [if_pos h10, if_neg (fun h => by have : i + 2 ≤ k := h.2; omega)]
            · rw [if_neg h10, if_neg (fun h => by have : i + 2 ≤ k := h.2; omega)]
          · rw [dif_neg h2l', if_neg (fun h => by have := h.1; simp [open_] at this)]
      · rw [if_neg h13, if_neg h13]
        by_cases h10 : l[i] = 10
        · rw [if_pos h10, if_pos h10, if_pos ⟨by show 0 < i + 1; omega, by show i + 1 ≤ k; omega⟩]
        · rw [if_neg h10, if_neg h10]
          by_cases hv : Ch.visible l[i].toNat = false
          · rw [if_pos hv, if_pos hv, if_pos ⟨by show 0 < i + 1; omega, by show i + 1 ≤ k; omega⟩]
          · rw [if_neg hv, if_neg hv]
            by_cases h2 : i = 200
            · rw [if_pos h2, if_pos h2, if_pos ⟨by show 0 < i + 1; omega, by show i + 1 ≤ k; omega⟩]
            · rw [if_neg h2, if_neg h2]
              exact ih (i + 1) (by omega) (by omega)
theorem of_take (l : List UInt8) (k : Nat) (hk : k ≤ l.length) : of (l.take k) = if 0 < (of l).size ∧ (of l).size ≤ k then of l else open_ := go_take l k hk _ 0 rfl (Nat.zero_le _)
/-- a reader that was fed bytes -/
def fold (s : St) (l : List UInt8) : St := l.foldl next s
theorem fold_snoc (s : St) (l : List UInt8) (c : UInt8) : fold s (l ++ [c]) = next (fold s l) c := by simp [fold]
theorem fold_came (l : List UInt8) : ∀ j, j ≤ l.length → ((of l).size = 0 ∨ j < (of l).size) → Good (fold start (l.take j)) ∧ (fold start (l.take j)).code = 0 ∧ came (fold start (l.take j)) = l.take j
  | 0, _, _ => ⟨Good.start, rfl, rfl⟩
  | j + 1, hj, hs => by
    obtain ⟨hg, hc, hcm⟩ := fold_came l j (by omega) (by omega)
    have hlt : j < l.length := by omega
    have e : l.take (j + 1) = l.take j ++ [l[j]] := List.take_succ_eq_append_getElem hlt
    have hoc := of_came hg hc l[j]
    rw [hcm, ← e, of_take l (j + 1) hj, if_neg (by omega)] at hoc
    obtain ⟨_, h2, h3, _⟩ := hoc
    have hE : ends (fold start (l.take j)) l[j] = false := h2.symm
    have hC : (next (fold start (l.take j)) l[j]).code = 0 := h3.symm
    rw [e, fold_snoc]
    refine ⟨next_good hg, hC, ?_⟩
    rw [came_next hc hC, hE, hcm]
    rfl
/-- a byte that ends nothing, and one that ends the line or tells a code -/
theorem fold_quiet (l : List UInt8) (j : Nat) (hj : j < l.length) (hs : (of l).size = 0 ∨ j + 1 < (of l).size) : ends (fold start (l.take j)) l[j] = false ∧ (next (fold start (l.take j)) l[j]).code = 0 := by
  obtain ⟨hg, hc, hcm⟩ := fold_came l j (by omega) (by omega)
  have e : l.take (j + 1) = l.take j ++ [l[j]] := List.take_succ_eq_append_getElem hj
  have hoc := of_came hg hc l[j]
  rw [hcm, ← e, of_take l (j + 1) (by omega), if_neg (by omega)] at hoc
  exact ⟨hoc.2.1.symm, hoc.2.2.1.symm⟩
theorem fold_last (l : List UInt8) (j : Nat) (hj : j < l.length) (hs : j + 1 = (of l).size) : ends (fold start (l.take j)) l[j] = (of l).ended ∧ (next (fold start (l.take j)) l[j]).code = (of l).code ∧ text (fold start (l.take j)) l[j] = (of l).text := by
  obtain ⟨hg, hc, hcm⟩ := fold_came l j (by omega) (by omega)
  have e : l.take (j + 1) = l.take j ++ [l[j]] := List.take_succ_eq_append_getElem hj
  have hoc := of_came hg hc l[j]
  rw [hcm, ← e, of_take l (j + 1) (by omega), if_pos (by omega)] at hoc
  exact ⟨hoc.2.1.symm, hoc.2.2.1.symm, hoc.1.symm⟩
theorem go_kind (l : List UInt8) : ∀ (t : List UInt8) (i : Nat), (go l i t).size = 0 ∨ ((go l i t).code = 0 ∧ (go l i t).ended = true) ∨ ((go l i t).code ≠ 0 ∧ (go l i t).ended = false)
  | [], i => Or.inl rfl
  | c :: t, i => by
    unfold go
    split
    · split
      · exact Or.inl rfl
      · split
        · exact Or.inr (Or.inl ⟨rfl, rfl⟩)
        · exact Or.inr (Or.inr ⟨by show 2 ≠ 0; omega, rfl⟩)
    · split
      · exact Or.inr (Or.inr ⟨by show 2 ≠ 0; omega, rfl⟩)
      · split
        · exact Or.inr (Or.inr ⟨by show 3 ≠ 0; omega, rfl⟩)
        · split
          · exact Or.inr (Or.inr ⟨by show 4 ≠ 0; omega, rfl⟩)
          · exact go_kind l t (i + 1)
theorem of_kind (l : List UInt8) : (of l).size = 0 ∨ ((of l).code = 0 ∧ (of l).ended = true) ∨ ((of l).code ≠ 0 ∧ (of l).ended = false) := go_kind l l 0
theorem go_open (l : List UInt8) : ∀ (t : List UInt8) (i : Nat), (go l i t).size = 0 → go l i t = open_
  | [], i, _ => rfl
  | c :: t, i, h => by
    unfold go at h ⊢
    split at h
    · rename_i h13
      rw [if_pos h13]
      split at h
      · rfl
      · split at h
        · exact absurd (show i + 2 = 0 from h) (by omega)
        · exact absurd (show i + 2 = 0 from h) (by omega)
    · rename_i h13
      rw [if_neg h13]
      split at h
      · exact absurd (show i + 1 = 0 from h) (by omega)
      · rename_i h10
        rw [if_neg h10]
        split at h
        · exact absurd (show i + 1 = 0 from h) (by omega)
        · rename_i hv
          rw [if_neg hv]
          split at h
          · exact absurd (show i + 1 = 0 from h) (by omega)
          · rename_i h2
            rw [if_neg h2]
            exact go_open l t (i + 1) h
theorem of_open (l : List UInt8) (h : (of l).size = 0) : of l = open_ := go_open l l 0 h
end Go.Proofs.YtbcmlolaihnalacGreatDoor.Ln
