/- A reader of lines as it lies in memory; New, Begun, fault walked. -/
import Derived.Test.YtemgjebgncmglaaFoot
import Derived.Test.YtemgjebgncmglaaPlainN
import Derived.Test.YtemgjebgncmglaaCsVis
import Derived.Test.YtemgjebgncmglaaBtInfo
namespace Go.Proofs.Ytemgjebgncmglaa
open Go.RowKit

/-- block g is a reader of lines that keeps s; it and all its memory are among the blocks S -/
def LineAt (w : World) (S : Nat → Prop) (g : Nat) (s : Ln.St) : Prop :=
  ∃ ao cap, w.heap[g]? = some (.cells #[.slice ao s.line.length cap, .bool s.ending, .int .i64 (s.code : Int)] 49 (0, 0)) ∧
    OwnB w 0 5 ao cap s.line ∧ S g ∧ ∀ a, ao = some a → S a.block
theorem LineAt.lt {w : World} {S : Nat → Prop} {g : Nat} {s : Ln.St} (h : LineAt w S g s) : g < w.heap.size := by
  obtain ⟨_, _, hg, _⟩ := h; exact (Array.getElem?_eq_some_iff.1 hg).1
theorem LineAt.mono {w : World} {S S' : Nat → Prop} {g : Nat} {s : Ln.St} (h : LineAt w S g s) (hs : ∀ k, k < w.heap.size → S k → S' k) : LineAt w S' g s := by
  obtain ⟨ao, cap, hg, ho, h1, h2⟩ := h
  exact ⟨ao, cap, hg, ho, hs g (Array.getElem?_eq_some_iff.1 hg).1 h1, fun a e => hs _ (ho.block a e).2 (h2 a e)⟩
/-- it stays while none of its blocks turns -/
theorem LineAt.turns {w w' : World} {S S' : Nat → Prop} {g : Nat} {s : Ln.St} (h : LineAt w S g s) (ht : Turns S' w w') (hs : ∀ k, S k → ¬ S' k) : LineAt w' S g s := by
  obtain ⟨ao, cap, hg, ho, h1, h2⟩ := h
  exact ⟨ao, cap, ht.row hg (hs g h1), ho.turns ht (fun a e => hs _ (h2 a e)), h1, h2⟩
theorem LineAt.drewN {w : World} {S : Nat → Prop} {g : Nat} {s : Ln.St} (h : LineAt w S g s) (n : Nat) : LineAt (w.drewN n) S g s := h.turns (Turns.drewN (fun _ => False) w n) (fun _ _ e => e)
/-- stores into it -/
theorem LineAt.code {w : World} {S : Nat → Prop} {g : Nat} {s : Ln.St} (h : LineAt w S g s) (k : Nat) : LineAt (w.setCell ⟨g, 2, none⟩ (.int .i64 (k : Int))) S g { s with code := k } ∧ Turns S w (w.setCell ⟨g, 2, none⟩ (.int .i64 (k : Int))) := by
  obtain ⟨ao, cap, hg, ho, h1, h2⟩ := h
  refine ⟨⟨ao, cap, ?_, ho.turns (Turns.setCell (fun i => i = g) w _ _ rfl) ?_, h1, h2⟩, Turns.setCell S w _ _ h1⟩
  · rw [heap_setCell_same w g 2 _ _ _ hg]; rfl
  · intro a e
    have := row_ne hg ho (by decide)
    rw [ownBlock_slice, e] at this
    intro e2; exact this (by simp [blockOf, e2])
theorem LineAt.ends {w : World} {S : Nat → Prop} {g : Nat} {s : Ln.St} (h : LineAt w S g s) (b : Bool) : LineAt (w.setCell ⟨g, 1, none⟩ (.bool b)) S g { s with ending := b } ∧ Turns S w (w.setCell ⟨g, 1, none⟩ (.bool b)) := by
  obtain ⟨ao, cap, hg, ho, h1, h2⟩ := h
  refine ⟨⟨ao, cap, ?_, ho.turns (Turns.setCell (fun i => i = g) w _ _ rfl) ?_, h1, h2⟩, Turns.setCell S w _ _ h1⟩
  · rw [heap_setCell_same w g 1 _ _ _ hg]; rfl
  · intro a e
    have := row_ne hg ho (by decide)
    rw [ownBlock_slice, e] at this
    intro e2; exact this (by simp [blockOf, e2])
theorem LineAt.drop {w : World} {S : Nat → Prop} {g : Nat} {s : Ln.St} (h : LineAt w S g s) : LineAt (w.setCell ⟨g, 0, none⟩ (.slice none 0 0)) S g { s with line := [] } ∧ Turns S w (w.setCell ⟨g, 0, none⟩ (.slice none 0 0)) := by
  obtain ⟨ao, cap, hg, ho, h1, h2⟩ := h
  refine ⟨⟨none, 0, ?_, OwnB.nil _ _ _, h1, fun a e => by cases e⟩, Turns.setCell S w _ _ h1⟩
  rw [heap_setCell_same w g 0 _ _ _ hg]; rfl
/-- a line that grew is laid into it -/
theorem LineAt.grow {w w1 : World} {S : Nat → Prop} {g : Nat} {s : Ln.St} {l : List UInt8} {ao : Option Addr} {cap : Nat} {ao' : Option Addr} {cap' : Nat} (hg : w.heap[g]? = some (.cells #[.slice ao s.line.length cap, .bool s.ending, .int .i64 (s.code : Int)] 49 (0, 0))) (h1 : S g) (ho : OwnB w1 0 5 ao' cap' l) (ht : Turns (fun k => S k ∧ k ≠ g) w w1) (ha : ∀ a, ao' = some a → orNew S w a.block) (n : Nat) (hn : n = l.length) :
    LineAt (w1.setCell ⟨g, 0, none⟩ (.slice ao' n cap')) (orNew S w) g { s with line := l } ∧ Turns S w (w1.setCell ⟨g, 0, none⟩ (.slice ao' n cap')) := by
  subst hn
  have hg1 := ht.row hg (fun e => e.2 rfl)
  refine ⟨⟨ao', cap', ?_, ho.turns (Turns.setCell (fun i => i = g) w1 _ _ rfl) ?_, Or.inl h1, ha⟩, (ht.mono (fun k e => e.1)).trans (Turns.setCell S w1 _ _ h1) (fun i e _ => e)⟩
  · rw [heap_setCell_same w1 g 0 _ _ _ hg1]; rfl
  · intro a e
    have := row_ne hg1 ho (by decide)
    rw [ownBlock_slice, e] at this
    intro e2; exact this (by simp [blockOf, e2])

theorem newLines_any (w : World) :
    Calls Try.prog 16 #[] w fun e w' => e = .returned (.pointer (some ⟨w.heap.size, 0, none⟩)) ∧ LineAt w' (fun k => w.heap.size ≤ k) w.heap.size Ln.start ∧ Below w.heap.size w w' := by
  go_enter Try.func16, Try.ntmps16
  go_wp2
  go_ret
  exact ⟨rfl, ⟨none, 0, heap_alloc_new w _, OwnB.nil _ _ _, Nat.le_refl _, fun a e => by cases e⟩, (Below.refl _ _).alloc (Nat.le_refl _) _⟩

theorem begunLines_any (w : World) (S : Nat → Prop) (g : Nat) (s : Ln.St) (h : LineAt w S g s) :
    Calls Try.prog 19 #[.pointer (some ⟨g, 0, none⟩)] w fun e w' => e = .returned (.bool (Ln.begun s)) ∧ w' = w := by
  obtain ⟨ao, cap, hg, _⟩ := h
  have c0 : w.cell? ⟨g, 0, none⟩ = some (.slice ao s.line.length cap) := cell_of_row w g 0 _ _ _ hg
  have c1 : w.cell? ⟨g, 1, none⟩ = some (.bool s.ending) := cell_of_row w g 1 _ _ _ hg
  clear hg
  unfold Ln.begun
  generalize s.ending = b at c1 ⊢
  cases b
  · go_enter Try.func19, Try.ntmps19
    go_wp2
    go_ret
    exact ⟨ret_bool (by simp), rfl⟩
  · go_enter Try.func19, Try.ntmps19
    go_wp2
    go_ret
    exact ⟨ret_bool (by simp), rfl⟩

set_option maxHeartbeats 800000 in
theorem faultLines_any (w : World) (S : Nat → Prop) (g : Nat) (s : Ln.St) (c : UInt8) (h : LineAt w S g s) :
    Calls Try.prog 23 #[.pointer (some ⟨g, 0, none⟩), .int .u8 c.toNat] w fun e w' => e = .returned (.int .i64 (Ln.fault s c : Int)) ∧ w' = w := by
  obtain ⟨ao, cap, hg, _⟩ := h
  have c0 : w.cell? ⟨g, 0, none⟩ = some (.slice ao s.line.length cap) := cell_of_row w g 0 _ _ _ hg
  have c1 : w.cell? ⟨g, 1, none⟩ = some (.bool s.ending) := cell_of_row w g 1 _ _ _ hg
  clear hg
  have HV := Hid.mk' (visible_any (c.toNat : Int) w)
  by_cases hq : s.ending = (c == 10)
  · by_cases h13 : c = 13
    · have t13 : ((c.toNat : Int) == 13) = true := by rw [h13]; rfl
      have t10 : ((c.toNat : Int) == 10) = false := by rw [h13]; rfl
      have hF : Ln.fault s c = 0 := by unfold Ln.fault; rw [if_pos hq, if_pos (Or.inl h13)]
      have hE : s.ending = false := by rw [hq, h13]; rfl
      rw [hF]; rw [hE] at c1
      clear hF hq hE h13
      go_enter Try.func23, Try.ntmps23
      go_wp2
      go_ret
      exact ⟨rfl, rfl⟩
    · have t13 : ((c.toNat : Int) == 13) = false := byte_ne' h13
      by_cases h10 : c = 10
      · have t10 : ((c.toNat : Int) == 10) = true := by rw [h10]; rfl
        have hF : Ln.fault s c = 0 := by unfold Ln.fault; rw [if_pos hq, if_pos (Or.inr h10)]
        have hE : s.ending = true := by rw [hq, h10]; rfl
        rw [hF]; rw [hE] at c1
        clear hF hq hE h13 h10
        go_enter Try.func23, Try.ntmps23
        go_wp2
        go_ret
        exact ⟨rfl, rfl⟩
      · have t10 : ((c.toNat : Int) == 10) = false := byte_ne' h10
        have hE : s.ending = false := by rw [hq]; exact beq_eq_false_iff_ne.2 h10
        have hno : ¬ (c = 13 ∨ c = 10) := by rintro (e | e) <;> contradiction
        rw [hE] at c1
        cases hv : Ch.visible (c.toNat : Int)
        · have hF : Ln.fault s c = 3 := by unfold Ln.fault; rw [if_pos hq, if_neg hno, if_pos hv]
          rw [hv] at HV
          rw [hF]
          clear hF hq hE h13 h10 hno hv
          go_enter Try.func23, Try.ntmps23
          go_wp2_with fail
          refine HV.out.mono ?_
          rintro e w' ⟨rfl, hw⟩
          subst hw
          go_wp2
          go_ret
          exact ⟨rfl, rfl⟩
        · rw [hv] at HV
          by_cases h2 : 200 ≤ s.line.length
          · have hF : Ln.fault s c = 4 := by unfold Ln.fault; rw [if_pos hq, if_neg hno, if_neg (by rw [hv]; simp), if_pos h2]
            have t2 : decide ((s.line.length : Int) ≥ 200) = true := by rw [decide_eq_true_eq]; omega
            rw [hF]
            clear hF hq hE h13 h10 hno hv
            go_enter Try.func23, Try.ntmps23
            go_wp2_with fail
            refine HV.out.mono ?_
            rintro e w' ⟨rfl, hw⟩
            subst hw
            go_wp2
            go_ret
            exact ⟨rfl, rfl⟩
          · have hF : Ln.fault s c = 0 := by unfold Ln.fault; rw [if_pos hq, if_neg hno, if_neg (by rw [hv]; simp), if_neg h2]
            have t2 : decide ((s.line.length : Int) ≥ 200) = false := by rw [decide_eq_false_iff_not]; omega
            rw [hF]
            clear hF hq hE h13 h10 hno hv
            go_enter Try.func23, Try.ntmps23
            go_wp2_with fail
            refine HV.out.mono ?_
            rintro e w' ⟨rfl, hw⟩
            subst hw
            go_wp2
            go_ret
            exact ⟨rfl, rfl⟩
  · have hF : Ln.fault s c = 2 := by unfold Ln.fault; rw [if_neg hq]
    rw [hF]
    by_cases h10 : c = 10
    · have t10 : ((c.toNat : Int) == 10) = true := by rw [h10]; rfl
      have hE : s.ending = false := by
        cases hh : s.ending
        · rfl
        · exact absurd (by rw [hh, h10]; rfl) hq
      rw [hE] at c1
      clear hF hq hE h10
      go_enter Try.func23, Try.ntmps23
      go_wp2
      go_ret
      exact ⟨rfl, rfl⟩
    · have t10 : ((c.toNat : Int) == 10) = false := byte_ne' h10
      have hE : s.ending = true := by
        cases hh : s.ending
        · exact absurd (by rw [hh]; exact (beq_eq_false_iff_ne.2 h10).symm) hq
        · rfl
      rw [hE] at c1
      clear hF hq hE h10
      go_enter Try.func23, Try.ntmps23
      go_wp2
      go_ret
      exact ⟨rfl, rfl⟩
end Go.Proofs.Ytemgjebgncmglaa
