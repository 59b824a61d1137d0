/- One byte more for a reader of lines, walked. -/
import Derived.Test.YtemgjebgncmglaaLinA
namespace Go.Proofs.Ytemgjebgncmglaa
open Go.RowKit

/-- what Feed answers, as a value -/
def Ln.fed (s : Ln.St) (c : UInt8) : Value := .tuple #[.string ⟨(Ln.text s c).toArray⟩, .bool (Ln.ends s c), .int .i64 ((Ln.next s c).code : Int)]
theorem Ln.fed_of {s s' : Ln.St} {c : UInt8} {t : List UInt8} {b : Bool} {k : Nat} (ht : Ln.text s c = t) (hb : Ln.ends s c = b) (hn : Ln.next s c = s') (hk : s'.code = k) : Ln.fed s c = .tuple #[.string ⟨t.toArray⟩, .bool b, .int .i64 (k : Int)] := by
  unfold Ln.fed; rw [ht, hb, hn, hk]
theorem keep_line {w : World} {S : Nat → Prop} {g : Nat} {s : Ln.St} (h : LineAt w S g s) (W : World) : LineAt w (orNew S W) g s := h.mono (fun _ _ e => Or.inl e)

theorem IsB.one_at (W : World) (c : UInt8) (t : Nat) (fr : Nat × Nat) {k : Nat} (hk : W.heap.size = k) : IsB (W.alloc (.cells #[.int .u8 (c.toNat : Int)] t fr)) (Option.some ⟨k, 0, Option.none⟩) 1 [c] := hk ▸ IsB.one W c t fr
/-- a block stays by an append to another one -/
theorem kept_row {W w3 : World} {g : Nat} {row : Obj} {r : Option Nat} (hg : W.heap[g]? = some row) (ob : Obj) (hG : (W.alloc ob).grownBy w3 r) (hr : some g ≠ r) : w3.heap[g]? = some row := by
  have hlt : g < W.heap.size := (Array.getElem?_eq_some_iff.1 hg).1
  have := hG.block g (by simp; omega) hr
  rw [this, (World.grownBy_alloc W ob none).block g hlt (by simp)]; exact hg

/-- a code is told again -/
theorem feed_again (w : World) (S : Nat → Prop) (g : Nat) (s : Ln.St) (c : UInt8) (h : LineAt w S g s) (hc : s.code ≠ 0) :
    Calls Try.prog 17 #[.pointer (some ⟨g, 0, none⟩), .int .u8 c.toNat] w fun e w' => e = .returned (Ln.fed s c) ∧ LineAt w' (orNew S w) g (Ln.next s c) ∧ Turns S w w' := by
  have HA := Ln.again c hc
  rw [Ln.fed_of HA.2.1 HA.2.2 HA.1 rfl, HA.1]
  clear HA
  have HS := Hid.mk' h
  obtain ⟨ao, cap, hg, _⟩ := h
  have c2 : w.cell? ⟨g, 2, none⟩ = some (.int .i64 (s.code : Int)) := cell_of_row w g 2 _ _ _ hg
  have t0 : ((s.code : Int) == 0) = false := by rw [beq_eq_false_iff_ne]; omega
  have t1 : ((s.code : Int) != 0) = true := by rw [bne_iff_ne]; omega
  clear hg hc
  go_enter Try.func17, Try.ntmps17
  go_wp2
  go_quiet (fail)
  go_wp2
  go_ret3
  exact ⟨rfl, keep_line (HS.out.drewN _) w, Turns.drewN _ _ _⟩

/-- a code -/
theorem feed_code (w : World) (S : Nat → Prop) (g : Nat) (s : Ln.St) (c : UInt8) (k : Nat) (h : LineAt w S g s) (hc : s.code = 0) (hf : Ln.fault s c = k) (hk : k ≠ 0) :
    Calls Try.prog 17 #[.pointer (some ⟨g, 0, none⟩), .int .u8 c.toNat] w fun e w' => e = .returned (Ln.fed s c) ∧ LineAt w' (orNew S w) g (Ln.next s c) ∧ Turns S w w' := by
  have hn : Ln.next s c = { s with code := k } := by unfold Ln.next; rw [if_neg (by omega), hf, if_pos hk]
  rw [Ln.fed_of (t := []) (b := false) (by unfold Ln.text; rw [if_neg (fun e => hk (hf.symm.trans e.2.1))]) (by unfold Ln.ends; rw [decide_eq_false_iff_not]; exact fun e => hk (hf.symm.trans e.2.1)) hn rfl, hn]
  have HF := Hid.mk' (faultLines_any w S g s c h)
  rw [hf] at HF
  have HS := Hid.mk' (h.code k)
  obtain ⟨ao, cap, hg, _⟩ := h
  have c2 : w.cell? ⟨g, 2, none⟩ = some (.int .i64 0) := by
    rw [cell_of_row w g 2 _ _ _ hg]; simp [hc]
  have f2 : w.frozen? ⟨g, 2, none⟩ = false := frozen_of_row w g 2 _ _ hg
  have t1 : ((k : Int) != 0) = true := by rw [bne_iff_ne]; omega
  clear hg hc hf hn hk
  go_enter Try.func17, Try.ntmps17
  go_wp2_with fail
  refine HF.out.mono ?_
  rintro e w1 ⟨rfl, hw⟩
  subst hw
  go_wp2
  go_quiet (fail)
  go_wp2
  go_ret3
  exact ⟨rfl, keep_line (HS.out.1.drewN _) _, HS.out.2.trans (Turns.drewN S _ _) (fun _ e _ => e)⟩

/-- a line's end -/
theorem feed_end (w : World) (S : Nat → Prop) (g : Nat) (s : Ln.St) (h : LineAt w S g s) (hc : s.code = 0) (hf : Ln.fault s 10 = 0) :
    Calls Try.prog 17 #[.pointer (some ⟨g, 0, none⟩), .int .u8 10] w fun e w' => e = .returned (Ln.fed s 10) ∧ LineAt w' (orNew S w) g (Ln.next s 10) ∧ Turns S w w' := by
  have hn : Ln.next s 10 = ⟨[], false, 0⟩ := by unfold Ln.next; rw [if_neg (by omega), hf]; rfl
  rw [Ln.fed_of (t := s.line) (b := true) (by unfold Ln.text; rw [if_pos ⟨hc, hf, rfl⟩]) (by unfold Ln.ends; rw [decide_eq_true_eq]; exact ⟨hc, hf, rfl⟩) hn rfl, hn]
  have HF := Hid.mk' (faultLines_any w S g s 10 h)
  rw [hf] at HF
  have HS := Hid.mk' (h.code 0)
  have HS2 := Hid.mk' (HS.out.1.drop)
  have HS3 := Hid.mk' (HS2.out.1.ends false)
  obtain ⟨ao, cap, hg, ho, _⟩ := h
  have c0 : w.cell? ⟨g, 0, none⟩ = some (.slice ao s.line.length cap) := cell_of_row w g 0 _ _ _ hg
  have c1 : w.cell? ⟨g, 1, none⟩ = some (.bool s.ending) := cell_of_row w g 1 _ _ _ hg
  have c2 : w.cell? ⟨g, 2, none⟩ = some (.int .i64 0) := by
    rw [cell_of_row w g 2 _ _ _ hg]; simp [hc]
  have f0 : w.frozen? ⟨g, 0, none⟩ = false := frozen_of_row w g 0 _ _ hg
  have f1 : w.frozen? ⟨g, 1, none⟩ = false := frozen_of_row w g 1 _ _ hg
  have f2 : w.frozen? ⟨g, 2, none⟩ = false := frozen_of_row w g 2 _ _ hg
  have hq := (ho.isB.turns (w' := w.setCell ⟨g, 2, none⟩ (.int .i64 0)) (Turns.setCell (fun i => i = g) w _ _ rfl) (fun a e => by
    have := row_ne hg ho (by decide)
    rw [ownBlock_slice, e] at this
    intro e2; exact this (by simp [blockOf, e2]))).str (P := Try.prog) 22 9 5 Try.underlying22 Try.underlying5 Try.underlying9
  generalize (⟨s.line.toArray⟩ : ByteArray) = bs at hq ⊢
  clear hg ho hc hf hn
  go_enter Try.func17, Try.ntmps17
  go_wp2_with fail
  refine HF.out.mono ?_
  rintro e w1 ⟨rfl, hw⟩
  subst hw
  go_wp2
  go_ret3
  exact ⟨rfl, keep_line HS3.out.1 _, HS.out.2.trans (HS2.out.2.trans HS3.out.2 (fun _ e _ => e)) (fun _ e _ => e)⟩

/-- a CR -/
theorem feed_cr (w : World) (S : Nat → Prop) (g : Nat) (s : Ln.St) (h : LineAt w S g s) (hc : s.code = 0) (hf : Ln.fault s 13 = 0) :
    Calls Try.prog 17 #[.pointer (some ⟨g, 0, none⟩), .int .u8 13] w fun e w' => e = .returned (Ln.fed s 13) ∧ LineAt w' (orNew S w) g (Ln.next s 13) ∧ Turns S w w' := by
  have hn : Ln.next s 13 = ⟨s.line, true, 0⟩ := by unfold Ln.next; rw [if_neg (by omega), hf, hc]; rfl
  rw [Ln.fed_of (t := []) (b := false) (by unfold Ln.text; rw [if_neg (fun e => by cases e.2.2)]) (by unfold Ln.ends; rw [decide_eq_false_iff_not]; exact fun e => by cases e.2.2) hn rfl, hn]
  have HF := Hid.mk' (faultLines_any w S g s 13 h)
  rw [hf] at HF
  have HS := Hid.mk' (h.code 0)
  have HS3 := Hid.mk' (HS.out.1.ends true)
  obtain ⟨ao, cap, hg, ho, _⟩ := h
  have c1 : w.cell? ⟨g, 1, none⟩ = some (.bool s.ending) := cell_of_row w g 1 _ _ _ hg
  have c2 : w.cell? ⟨g, 2, none⟩ = some (.int .i64 0) := by
    rw [cell_of_row w g 2 _ _ _ hg]; simp [hc]
  have f1 : w.frozen? ⟨g, 1, none⟩ = false := frozen_of_row w g 1 _ _ hg
  have f2 : w.frozen? ⟨g, 2, none⟩ = false := frozen_of_row w g 2 _ _ hg
  clear hg ho hc hf hn
  go_enter Try.func17, Try.ntmps17
  go_wp2_with fail
  refine HF.out.mono ?_
  rintro e w1 ⟨rfl, hw⟩
  subst hw
  go_wp2
  go_ret3
  exact ⟨rfl, keep_line HS3.out.1 _, HS.out.2.trans HS3.out.2 (fun _ e _ => e)⟩

set_option maxHeartbeats 800000 in
/-- a byte of a line -/
theorem feed_byte (w : World) (S : Nat → Prop) (g : Nat) (s : Ln.St) (c : UInt8) (h : LineAt w S g s) (hs : s.line.length ≤ 200) (hc : s.code = 0) (hf : Ln.fault s c = 0) (h10 : c ≠ 10) (h13 : c ≠ 13) :
    Calls Try.prog 17 #[.pointer (some ⟨g, 0, none⟩), .int .u8 c.toNat] w fun e w' => e = .returned (Ln.fed s c) ∧ LineAt w' (orNew S w) g (Ln.next s c) ∧ Turns S w w' := by
  have hn : Ln.next s c = ⟨s.line ++ [c], s.ending, 0⟩ := by unfold Ln.next; rw [if_neg (by omega), hf, if_neg (by omega), if_neg h10, if_neg h13, hc]
  rw [Ln.fed_of (t := []) (b := false) (by unfold Ln.text; rw [if_neg (fun e => h10 e.2.2)]) (by unfold Ln.ends; rw [decide_eq_false_iff_not]; exact fun e => h10 e.2.2) hn rfl, hn]
  have HF := Hid.mk' (faultLines_any w S g s c h)
  rw [hf] at HF
  have t10 : ((c.toNat : Int) == 10) = false := byte_ne' h10
  have t13 : ((c.toNat : Int) == 13) = false := byte_ne' h13
  have HS := Hid.mk' (h.code 0)
  obtain ⟨ao, cap, hg, ho, h1, h2⟩ := h
  obtain ⟨i0, hi0, hz0, hz1, hz2⟩ := info_parts info_u8
  have Hi := Hid.mk' hi0; have Hz0 := Hid.mk' hz0; have Hz1 := Hid.mk' hz1; have Hz2 := Hid.mk' hz2
  have hne : ∀ a, ao = some a → a.block ≠ g := fun a e e2 => by
    have := row_ne hg ho (by decide)
    rw [ownBlock_slice, e] at this
    exact this (by simp [blockOf, e2])
  have c0 : w.cell? ⟨g, 0, none⟩ = some (.slice ao s.line.length cap) := cell_of_row w g 0 _ _ _ hg
  have c2 : w.cell? ⟨g, 2, none⟩ = some (.int .i64 0) := by
    rw [cell_of_row w g 2 _ _ _ hg]; simp [hc]
  have f0 : w.frozen? ⟨g, 0, none⟩ = false := frozen_of_row w g 0 _ _ hg
  have f2 : w.frozen? ⟨g, 2, none⟩ = false := frozen_of_row w g 2 _ _ hg
  have HO := Hid.mk' (ho.turns (w' := w.setCell ⟨g, 2, none⟩ (.int .i64 0)) (Turns.setCell (fun i => i = g) w _ _ rfl) (fun a e => hne a e))
  have HG : Hid ((w.setCell ⟨g, 2, none⟩ (.int .i64 0)).heap[g]? = some (.cells #[.slice ao s.line.length cap, .bool s.ending, .int .i64 (0 : Int)] 49 (0, 0))) := by
    show _ = _
    rw [heap_setCell_same w g 2 _ _ _ hg]; rfl
  have hlt : g < w.heap.size := (Array.getElem?_eq_some_iff.1 hg).1
  clear hg ho hf hn hi0 hz0 hz1 hz2 h10 h13
  go_enter Try.func17, Try.ntmps17
  go_wp2_with fail
  refine HF.out.mono ?_
  rintro e w1 ⟨rfl, hw⟩
  subst hw
  have HN : some g ≠ blockOf ao := by
    cases ao with
    | none => simp [blockOf]
    | some a => intro e; injection e with e; exact hne a rfl e.symm
  go_wp2_with (at_builtin; refine wpList_append_at rfl (.tmp 23) (.tmp 25) 22 rfl 0 5 i0 Try.underlying22 Hi.out Hz0.out Hz1.out Hz2.out (l := s.line) (l2 := [c]) rfl rfl (HO.out.alloc _) rfl rfl (IsB.one_at _ _ _ _ (by simp)) (by simp; omega) (Nat.zero_le _) ?_; intro ao3 cap3 w3 hO3 hG3 hat3; have h3 := kept_row HG.out _ hG3 HN; have c3 : w3.cell? ⟨g, 0, none⟩ = some (.slice ao s.line.length cap) := cell_of_row w3 g 0 _ _ _ h3; have f3 : w3.frozen? ⟨g, 0, none⟩ = false := frozen_of_row w3 g 0 _ _ h3; have HO3 := Hid.mk' hO3; have HG3 := Hid.mk' hG3; have HA3 := Hid.mk' hat3; clear hO3 hG3 hat3 h3)
  go_ret3
  have hz : (w1.setCell ⟨g, 2, none⟩ (.int .i64 0)).heap.size = w1.heap.size := by simp
  have hT : Turns (fun k => S k ∧ k ≠ g) (w1.setCell ⟨g, 2, none⟩ (.int .i64 0)) w3 :=
    (Turns.of_grown (World.grownBy_alloc _ _ none) (fun k e => by cases e)).trans (Turns.of_grown HG3.out (S := fun k => S k ∧ k ≠ g) (fun k e => by
      cases ao with
      | none => cases e
      | some a => injection e with e; subst e; exact ⟨h2 a rfl, hne a rfl⟩)) (fun _ e _ => e)
  have hA : ∀ a, ao3 = some a → orNew S (w1.setCell ⟨g, 2, none⟩ (.int .i64 0)) a.block := by
    intro a e
    subst e
    rcases HA3.out with e | e
    · cases ao with
      | none => cases e
      | some a' => injection e with e; rw [e]; exact Or.inl (h2 a' rfl)
    · injection e with e; rw [e]; exact Or.inr (by simp)
  have hL := LineAt.grow (s := ⟨s.line, s.ending, 0⟩) HG.out h1 HO3.out hT hA (s.line.length + 1) (by simp)
  refine ⟨rfl, hL.1.mono (fun k _ e => ?_), HS.out.2.trans hL.2 (fun _ e _ => e)⟩
  rcases e with e | e
  · exact Or.inl e
  · exact Or.inr (by omega)
/-- one byte more -/
theorem feedLines_any (w : World) (S : Nat → Prop) (g : Nat) (s : Ln.St) (c : UInt8) (h : LineAt w S g s) (hs : s.line.length ≤ 200) :
    Calls Try.prog 17 #[.pointer (some ⟨g, 0, none⟩), .int .u8 c.toNat] w fun e w' => e = .returned (Ln.fed s c) ∧ LineAt w' (orNew S w) g (Ln.next s c) ∧ Turns S w w' := by
  by_cases hc : s.code = 0
  · by_cases hf : Ln.fault s c = 0
    · by_cases h10 : c = 10
      · subst h10; exact feed_end w S g s h hc hf
      · by_cases h13 : c = 13
        · subst h13; exact feed_cr w S g s h hc hf
        · exact feed_byte w S g s c h hs hc hf h10 h13
    · exact feed_code w S g s c _ h hc rfl hf
  · exact feed_again w S g s c h hc
end Go.Proofs.Ytemgjebgncmglaa
