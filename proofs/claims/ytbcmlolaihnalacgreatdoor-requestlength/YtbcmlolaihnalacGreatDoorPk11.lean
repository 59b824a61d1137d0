/- Small texts, one behind the other: CkC, CkFeed, PlainCB, PlainCW. -/
import Derived.Test.YtbcmlolaihnalacGreatDoorPk10
import Derived.Test.YtbcmlolaihnalacGreatDoorPk4
import Derived.Test.YtbcmlolaihnalacGreatDoorPk5
/- What a reader of a body in chunks makes of a line: take, walked. -/
namespace Go.Proofs.YtbcmlolaihnalacGreatDoor
open Go.RowKit

/-- a reader's cells behind a line t: they are those of what it keeps then, if no code was told -/
inductive TakeOut (S : Nat → Prop) (g gl : Nat) (ln : Ln.St) (s : Ck.St) (t : List UInt8) (w : World) (e : Ending) (w' : World) : Prop
  | mk (nx lf rm fd : Int) (hT : Turns S w w') (he : e = .returned (.tuple #[.bool (decide ((Ck.line s t).code = 0 ∧ (Ck.line s t).ph = 4)), .int .i64 ((Ck.line s t).code : Int)]))
      (r : CkRow w' S g gl nx lf rm fd 0 ln) (h : Ck.pc (Ck.line s t) = 0 → nx = (Ck.nx (Ck.line s t) : Int) ∧ lf = (Ck.lf (Ck.line s t) : Int) ∧ rm = 4000 - ((Ck.line s t).total : Int) ∧ fd = ((Ck.line s t).count : Int))
theorem TakeOut.of {S : Nat → Prop} {g gl : Nat} {ln : Ln.St} {s s' : Ck.St} {t : List UInt8} {w : World} {e : Ending} {w' : World} (hl : Ck.line s t = s') (b : Bool) (k : Nat) (nx lf rm fd : Int) (hT : Turns S w w') (he : e = .returned (.tuple #[.bool b, .int .i64 (k : Int)]))
    (hb : b = decide (s'.code = 0 ∧ s'.ph = 4)) (hk : s'.code = k) (r : CkRow w' S g gl nx lf rm fd 0 ln) (h : Ck.pc s' = 0 → nx = (Ck.nx s' : Int) ∧ lf = (Ck.lf s' : Int) ∧ rm = 4000 - (s'.total : Int) ∧ fd = (s'.count : Int)) : TakeOut S g gl ln s t w e w' := by
  subst hl; subst hb; subst hk
  exact .mk nx lf rm fd hT he r h

section
variable {w : World} {S : Nat → Prop} {g gl : Nat} {ln : Ln.St} {s : Ck.St}
set_option maxHeartbeats 1600000 in
/-- at a size -/
theorem take_size (hg : Ck.Good s) (h0 : s.ph = 0) (hc : s.code = 0) (h : CkRow w S g gl 0 0 (4000 - (s.total : Int)) (s.count : Int) 0 ln) (t : ByteArray) (ht : t.size ≤ 200) :
    Calls Tryz.prog 143 #[.pointer (some ⟨g, 0, none⟩), .string t] w fun e w' => TakeOut S g gl ln s t.data.toList w e w' := by
  have hto := hg.total
  have HS := Hid.mk' (sizeCk_any h t ht (by omega) (by omega))
  have c1 : w.cell? ⟨g, 1, none⟩ = some (.int .i64 0) := h.cell 1 (by decide)
  have hn := (size_nat t.data.toList).1
  have HL : Hid (Ck.line s t.data.toList = (if (Ck.size t.data.toList).2 = false then { s with code := 7 } else if 4000 < s.total + (Ck.size t.data.toList).1.toNat then { s with code := 4 } else if (Ck.size t.data.toList).1.toNat = 0 then { s with ph := 3 } else { s with ph := 1, left := (Ck.size t.data.toList).1.toNat, total := s.total + (Ck.size t.data.toList).1.toNat })) := by
    unfold Hid Ck.line; rw [if_pos h0]
  clear h
  generalize (Ck.size t.data.toList).1 = n at *
  generalize (Ck.size t.data.toList).2 = ok at *
  have H0 := Hid.mk' h0; have HC := Hid.mk' hc; have HTo := Hid.mk' hto; have HN := Hid.mk' hn
  clear h0 hc hto hn hg ht
  go_enter Tryz.func143, Tryz.ntmps143
  go_wp2_with fail
  refine HS.out.mono ?_
  clear HS c1
  rintro e w1 (⟨hT, h1, he, r⟩ | ⟨hT, h1, h2, he, r⟩ | ⟨hT, h1, h2, h3, he, r⟩ | ⟨hT, h1, h2, h3, he, r⟩)
  · subst he
    have HT := Hid.mk' hT; have HR := Hid.mk' r; have HO := Hid.mk' h1
    clear hT r h1
    go_wp2
    go_ret2
    have hl := HL.out
    rw [if_pos HO.out] at hl
    exact TakeOut.of hl false 7 _ _ _ _ HT.out rfl (by simp) rfl HR.out (fun e => absurd (Ck.pc_zero.1 e).1 (by show (7 : Nat) ≠ 0; omega))
  · subst he
    have HT := Hid.mk' hT; have HR := Hid.mk' r; have HO := Hid.mk' h1; have H2 := Hid.mk' h2
    clear hT r h1 h2
    go_wp2
    go_ret2
    have hl := HL.out
    have h2 := H2.out; have hn := HN.out
    rw [if_neg (by rw [HO.out]; simp), if_pos (by omega)] at hl
    exact TakeOut.of hl false 4 _ _ _ _ HT.out rfl (by simp) rfl HR.out (fun e => absurd (Ck.pc_zero.1 e).1 (by show (4 : Nat) ≠ 0; omega))
  · subst he
    have HT := Hid.mk' hT; have HR := Hid.mk' r; have HO := Hid.mk' h1; have H2 := Hid.mk' h2; have H3 := Hid.mk' h3
    clear hT r h1 h2 h3
    go_wp2
    go_ret2
    have hl := HL.out
    have h2 := H2.out; have h3 := H3.out; have hn := HN.out
    rw [if_neg (by rw [HO.out]; simp), if_neg (by omega), if_pos (by omega)] at hl
    exact TakeOut.of hl false 0 _ _ _ _ HT.out rfl (by simp) HC.out HR.out (fun e => ⟨rfl, rfl, rfl, rfl⟩)
  · subst he
    have HT := Hid.mk' hT; have HR := Hid.mk' r; have HO := Hid.mk' h1; have H2 := Hid.mk' h2; have H3 := Hid.mk' h3
    clear hT r h1 h2 h3
    go_wp2
    go_ret2
    have hl := HL.out
    have h2 := H2.out; have h3 := H3.out; have hn := HN.out; have hto := HTo.out
    rw [if_neg (by rw [HO.out]; simp), if_neg (by omega), if_neg (by omega)] at hl
    exact TakeOut.of hl false 0 _ _ _ _ HT.out rfl (by simp) HC.out HR.out (fun e => ⟨rfl, (by show n = ((if (1 : Nat) = 1 then n.toNat else 0 : Nat) : Int); rw [if_pos rfl]; omega), (by show 4000 - (s.total : Int) - n = 4000 - ((s.total + n.toNat : Nat) : Int); omega), rfl⟩)

set_option maxHeartbeats 800000 in
/-- behind a chunk's bytes -/
theorem take_end (h2 : s.ph = 2) (hc : s.code = 0) (h : CkRow w S g gl 1 0 (4000 - (s.total : Int)) (s.count : Int) 0 ln) (t : ByteArray) :
    Calls Tryz.prog 143 #[.pointer (some ⟨g, 0, none⟩), .string t] w fun e w' => TakeOut S g gl ln s t.data.toList w e w' := by
  have HS := Hid.mk' (endCk_any h t)
  have c1 : w.cell? ⟨g, 1, none⟩ = some (.int .i64 1) := h.cell 1 (by decide)
  have HL : Hid (Ck.line s t.data.toList = if t.data.toList ≠ [] then { s with code := 5 } else { s with ph := 0 }) := by
    unfold Hid Ck.line; rw [if_neg (by omega), if_pos h2]
  clear h
  have HC := Hid.mk' hc
  clear h2 hc
  go_enter Tryz.func143, Tryz.ntmps143
  go_wp2_with fail
  refine HS.out.mono ?_
  clear HS c1
  rintro e w1 (⟨hT, h1, he, r⟩ | ⟨hT, h1, he, r⟩)
  · subst he
    have HT := Hid.mk' hT; have HR := Hid.mk' r; have HO := Hid.mk' h1
    clear hT r h1
    go_wp2
    go_ret2
    have hl := HL.out
    rw [if_pos HO.out] at hl
    exact TakeOut.of hl false 5 _ _ _ _ HT.out rfl (by simp) rfl HR.out (fun e => absurd (Ck.pc_zero.1 e).1 (by show (5 : Nat) ≠ 0; omega))
  · subst he
    have HT := Hid.mk' hT; have HR := Hid.mk' r; have HO := Hid.mk' h1
    clear hT r h1
    go_wp2
    go_ret2
    have hl := HL.out
    rw [if_neg (fun e => e HO.out)] at hl
    exact TakeOut.of hl false 0 _ _ _ _ HT.out rfl (by simp) HC.out HR.out (fun e => ⟨rfl, rfl, rfl, rfl⟩)

set_option maxHeartbeats 800000 in
/-- behind the last chunk -/
theorem take_field (hg : Ck.Good s) (h3 : s.ph = 3) (hc : s.code = 0) (h : CkRow w S g gl 2 0 (4000 - (s.total : Int)) (s.count : Int) 0 ln) (t : ByteArray) (ht : t.size ≤ 200) :
    Calls Tryz.prog 143 #[.pointer (some ⟨g, 0, none⟩), .string t] w fun e w' => TakeOut S g gl ln s t.data.toList w e w' := by
  have hct := hg.count
  have HS := Hid.mk' (fieldCk_any h t ht (by omega) (by omega))
  have c1 : w.cell? ⟨g, 1, none⟩ = some (.int .i64 2) := h.cell 1 (by decide)
  have HL : Hid (Ck.line s t.data.toList = if t.data.toList = [] then { s with ph := 4 } else if s.count = 16 then { s with code := 8 } else if (Fd.of t.data.toList).code ≠ 0 then { s with code := (Fd.of t.data.toList).code } else { s with count := s.count + 1 }) := by
    unfold Hid Ck.line; rw [if_neg (by omega), if_neg (by omega)]
  have HTD := Hid.mk' (Lib.toList_data t)
  have HR0 := Hid.mk' h
  clear h
  have HC := Hid.mk' hc; have H3 := Hid.mk' h3
  clear h3 hc hg ht
  by_cases hz : t.data.toList = []
  · obtain rfl : t = ⟨#[]⟩ := Ch.empty_eq t (by rw [← Ch.len_list, hz]; rfl)
    clear hz HTD
    go_enter Tryz.func143, Tryz.ntmps143
    go_wp2
    go_ret2
    have hl := HL.out
    rw [if_pos trivial] at hl
    exact TakeOut.of hl true 0 _ _ _ _ (Turns.refl _ _) rfl (by simp [HC.out]) HC.out HR0.out (fun e => absurd rfl (Ck.pc_zero.1 e).2)
  · have tz : (t.toList == []) = false := by rw [beq_eq_false_iff_ne, HTD.out]; exact hz
    have HZ := Hid.mk' hz
    clear hz HR0
    go_enter Tryz.func143, Tryz.ntmps143
    go_wp2_with fail
    refine HS.out.mono ?_
    clear HS c1
    rintro e w1 (⟨hT, h1, he, r⟩ | ⟨hT, h1, he, r⟩)
    · subst he
      have HT := Hid.mk' hT; have HR := Hid.mk' r; have HO := Hid.mk' h1
      clear hT r h1
      go_wp2
      go_ret2
      have hl := HL.out
      have h1 := HO.out
      rw [if_neg HZ.out, if_pos (by omega)] at hl
      exact TakeOut.of hl false 8 _ _ _ _ HT.out rfl (by simp) rfl HR.out (fun e => absurd (Ck.pc_zero.1 e).1 (by show (8 : Nat) ≠ 0; omega))
    · subst he
      have HT := Hid.mk' hT; have HR := Hid.mk' r; have HO := Hid.mk' h1
      clear hT r h1
      generalize hk : (Fd.of t.data.toList).code = k at *
      clear hk
      go_wp2
      go_ret2
      have hl := HL.out
      have h1 := HO.out; have h3 := H3.out
      rw [if_neg HZ.out, if_neg (by omega)] at hl
      by_cases hk0 : k = 0
      · rw [if_neg (fun e => e hk0)] at hl
        subst hk0
        exact TakeOut.of hl false 0 _ _ _ _ HT.out rfl (by simp [h3]) HC.out HR.out (fun e => ⟨by show (2 : Int) = ((Ck.nx { s with count := s.count + 1 } : Nat) : Int); unfold Ck.nx; simp [h3], by show (0 : Int) = ((Ck.lf { s with count := s.count + 1 } : Nat) : Int); unfold Ck.lf; simp [h3], rfl, by show (s.count : Int) + 1 = ((s.count + 1 : Nat) : Int); omega⟩)
      · rw [if_pos hk0] at hl
        exact TakeOut.of hl false k _ _ _ _ HT.out rfl (by simp [hk0]) rfl HR.out (fun e => absurd (Ck.pc_zero.1 e).1 hk0)
end
end Go.Proofs.YtbcmlolaihnalacGreatDoor

/- One byte more for a reader of a body in chunks, walked. -/
namespace Go.Proofs.YtbcmlolaihnalacGreatDoor
open Go.RowKit

/-- what Feed comes to -/
inductive FedOut (S : Nat → Prop) (g : Nat) (s : Ck.St) (c : UInt8) (w : World) (e : Ending) (w' : World) : Prop
  | mk (bo : Option Addr) (bc : Nat) (he : e = .returned (.tuple #[.slice bo (Ck.out s c).length bc, .bool (Ck.over s c), .int .i64 ((Ck.next s c).code : Int)])) (hI : IsB w' bo bc (Ck.out s c)) (hC : CkAt w' (orNew S w) g (Ck.next s c)) (hT : Turns S w w')
theorem FedOut.none {S : Nat → Prop} {g : Nat} {s : Ck.St} {c : UInt8} {w : World} {e : Ending} {w' : World} (b : Bool) (k : Nat) (he : e = .returned (.tuple #[.slice none 0 0, .bool b, .int .i64 (k : Int)])) (ho : Ck.out s c = []) (hb : Ck.over s c = b) (hk : (Ck.next s c).code = k) (hC : CkAt w' (orNew S w) g (Ck.next s c)) (hT : Turns S w w') : FedOut S g s c w e w' :=
  .mk Option.none 0 (by rw [ho, hb, hk]; exact he) (by rw [ho]; exact IsB.nil w') hC hT
theorem CkRow.new {w W : World} {S : Nat → Prop} {g gl : Nat} {nx lf rm fd code : Int} {ln : Ln.St} (h : CkRow w S g gl nx lf rm fd code ln) : CkRow w (orNew S W) g gl nx lf rm fd code ln := h.mono (fun _ _ e => Or.inl e)

theorem CkAt.of {w : World} {S : Nat → Prop} {g gl : Nat} {nx lf rm fd code : Int} {ln : Ln.St} {s s' : Ck.St} (hs : s = s') (h : CkRow w S g gl nx lf rm fd code ln) (hc : code = (Ck.pc s' : Int)) (hk : Ck.pc s' = 0 → ln = s'.ln ∧ nx = (Ck.nx s' : Int) ∧ lf = (Ck.lf s' : Int) ∧ rm = 4000 - (s'.total : Int) ∧ fd = (s'.count : Int)) : CkAt w S g s := by
  subst hs; subst hc
  exact ⟨gl, nx, lf, rm, fd, ln, h, hk⟩
theorem pc_code {s : Ck.St} (h : s.code ≠ 0) : Ck.pc s = s.code := by unfold Ck.pc; rw [if_pos h]
theorem pc_over {s : Ck.St} (h : s.code = 0) (h4 : s.ph = 4) : Ck.pc s = 18 := by unfold Ck.pc; rw [if_neg (fun e => e h), if_pos h4]

/-- a code is told again -/
theorem feedCk_again (w : World) (S : Nat → Prop) (g : Nat) (s : Ck.St) (c : UInt8) (h : CkAt w S g s) (hc : Ck.pc s ≠ 0) :
    Calls Tryz.prog 142 #[.pointer (some ⟨g, 0, none⟩), .int .u8 c.toNat] w fun e w' => FedOut S g s c w e w' := by
  obtain ⟨gl, nx, lf, rm, fd, ln, r, _⟩ := h
  have HR := Hid.mk' r
  have c5 : w.cell? ⟨g, 5, none⟩ = some (.int .i64 (Ck.pc s : Int)) := r.cell 5 (by decide)
  have t5 : ((Ck.pc s : Int) != 0) = true := by rw [bne_iff_ne]; omega
  clear r
  have hn : (Ck.next s c).code = Ck.pc s ∧ Ck.pc (Ck.next s c) = Ck.pc s ∧ Ck.out s c = [] ∧ Ck.over s c = false := by
    unfold Ck.pc at hc
    by_cases h0 : s.code = 0
    · rw [if_neg (fun e => e h0)] at hc
      by_cases h4 : s.ph = 4
      · have e1 : Ck.next s c = { s with code := 18 } := by unfold Ck.next; rw [if_neg (fun e => e h0), if_pos h4]
        have e2 : Ck.pc { s with code := 18 } = 18 := pc_code (by show (18 : Nat) ≠ 0; omega)
        refine ⟨by rw [e1, pc_over h0 h4], by rw [e1, e2, pc_over h0 h4], by unfold Ck.out; rw [if_neg (fun e => by omega)], by unfold Ck.over; rw [decide_eq_false_iff_not]; exact fun e => e.2.1 h4⟩
      · rw [if_neg h4] at hc; exact absurd rfl hc
    · have e1 := Ck.next_dead h0 c
      refine ⟨by rw [e1]; unfold Ck.pc; rw [if_pos h0], by rw [e1], by unfold Ck.out; rw [if_neg (fun e => h0 e.1)], by unfold Ck.over; rw [decide_eq_false_iff_not]; exact fun e => h0 e.1⟩
  have HN := Hid.mk' hn; have HC := Hid.mk' hc
  clear hn hc
  generalize Ck.pc s = k at *
  go_enter Tryz.func142, Tryz.ntmps142
  go_wp2
  go_quiet (fail)
  go_wp2
  go_ret3
  obtain ⟨h1, h2, h3, h4⟩ := HN.out
  have hT : Turns S w (w.drewN nq) := Turns.drewN _ _ _
  refine .none false k rfl h3 h4 h1 ⟨gl, nx, lf, rm, fd, ln, ?_, fun e => absurd (h2.symm.trans e) HC.out⟩ hT
  rw [h2]
  exact (HR.out.turns (Turns.drewN (fun _ => False) w nq) (fun _ _ e => e)).new

set_option maxHeartbeats 800000 in
/-- a byte of a chunk -/
theorem feedCk_byte (w : World) (S : Nat → Prop) (g : Nat) (s : Ck.St) (c : UInt8) (h : CkAt w S g s) (hg : Ck.Good s) (h0 : s.code = 0) (h1 : s.ph = 1) :
    Calls Tryz.prog 142 #[.pointer (some ⟨g, 0, none⟩), .int .u8 c.toNat] w fun e w' => FedOut S g s c w e w' := by
  have hp : Ck.pc s = 0 := Ck.pc_zero.2 ⟨h0, by omega⟩
  obtain ⟨gl, nx, lf, rm, fd, ln, r, hk⟩ := h
  obtain ⟨rfl, rfl, rfl, rfl, rfl⟩ := hk hp
  rw [hp] at r
  have hl := hg.left h1
  have hl2 := hg.left_le
  have elf : Ck.lf s = s.left := by unfold Ck.lf; rw [if_pos h1]
  rw [elf] at r
  have enx : Ck.nx s = 1 := by unfold Ck.nx; rw [if_neg (by omega), if_neg (by omega)]
  rw [enx] at r
  have c5 : w.cell? ⟨g, 5, none⟩ = some (.int .i64 0) := r.cell 5 (by decide)
  have c2 : w.cell? ⟨g, 2, none⟩ = some (.int .i64 (s.left : Int)) := r.cell 2 (by decide)
  have f2 : w.frozen? ⟨g, 2, none⟩ = false := r.frozen 2
  have t2 : decide ((s.left : Int) > 0) = true := decide_eq_true (by omega)
  have HR := Hid.mk' (r.left ((s.left : Int) - 1))
  have HT := Hid.mk' (r.turn 2 (.int .i64 ((s.left : Int) - 1)))
  have hn : Ck.next s c = { s with left := s.left - 1, ph := if s.left ≤ 1 then 2 else 1 } := by unfold Ck.next; rw [if_neg (fun e => e h0), if_neg (by omega), if_pos h1]
  have HN := Hid.mk' hn
  have HO : Hid (Ck.out s c = [c]) := by unfold Hid Ck.out; rw [if_pos ⟨h0, h1⟩]
  have HV : Hid (Ck.over s c = false) := by
    unfold Hid Ck.over
    rw [decide_eq_false_iff_not, hn]
    intro e
    have : (if s.left ≤ 1 then 2 else 1) = 4 := e.2.2.2
    split at this <;> omega
  have H0 := Hid.mk' h0; have HL := Hid.mk' hl
  clear r hk hn hg hp elf enx h0 h1 hl
  go_enter Tryz.func142, Tryz.ntmps142
  go_wp2
  go_ret3
  have hb : Below (w.setCell ⟨g, 2, none⟩ (.int .i64 ((s.left : Int) - 1))).heap.size (w.setCell ⟨g, 2, none⟩ (.int .i64 ((s.left : Int) - 1))) ((w.setCell ⟨g, 2, none⟩ (.int .i64 ((s.left : Int) - 1))).alloc (.cells #[.int .u8 (c.toNat : Int)] 5)) := (Below.refl _ _).alloc (Nat.le_refl _) _
  have h0 := H0.out
  have hl := HL.out
  refine .mk (some ⟨(w.setCell ⟨g, 2, none⟩ (.int .i64 ((s.left : Int) - 1))).heap.size, 0, none⟩) 1 ?_ ?_ (CkAt.of HN.out ((HR.out.stay hb).new (W := w)) ?_ (fun _ => ⟨rfl, ?_, ?_, rfl, rfl⟩)) (HT.out.trans (Turns.of_below hb) (fun _ e _ => e))
  · rw [HO.out, HV.out, HN.out]
    show _ = Ending.returned (.tuple #[.slice (some ⟨_, 0, none⟩) 1 1, .bool false, .int .i64 ((s.code : Nat) : Int)])
    rw [h0]
    simp
  · rw [HO.out]; exact IsB.one _ c _ _
  · rw [Ck.pc_zero (s := { s with left := s.left - 1, ph := if s.left ≤ 1 then 2 else 1 }) |>.2 ⟨h0, by show (if s.left ≤ 1 then 2 else 1) ≠ 4; split <;> omega⟩]
  · unfold Ck.nx
    simp only
    split <;> rfl
  · unfold Ck.lf
    simp only
    split
    · rw [if_neg (by omega)]; omega
    · rw [if_pos rfl]; omega

theorem takeCk_any {w : World} {S : Nat → Prop} {g gl : Nat} {ln : Ln.St} {s : Ck.St} (hg : Ck.Good s) (h1 : s.ph = 0 ∨ s.ph = 2 ∨ s.ph = 3) (hc : s.code = 0) (h : CkRow w S g gl (Ck.nx s : Int) 0 (4000 - (s.total : Int)) (s.count : Int) 0 ln) (t : ByteArray) (ht : t.size ≤ 200) :
    Calls Tryz.prog 143 #[.pointer (some ⟨g, 0, none⟩), .string t] w fun e w' => TakeOut S g gl ln s t.data.toList w e w' := by
  rcases h1 with h1 | h1 | h1
  · have e : Ck.nx s = 0 := by unfold Ck.nx; rw [if_pos h1]
    rw [e] at h
    exact take_size hg h1 hc h t ht
  · have e : Ck.nx s = 1 := by unfold Ck.nx; rw [if_neg (by omega), if_neg (by omega)]
    rw [e] at h
    exact take_end h1 hc h t
  · have e : Ck.nx s = 2 := by unfold Ck.nx; rw [if_neg (by omega), if_pos h1]
    rw [e] at h
    exact take_field hg h1 hc h t ht
theorem line_ln (s : Ck.St) (t : List UInt8) : (Ck.line s t).ln = s.ln := by
  unfold Ck.line
  repeat (first | rfl | split)
/-- behind a byte of a line: the reader's cells, and its line -/
theorem CkRow.fed {w w1 : World} {S : Nat → Prop} {g gl : Nat} {nx lf rm fd code : Int} {ln ln' : Ln.St} (h : CkRow w S g gl nx lf rm fd code ln) (hL : LineAt w1 (orNew (fun k => S k ∧ k ≠ g) w) gl ln') (hT : Turns (fun k => S k ∧ k ≠ g) w w1) : CkRow w1 (orNew S w) g gl nx lf rm fd code ln' ∧ Turns S w w1 := by
  have hlt : g < w.heap.size := (Array.getElem?_eq_some_iff.1 h.row).1
  refine ⟨⟨hT.row h.row (fun e => e.2 rfl), Or.inl h.mem, hL.mono (fun k _ e => ?_)⟩, hT.mono (fun k e => e.1)⟩
  rcases e with e | e
  · exact ⟨Or.inl e.1, e.2⟩
  · exact ⟨Or.inr e, by omega⟩
theorem Ln.next_end {s : Ln.St} {c : UInt8} (h : Ln.ends s c = true) : Ln.next s c = Ln.start ∧ Ln.text s c = s.line := by
  unfold Ln.ends at h
  rw [decide_eq_true_eq] at h
  obtain ⟨h1, h2, h3⟩ := h
  refine ⟨by unfold Ln.next; rw [if_neg (fun e => e h1), if_neg (fun e => e h2), if_pos h3]; rfl, by unfold Ln.text; rw [if_pos ⟨h1, h2, h3⟩]⟩
theorem next_line {s : Ck.St} {c : UInt8} (h0 : s.code = 0) (h1 : s.ph = 0 ∨ s.ph = 2 ∨ s.ph = 3) : Ck.out s c = [] ∧ Ck.next s c = if (Ln.next s.ln c).code ≠ 0 then { s with code := (Ln.next s.ln c).code } else if Ln.ends s.ln c = true then Ck.line { s with ln := Ln.start } (Ln.text s.ln c) else { s with ln := Ln.next s.ln c } := by
  refine ⟨by unfold Ck.out; rw [if_neg (fun e => by omega)], ?_⟩
  unfold Ck.next
  rw [if_neg (fun e => e h0), if_neg (by omega), if_neg (by omega)]

set_option maxHeartbeats 1600000 in
/-- a byte of a line -/
theorem feedCk_line (w : World) (S : Nat → Prop) (g : Nat) (s : Ck.St) (c : UInt8) (h : CkAt w S g s) (hg : Ck.Good s) (h0 : s.code = 0) (h1 : s.ph = 0 ∨ s.ph = 2 ∨ s.ph = 3) :
    Calls Tryz.prog 142 #[.pointer (some ⟨g, 0, none⟩), .int .u8 c.toNat] w fun e w' => FedOut S g s c w e w' := by
  have hp : Ck.pc s = 0 := Ck.pc_zero.2 ⟨h0, by omega⟩
  obtain ⟨gl, nx, lf, rm, fd, ln, r, hk⟩ := h
  obtain ⟨rfl, rfl, rfl, rfl, rfl⟩ := hk hp
  rw [hp] at r
  have elf : Ck.lf s = 0 := by unfold Ck.lf; rw [if_neg (by omega)]
  rw [elf] at r
  have c5 : w.cell? ⟨g, 5, none⟩ = some (.int .i64 0) := r.cell 5 (by decide)
  have c2 : w.cell? ⟨g, 2, none⟩ = some (.int .i64 0) := r.cell 2 (by decide)
  have c0 : w.cell? ⟨g, 0, none⟩ = some (.pointer (some ⟨gl, 0, none⟩)) := r.cell 0 (by decide)
  have HF := Hid.mk' (feedLines_any w _ gl s.ln c r.line hg.ln.short)
  unfold Ln.fed at HF
  obtain ⟨ho, hn⟩ := next_line (c := c) h0 h1
  have HO := Hid.mk' ho
  have HR := Hid.mk' r
  clear hk ho hp r elf
  by_cases hkc : (Ln.next s.ln c).code = 0
  · rw [if_neg (fun e => e hkc)] at hn
    cases hE : Ln.ends s.ln c
    · rw [if_neg (by rw [hE]; simp)] at hn
      have hv : Ck.over s c = false := by
        unfold Ck.over; rw [decide_eq_false_iff_not, hn]; intro e; have : s.ph = 4 := e.2.2.2; omega
      have HN := Hid.mk' hn; have HV := Hid.mk' hv; have H0 := Hid.mk' h0; have H1 := Hid.mk' h1
      rw [hE, hkc] at HF
      clear hn hv h0 h1 hE hkc hg
      generalize (⟨(Ln.text s.ln c).toArray⟩ : ByteArray) = bs at HF
      go_enter Tryz.func142, Tryz.ntmps142
      go_wp2_with fail
      refine HF.out.mono ?_
      rintro e w1 ⟨rfl, hL, hT⟩
      have H2 := Hid.mk' (HR.out.fed hL hT)
      clear hL hT HF c5 c2 c0
      have c5 : w1.cell? ⟨g, 5, none⟩ = some (.int .i64 0) := H2.out.1.cell 5 (by decide)
      have f5 : w1.frozen? ⟨g, 5, none⟩ = false := H2.out.1.frozen 5
      go_wp2
      go_ret3
      have h0 := H0.out; have h1 := H1.out
      have hp : Ck.pc { s with ln := Ln.next s.ln c } = 0 := Ck.pc_zero.2 ⟨h0, by show s.ph ≠ 4; omega⟩
      refine .none false 0 rfl HO.out HV.out (by rw [HN.out]; exact h0) (CkAt.of HN.out (H2.out.1.code_ 0) (by rw [hp]; rfl) (fun _ => ⟨rfl, rfl, ?_, rfl, rfl⟩)) (H2.out.2.then_ (H2.out.1.turn 5 _))
      unfold Ck.lf
      rw [if_neg (by show s.ph ≠ 1; omega)]
    · rw [if_pos hE] at hn
      obtain ⟨e1, e2⟩ := Ln.next_end hE
      have hsh := hg.ln.short
      have hg' : Ck.Good { s with ln := Ln.start } := ⟨hg.ph, Ln.Good.start, rfl, hg.left, hg.left_le, hg.total, hg.count⟩
      have HTk := Hid.mk' (fun (W : World) (S' : Nat → Prop) (hr : CkRow W S' g gl (Ck.nx s : Int) 0 (4000 - (s.total : Int)) (s.count : Int) 0 Ln.start) => takeCk_any (s := { s with ln := Ln.start }) hg' h1 h0 hr ⟨s.ln.line.toArray⟩ (by show s.ln.line.toArray.size ≤ 200; rw [List.size_toArray]; exact hsh))
      have hdat : (⟨s.ln.line.toArray⟩ : ByteArray).data.toList = s.ln.line := rfl
      rw [hdat] at HTk
      rw [hE, hkc, e2] at HF
      rw [e1] at HF
      rw [e2] at hn
      have hlln : (Ck.line { s with ln := Ln.start } s.ln.line).ln = Ln.start := line_ln _ _
      have hv : Ck.over s c = decide ((Ck.line { s with ln := Ln.start } s.ln.line).code = 0 ∧ (Ck.line { s with ln := Ln.start } s.ln.line).ph = 4) := by
        unfold Ck.over
        rw [hn]
        have h4 : s.ph ≠ 4 := by omega
        simp [h0, h4]
      have HN := Hid.mk' hn; have HV := Hid.mk' hv; have HLN := Hid.mk' hlln
      clear hn hv h0 h1 hE hkc hg e1 e2 hsh hg' hdat hlln
      generalize (⟨s.ln.line.toArray⟩ : ByteArray) = bs at HF HTk
      go_enter Tryz.func142, Tryz.ntmps142
      go_wp2_with fail
      refine HF.out.mono ?_
      rintro e w1 ⟨rfl, hL, hT⟩
      have H2 := Hid.mk' (HR.out.fed hL hT)
      clear hL hT HF c5 c2 c0
      go_wp2_with fail
      refine (HTk.out _ _ H2.out.1).mono ?_
      rintro e w2 ⟨nx, lf, rm, fd, hT, he, r, hk⟩
      subst he
      have T2 := Hid.mk' (H2.out.2.then_ hT); have R2 := Hid.mk' r; have K2 := Hid.mk' hk
      clear hT r hk HTk H2 HR
      generalize Ck.line { s with ln := Ln.start } s.ln.line = s' at *
      have c5 : w2.cell? ⟨g, 5, none⟩ = some (.int .i64 0) := R2.out.cell 5 (by decide)
      have f5 : w2.frozen? ⟨g, 5, none⟩ = false := R2.out.frozen 5
      by_cases h4 : s'.code = 0 ∧ s'.ph = 4
      · have hd : decide (s'.code = 0 ∧ s'.ph = 4) = true := decide_eq_true h4
        have hc0 := h4.1
        have HP : Hid (Ck.pc s' = 18) := pc_over h4.1 h4.2
        have HC0 := Hid.mk' hc0
        rw [hd] at HV
        rw [hd, hc0]
        clear h4 hd hc0
        go_wp2
        go_ret3
        refine .none true 0 rfl HO.out HV.out (by rw [HN.out]; exact HC0.out) (CkAt.of HN.out ((R2.out.code_ 0).code_ 18) (by rw [HP.out]; rfl) (fun e => by rw [HP.out] at e; cases e)) ?_
        exact (T2.out.then_ (R2.out.turn 5 _)).then_ ((R2.out.code_ 0).turn 5 _)
      · have hd : decide (s'.code = 0 ∧ s'.ph = 4) = false := decide_eq_false h4
        have HP : Hid (Ck.pc s' = s'.code) := by
          by_cases hc : s'.code = 0
          · unfold Hid; rw [Ck.pc_zero.2 ⟨hc, fun e => h4 ⟨hc, e⟩⟩, hc]
          · exact pc_code hc
        rw [hd] at HV
        rw [hd]
        clear h4 hd
        generalize hk : s'.code = k at *
        have HK := Hid.mk' hk
        clear hk
        go_wp2
        go_ret3
        refine .none false k rfl HO.out HV.out (by rw [HN.out]; exact HK.out) (CkAt.of HN.out (R2.out.code_ k) (by rw [HP.out]) (fun e => ?_)) (T2.out.then_ (R2.out.turn 5 _))
        obtain ⟨a, b, d, f⟩ := K2.out e
        exact ⟨HLN.out.symm, a, b, d, f⟩
  · rw [if_pos hkc] at hn
    have hE := Ln.ends_code hkc
    have hv : Ck.over s c = false := by
      unfold Ck.over; rw [decide_eq_false_iff_not, hn]; intro e; exact hkc e.2.2.1
    have HN := Hid.mk' hn; have HV := Hid.mk' hv; have HKC := Hid.mk' hkc
    rw [hE] at HF
    clear hn hv h0 h1 hE hkc hg
    generalize hkk : (Ln.next s.ln c).code = k at *
    clear hkk
    generalize (⟨(Ln.text s.ln c).toArray⟩ : ByteArray) = bs at HF
    go_enter Tryz.func142, Tryz.ntmps142
    go_wp2_with fail
    refine HF.out.mono ?_
    rintro e w1 ⟨rfl, hL, hT⟩
    have H2 := Hid.mk' (HR.out.fed hL hT)
    clear hL hT HF c5 c2 c0
    have c5 : w1.cell? ⟨g, 5, none⟩ = some (.int .i64 0) := H2.out.1.cell 5 (by decide)
    have f5 : w1.frozen? ⟨g, 5, none⟩ = false := H2.out.1.frozen 5
    go_wp2
    go_ret3
    have hp : Ck.pc { s with code := k } = k := pc_code (s := { s with code := k }) HKC.out
    exact .none false k rfl HO.out HV.out (by rw [HN.out]) (CkAt.of HN.out (H2.out.1.code_ k) (by rw [hp]) (fun e => absurd (hp.symm.trans e) HKC.out)) (H2.out.2.then_ (H2.out.1.turn 5 _))

/-- one byte more -/
theorem feedChunks_any (w : World) (S : Nat → Prop) (g : Nat) (s : Ck.St) (c : UInt8) (h : CkAt w S g s) (hg : Ck.Good s) :
    Calls Tryz.prog 142 #[.pointer (some ⟨g, 0, none⟩), .int .u8 c.toNat] w fun e w' => FedOut S g s c w e w' := by
  by_cases hp : Ck.pc s = 0
  · obtain ⟨h0, h4⟩ := Ck.pc_zero.1 hp
    have := hg.ph
    by_cases h1 : s.ph = 1
    · exact feedCk_byte w S g s c h hg h0 h1
    · exact feedCk_line w S g s c h hg h0 (by omega)
  · exact feedCk_again w S g s c h hp
end Go.Proofs.YtbcmlolaihnalacGreatDoor

/- Plain laws of a body in chunks: there and back. -/
namespace Go.Proofs.YtbcmlolaihnalacGreatDoor.Ck

theorem line_of (t r : List UInt8) (hv : ∀ b ∈ t, Ch.visible b.toNat = true) (hl : t.length ≤ 200) : Ln.of (t ++ 13 :: 10 :: r) = ⟨t, t.length + 2, true, 0⟩ := by
  rw [Ln.go_skip (t ++ 13 :: 10 :: r) t.length (by simp) hl (fun b hb => hv b (by simpa using hb))]
  have hlt : t.length < (t ++ 13 :: 10 :: r).length := by simp
  rw [Ln.go_at _ _ hlt]
  have e0 : (t ++ 13 :: 10 :: r)[t.length] = 13 := by simp
  have h2 : t.length + 1 < (t ++ 13 :: 10 :: r).length := by simp
  have e1 : (t ++ 13 :: 10 :: r)[t.length + 1] = 10 := by
    rw [List.getElem_append_right (by omega)]; simp
  rw [if_pos e0, dif_pos h2, if_pos e1]
  simp
/-- digits to the base 16 -/
theorem hexs_in : ∀ j, j < 16 → Ch.hexs.getD j 0 ∈ Ch.hexs := fun j hj => (show ∀ j : Fin 16, Ch.hexs.getD j.val 0 ∈ Ch.hexs by decide) ⟨j, hj⟩
theorem hexF_in : ∀ (f n : Nat), n < 16 ^ (f + 1) → ∀ b ∈ Ch.hexF f n, b ∈ Ch.hexs
  | 0, n, h, b, hb => by
    have : b = Ch.hexs.getD n 0 := by simpa [Ch.hexF] using hb
    rw [this]; exact hexs_in n (by simpa using h)
  | f + 1, n, h, b, hb => by
    unfold Ch.hexF at hb
    split at hb
    · rename_i hn
      have : b = Ch.hexs.getD n 0 := by simpa using hb
      rw [this]; exact hexs_in n hn
    · rw [List.mem_append, List.mem_singleton] at hb
      rcases hb with hb | rfl
      · exact hexF_in f (n / 16) (by rw [Nat.pow_succ] at h; omega) b hb
      · exact hexs_in _ (by omega)
theorem hexs_fine : ∀ b ∈ Ch.hexs, Ch.visible b.toNat = true ∧ b ≠ 59 ∧ Ch.ws.contains b = false := by decide
theorem trim_none {t : List UInt8} (h : ∀ b ∈ t, Ch.ws.contains b = false) : Lib.trimS t Ch.ws = t := by
  have key : ∀ u : List UInt8, (∀ b ∈ u, Ch.ws.contains b = false) → u.dropWhile (Ch.ws.contains ·) = u := by
    intro u hu
    cases u with
    | nil => rfl
    | cons a v => rw [List.dropWhile_cons, hu a (List.mem_cons_self ..)]; rfl
  unfold Lib.trimS Lib.trimLeftS Lib.trimRightS
  rw [key t.reverse (fun b hb => h b (List.mem_reverse.1 hb)), List.reverse_reverse, key t h]
theorem at_none59 {t : List UInt8} (h : ∀ b ∈ t, b ≠ 59) : Fd.at_ 59 t = t.length := Fd.at_none fun _ hj => h _ (List.getElem_mem hj)
/-- a size's own line -/
theorem size_hex (n : Nat) (h : n < 16777216) : size (Ch.hexF 5 n) = ((n : Int), true) := by
  have hi := hexF_in 5 n (by simpa using h)
  unfold size
  rw [at_none59 (fun b hb => (hexs_fine b (hi b hb)).2.1), List.take_length, trim_none (fun b hb => (hexs_fine b (hi b hb)).2.2)]
  exact Ch.number_hex n h
theorem line_hex (n : Nat) (h : n < 16777216) (r : List UInt8) : Ln.of (Ch.hexF 5 n ++ 13 :: 10 :: r) = ⟨Ch.hexF 5 n, (Ch.hexF 5 n).length + 2, true, 0⟩ :=
  line_of _ r (fun b hb => (hexs_fine b (hexF_in 5 n (by simpa using h) b hb)).1) (by have := (Ch.hexF_length 5 n).1; omega)
/-- a list of bytes as a chunk -/
def one (x : List UInt8) : List UInt8 := if x = [] then [] else Ch.hexF 5 x.length ++ [13, 10] ++ x ++ [13, 10]
/-- lists of bytes in chunks -/
def text (ls : List (List UInt8)) : List UInt8 := ls.flatMap one ++ [48, 13, 10, 13, 10]
theorem go_text : ∀ (ls : List (List UInt8)) (f n : Nat), (text ls).length < f → n + ls.flatten.length ≤ 4000 → go f (text ls) n = ⟨ls.flatten, (text ls).length, true, 0⟩
  | [], 0, n, hf, _ => by omega
  | [], f + 1, n, hf, hn => by
    have e : text [] = [48] ++ 13 :: 10 :: [13, 10] := rfl
    have h1 : Ln.of (text []) = ⟨[48], 3, true, 0⟩ := by rw [e]; exact line_of [48] [13, 10] (by decide) (by decide)
    have h2 : size [48] = (0, true) := size_hex 0 (by omega)
    have h3 : Ln.of [13, 10] = ⟨[], 2, true, 0⟩ := line_of [] [] (by decide) (by decide)
    have hd : (text []).drop 3 = [13, 10] := rfl
    rw [go, h1]
    simp only []
    rw [if_neg (by simp), h2]
    simp only []
    rw [if_neg (by simp), if_neg (by simp at hn ⊢; omega), if_pos (by simp), hd, trail, h3]
    simp only []
    rw [if_neg (by simp), if_pos trivial]
    rfl
  | x :: ls, 0, n, hf, _ => by omega
  | x :: ls, f + 1, n, hf, hn => by
    by_cases hx : x = []
    · subst hx
      have e : text ([] :: ls) = text ls := by simp [text, one]
      rw [e] at hf ⊢
      have e2 : ([] :: ls : List (List UInt8)).flatten = ls.flatten := by simp
      rw [e2] at hn ⊢
      exact go_text ls (f + 1) n hf hn
    · have hfl : (x :: ls).flatten.length = x.length + ls.flatten.length := by simp
      rw [hfl] at hn
      have hxl : 0 < x.length := List.length_pos_iff.2 hx
      have hlt : x.length < 16777216 := by omega
      have e : text (x :: ls) = Ch.hexF 5 x.length ++ 13 :: 10 :: (x ++ 13 :: 10 :: text ls) := by
        simp [text, one, hx]
      have h1 : Ln.of (text (x :: ls)) = ⟨Ch.hexF 5 x.length, (Ch.hexF 5 x.length).length + 2, true, 0⟩ := by rw [e]; exact line_hex _ hlt _
      have hd : (text (x :: ls)).drop ((Ch.hexF 5 x.length).length + 2) = x ++ 13 :: 10 :: text ls := by
        rw [e, ← List.drop_drop, List.drop_left]; rfl
      have h3 : Ln.of (13 :: 10 :: text ls) = ⟨[], 2, true, 0⟩ := line_of [] (text ls) (by simp) (by simp)
      have hs := size_hex x.length hlt
      have hlen : (text (x :: ls)).length = (Ch.hexF 5 x.length).length + 2 + x.length + 2 + (text ls).length := by
        rw [e]; simp; omega
      rw [go, h1]
      simp only []
      rw [if_neg (by simp), hs]
      simp only [Int.toNat_natCast]
      rw [if_neg (by simp), if_neg (by omega), if_neg (by omega), hd, if_neg (by simp), List.drop_left, List.take_left, h3]
      simp only []
      rw [if_neg (by simp), if_neg (by simp)]
      have hdd : List.drop 2 (13 :: 10 :: text ls) = text ls := rfl
      rw [hdd, go_text ls f (n + x.length) (by omega) (by omega), hlen]
      simp
/-- there and back -/
theorem of_text (ls : List (List UInt8)) (h : ls.flatten.length ≤ 4000) : of (text ls) = ⟨ls.flatten, (text ls).length, true, 0⟩ := go_text ls _ 0 (by omega) (by omega)
theorem run_text (ls : List (List UInt8)) (h : ls.flatten.length ≤ 4000) : run start (text ls) = ⟨ls.flatten, (text ls).length, true, 0⟩ := by
  have hs := of_run (text ls)
  rw [of_text ls h] at hs
  have h1 := hs.body
  have h2 := hs.over
  have h3 := hs.code
  have h4 := hs.used (Or.inr rfl)
  cases hr : run start (text ls)
  rw [hr] at h1 h2 h3 h4
  simp only at h1 h2 h3 h4
  subst h1; subst h2; subst h3; subst h4
  rfl
end Go.Proofs.YtbcmlolaihnalacGreatDoor.Ck

/- Plain laws of a body in chunks: what each byte brings, in the document's own terms. -/
namespace Go.Proofs.YtbcmlolaihnalacGreatDoor.Ck

theorem fold_snoc (s : St) (l : List UInt8) (c : UInt8) : fold s (l ++ [c]) = next (fold s l) c := by simp [fold]
theorem outs_snoc : ∀ (l : List UInt8) (s : St) (c : UInt8), outs s (l ++ [c]) = outs s l ++ out (fold s l) c
  | [], s, c => by simp [outs, fold]
  | d :: t, s, c => by
    show out s d ++ outs (next s d) (t ++ [c]) = (out s d ++ outs (next s d) t) ++ out (fold (next s d) t) c
    rw [outs_snoc t (next s d) c, List.append_assoc]
theorem out_len (s : St) (c : UInt8) : (out s c).length ≤ 1 := by unfold out; split <;> simp
theorem out_code {s : St} {c : UInt8} (h : (next s c).code ≠ 0) : out s c = [] := by
  unfold out
  rw [if_neg]
  rintro ⟨h0, h1⟩
  apply h
  unfold next
  rw [if_neg (by omega), if_neg (by omega), if_pos h1]
  exact h0
/-- what of the body came stays within its bounds -/
theorem take_at (b : List UInt8) (i : Nat) (hi : i < b.length) : fold start (b.take (i + 1)) = next (fold start (b.take i)) b[i] ∧ outs start (b.take (i + 1)) = outs start (b.take i) ++ out (fold start (b.take i)) b[i] := by
  rw [List.take_succ_eq_append_getElem hi]
  exact ⟨fold_snoc _ _ _, outs_snoc _ _ _⟩
theorem outs_le : ∀ (l : List UInt8) (s : St), (outs s l).length ≤ l.length
  | [], _ => Nat.le_refl _
  | c :: t, s => by
    have h1 := out_len s c
    have h2 := outs_le t (next s c)
    show (out s c ++ outs (next s c) t).length ≤ t.length + 1
    rw [List.length_append]; omega
/-- byte by byte, in terms of what is told of all bytes -/
theorem told_at (b : List UInt8) (i : Nat) (hi : i < b.length) :
    (next (fold start (b.take i)) b[i]).code = (if (of b).code ≠ 0 ∧ (of b).used ≤ i + 1 then (of b).code else if (of b).over = true ∧ (of b).used ≤ i then 18 else 0) ∧
    over (fold start (b.take i)) b[i] = decide ((of b).over = true ∧ i + 1 = (of b).used) := by
  have hs := of_run b
  obtain ⟨h1, h2⟩ := run_at b start rfl (by show (0 : Nat) ≠ 4; omega) i hi
  rw [h1, h2, ← hs.code, ← hs.over]
  constructor
  · by_cases hc : (of b).code = 0
    · simp only [hc, ne_eq, not_true_eq_false, false_and, if_false]
      cases ho : (of b).over
      · simp
      · rw [hs.used (Or.inr ho)]
    · rw [hs.used (Or.inl hc)]
  · cases ho : (of b).over
    · simp
    · rw [hs.used (Or.inr ho)]
theorem told_body (b : List UInt8) : outs start b = (of b).body := by
  rw [run_outs]; exact (of_run b).body.symm
theorem of_used (b : List UInt8) (h : (of b).code ≠ 0 ∨ (of b).over = true) : 1 ≤ (of b).used ∧ (of b).used ≤ b.length := by
  have hs := of_run b
  rw [hs.used h]
  refine run_used b start ?_
  rw [← hs.code, ← hs.over]; exact h
/-- what was written, byte by byte -/
theorem back_at (ls : List (List UInt8)) (h : ls.flatten.length ≤ 4000) (i : Nat) (hi : i < (text ls).length) :
    (next (fold start ((text ls).take i)) (text ls)[i]).code = 0 ∧ over (fold start ((text ls).take i)) (text ls)[i] = decide (i + 1 = (text ls).length) := by
  obtain ⟨h1, h2⟩ := told_at (text ls) i hi
  rw [of_text ls h] at h1 h2
  rw [h1, h2]
  constructor
  · rw [if_neg (by simp), if_neg]
    rintro ⟨_, e⟩
    have : (text ls).length ≤ i := e
    omega
  · simp
theorem back_body (ls : List (List UInt8)) (h : ls.flatten.length ≤ 4000) : outs start (text ls) = ls.flatten := by
  rw [told_body, of_text ls h]
end Go.Proofs.YtbcmlolaihnalacGreatDoor.Ck
