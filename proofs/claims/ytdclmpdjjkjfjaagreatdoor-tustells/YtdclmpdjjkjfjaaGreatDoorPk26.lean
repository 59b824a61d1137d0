/- Small texts, one behind the other: TsC, TsD, TsF, TsE, TsG, TsI, TsK, TsJ, TsH, TsL, TsM. -/
import Derived.Test.YtdclmpdjjkjfjaaGreatDoorTsB
import Derived.Test.YtdclmpdjjkjfjaaGreatDoorPk18
import Derived.Test.YtdclmpdjjkjfjaaGreatDoorPmParse
import Derived.Test.YtdclmpdjjkjfjaaGreatDoorPk21
import Derived.Test.YtdclmpdjjkjfjaaGreatDoorPk19
import Derived.Test.YtdclmpdjjkjfjaaGreatDoorPk25
import Derived.Deep.RegionHeld3
import Derived.Deep.DeepCutAuto
import Derived.Test.YtdclmpdjjkjfjaaGreatDoorPk6
import Derived.Defers
import Derived.Recover
/- Package tus, walked: an exchange's number, and its size. -/
namespace Go.Proofs.YtdclmpdjjkjfjaaGreatDoor
open Go.RowKit

theorem Tu.one_code (vs : List ByteArray) : (Tu.one vs).2 = 0 ∨ (Tu.one vs).2 = 9 ∨ (Tu.one vs).2 = 10 := by
  unfold Tu.one
  split
  · exact Or.inr (Or.inr rfl)
  · exact Or.inl rfl
  · exact Or.inr (Or.inl rfl)
theorem Tu.vals_same {a b : ByteArray} (h : Ch.lower a.data.toList = Ch.lower b.data.toList) (l : List (ByteArray × ByteArray)) : Tu.vals a l = Tu.vals b l := by unfold Tu.vals; rw [h]
theorem Tu.vals_fTR (l : List (ByteArray × ByteArray)) : Tu.vals Tu.fTR l = Tu.vals Tu.nTR l := Tu.vals_same (by decide +kernel) l
theorem Tu.vals_fUL (l : List (ByteArray × ByteArray)) : Tu.vals Tu.fUL l = Tu.vals Tu.nUL l := Tu.vals_same (by decide +kernel) l
theorem Tu.vals_fUD (l : List (ByteArray × ByteArray)) : Tu.vals Tu.fUD l = Tu.vals Tu.nUD l := Tu.vals_same (by decide +kernel) l
theorem Tu.vals_fUM (l : List (ByteArray × ByteArray)) : Tu.vals Tu.fUM l = Tu.vals Tu.nUM l := Tu.vals_same (by decide +kernel) l
theorem Tu.vals_fUO (l : List (ByteArray × ByteArray)) : Tu.vals Tu.fUO l = Tu.vals Tu.nUO l := Tu.vals_same (by decide +kernel) l
/-- Content-Type -/
def Tu.fCT : ByteArray := ⟨#[67, 111, 110, 116, 101, 110, 116, 45, 84, 121, 112, 101]⟩
theorem Tu.vals_fCT (l : List (ByteArray × ByteArray)) : Tu.vals Tu.fCT l = Tu.vals Tu.nCT l := Tu.vals_same (by decide +kernel) l
section
variable {g : Nat} {m t : ByteArray} {mi ln : Int} {l : List (ByteArray × ByteArray)} {fo : Option Addr} {fcap nf : Nat} {bo : Option Addr} {bcap nb : Nat} {w : World}
theorem FlIn.val (h : FlIn w l fo fcap nf) (name : ByteArray) : (Tu.one (Tu.vals name l)).1.length ≤ 2000 := Tu.one_size l name 2000 (fun p hp => (h.small p hp).2)
/-- the cells of an exchange's box -/
theorem exCells {w W : World} (hW : Below (w.alloc (.cells #[.pointer (some ⟨g, 0, none⟩), .string m, .string t, .int .i64 mi, .slice fo nf fcap, .int .i64 ln, .slice bo nb bcap] 74)).heap.size (w.alloc (.cells #[.pointer (some ⟨g, 0, none⟩), .string m, .string t, .int .i64 mi, .slice fo nf fcap, .int .i64 ln, .slice bo nb bcap] 74)) W) : W.cell? ⟨w.heap.size, 0, none⟩ = some (.pointer (some ⟨g, 0, none⟩)) ∧ W.cell? ⟨w.heap.size, 1, none⟩ = some (.string m) ∧ W.cell? ⟨w.heap.size, 2, none⟩ = some (.string t) ∧ W.cell? ⟨w.heap.size, 3, none⟩ = some (.int .i64 mi) ∧ W.cell? ⟨w.heap.size, 4, none⟩ = some (.slice fo nf fcap) ∧ W.cell? ⟨w.heap.size, 5, none⟩ = some (.int .i64 ln) ∧ W.cell? ⟨w.heap.size, 6, none⟩ = some (.slice bo nb bcap) := by
  have r : W.heap[w.heap.size]? = some (.cells #[.pointer (some ⟨g, 0, none⟩), .string m, .string t, .int .i64 mi, .slice fo nf fcap, .int .i64 ln, .slice bo nb bcap] 74 (0, 0)) := (hW.block w.heap.size (by simp)).trans (heap_alloc_new w _)
  exact ⟨cell_of_row W _ 0 _ _ _ r, cell_of_row W _ 1 _ _ _ r, cell_of_row W _ 2 _ _ _ r, cell_of_row W _ 3 _ _ _ r, cell_of_row W _ 4 _ _ _ r, cell_of_row W _ 5 _ _ _ r, cell_of_row W _ 6 _ _ _ r⟩
set_option maxHeartbeats 800000 in
theorem numberT_none (name : ByteArray) (hN : name.size ≤ 2000) (h : FlIn w l fo fcap nf) (hc : (Tu.one (Tu.vals name l)).2 = 10) :
    Calls Tryz.prog 82 #[.agg #[.pointer (some ⟨g, 0, none⟩), .string m, .string t, .int .i64 mi, .slice fo nf fcap, .int .i64 ln, .slice bo nb bcap], .string name] w fun e w' => e = .returned (.tuple #[.int .i64 0, .bool false]) ∧ Below w.heap.size w w' := by
  have hbA := (Below.refl _ w).alloc (Nat.le_refl _) (.cells #[.pointer (some ⟨g, 0, none⟩), .string m, .string t, .int .i64 mi, .slice fo nf fcap, .int .i64 ln, .slice bo nb bcap] 74)
  generalize hv : Tu.one (Tu.vals name l) = r at *
  obtain ⟨v, c⟩ := r
  simp only at hc
  subst hc
  have HT := Hid.mk' (textT_not (g := g) (m := m) (t := t) (mi := mi) (ln := ln) (bo := bo) (bcap := bcap) (nb := nb) name hN (h.stay hbA) hv)
  have HBA := Hid.mk' hbA
  obtain ⟨x0, x1, x2, x3, x4, x5, x6⟩ := exCells (g := g) (m := m) (t := t) (mi := mi) (ln := ln) (fo := fo) (fcap := fcap) (nf := nf) (bo := bo) (bcap := bcap) (nb := nb) (w := w) (Below.refl _ _)
  clear h hbA hv
  generalize (⟨v.toArray⟩ : ByteArray) = vb at *
  go_enter Tryz.func82, Tryz.ntmps82
  go_wp2_with fail
  refine HT.out.mono ?_
  rintro e w1 ⟨rfl, hb1⟩
  have HB1 := Hid.mk' (then_ HBA.out hb1)
  clear hb1 HT HBA
  go_wp2
  go_ret2
  exact ⟨rfl, HB1.out⟩
set_option maxHeartbeats 800000 in
theorem numberT_yes (name : ByteArray) (hN : name.size ≤ 2000) (h : FlIn w l fo fcap nf) (hc : (Tu.one (Tu.vals name l)).2 ≠ 10) {x : Int} (hx : Tu.numIn (Tu.one (Tu.vals name l)) = (x, true)) :
    Calls Tryz.prog 82 #[.agg #[.pointer (some ⟨g, 0, none⟩), .string m, .string t, .int .i64 mi, .slice fo nf fcap, .int .i64 ln, .slice bo nb bcap], .string name] w fun e w' => e = .returned (.tuple #[.int .i64 x, .bool true]) ∧ Below w.heap.size w w' := by
  have hbA := (Below.refl _ w).alloc (Nat.le_refl _) (.cells #[.pointer (some ⟨g, 0, none⟩), .string m, .string t, .int .i64 mi, .slice fo nf fcap, .int .i64 ln, .slice bo nb bcap] 74)
  have hz := h.val name
  generalize hv : Tu.one (Tu.vals name l) = r at *
  obtain ⟨v, c⟩ := r
  simp only at hc hz
  unfold Tu.numIn at hx
  rw [if_neg hc] at hx
  injection hx with hx1 hx2
  rw [Bool.and_eq_true, decide_eq_true_eq] at hx2
  obtain ⟨hx2, hx3⟩ := hx2
  simp only at hx1 hx2 hx3
  subst hx3
  clear hc
  have HT := Hid.mk' (textT_here (g := g) (m := m) (t := t) (mi := mi) (ln := ln) (bo := bo) (bcap := bcap) (nb := nb) name hN (h.stay hbA) hv)
  have HNu : Hid (∀ W, Calls Tryz.prog 79 #[.string ⟨v.toArray⟩] W fun e w' => e = .returned (.tuple #[.int .i64 x, .bool true]) ∧ w' = W) := fun W => by
    have := number10_any ⟨v.toArray⟩ W (by show v.toArray.size ≤ _; rw [List.size_toArray]; unfold maxLen; omega)
    rw [show (⟨v.toArray⟩ : ByteArray).data.toList = v from by simp, hx1, hx2] at this
    exact this
  have HBA := Hid.mk' hbA
  obtain ⟨x0, x1, x2, x3, x4, x5, x6⟩ := exCells (g := g) (m := m) (t := t) (mi := mi) (ln := ln) (fo := fo) (fcap := fcap) (nf := nf) (bo := bo) (bcap := bcap) (nb := nb) (w := w) (Below.refl _ _)
  clear h hbA hv hx1 hx2 hz
  generalize (⟨v.toArray⟩ : ByteArray) = vb at *
  go_enter Tryz.func82, Tryz.ntmps82
  go_wp2_with fail
  refine HT.out.mono ?_
  rintro e w1 ⟨rfl, hb1⟩
  have HB1 := Hid.mk' (then_ HBA.out hb1)
  clear hb1 HT HBA
  go_wp2_with fail
  refine (HNu.out w1).mono ?_
  rintro e w2 ⟨rfl, hw⟩
  rw [hw]
  clear hw
  go_wp2_with fail
  refine (needT_yes 400 none 0 0 w1).mono ?_
  rintro e w2 ⟨rfl, hw⟩
  rw [hw]
  clear hw
  go_wp2
  go_ret2
  exact ⟨rfl, HB1.out⟩
set_option maxHeartbeats 800000 in
theorem numberT_no (name : ByteArray) (hN : name.size ≤ 2000) (h : FlIn w l fo fcap nf) (hx : (Tu.numIn (Tu.one (Tu.vals name l))).2 = false) :
    Calls Tryz.prog 82 #[.agg #[.pointer (some ⟨g, 0, none⟩), .string m, .string t, .int .i64 mi, .slice fo nf fcap, .int .i64 ln, .slice bo nb bcap], .string name] w fun e w' => Gave w (Tu.said 400 []) e w' := by
  have hbA := (Below.refl _ w).alloc (Nat.le_refl _) (.cells #[.pointer (some ⟨g, 0, none⟩), .string m, .string t, .int .i64 mi, .slice fo nf fcap, .int .i64 ln, .slice bo nb bcap] 74)
  have hz := h.val name
  have hco := Tu.one_code (Tu.vals name l)
  generalize hv : Tu.one (Tu.vals name l) = r at *
  obtain ⟨v, c⟩ := r
  have HBA := Hid.mk' hbA
  obtain ⟨x0, x1, x2, x3, x4, x5, x6⟩ := exCells (g := g) (m := m) (t := t) (mi := mi) (ln := ln) (fo := fo) (fcap := fcap) (nf := nf) (bo := bo) (bcap := bcap) (nb := nb) (w := w) (Below.refl _ _)
  simp only at hco hz
  unfold Tu.numIn at hx
  by_cases hc9 : c = 9
  · subst hc9
    have HT := Hid.mk' (textT_no (g := g) (m := m) (t := t) (mi := mi) (ln := ln) (bo := bo) (bcap := bcap) (nb := nb) name hN (h.stay hbA) hv)
    clear h hbA hv hz hx hco
    go_enter Tryz.func82, Tryz.ntmps82
    go_wp2_with fail
    refine HT.out.mono ?_
    rintro e w2 hG
    have HG := Hid.mk' (hG.from_ HBA.out)
    obtain ⟨ao, cap, n, he, _, _, _⟩ := hG
    unfold tgave at he
    subst he
    go_wp2
    exact ⟨rfl, HG.out⟩
  · have hc10 : c ≠ 10 := fun e => by subst e; rw [if_pos rfl] at hx; cases hx
    obtain rfl : c = 0 := by omega
    rw [if_neg (by simp)] at hx
    have hx2 : (Ch.number 10 9 v).2 = false := by
      cases e : (Ch.number 10 9 v).2 with
      | false => rfl
      | true => simp [e] at hx
    have HT := Hid.mk' (textT_here (g := g) (m := m) (t := t) (mi := mi) (ln := ln) (bo := bo) (bcap := bcap) (nb := nb) name hN (h.stay hbA) hv)
    have HNu : Hid (∀ W, Calls Tryz.prog 79 #[.string ⟨v.toArray⟩] W fun e w' => e = .returned (.tuple #[.int .i64 (Ch.number 10 9 v).1, .bool false]) ∧ w' = W) := fun W => by
      have := number10_any ⟨v.toArray⟩ W (by show v.toArray.size ≤ _; rw [List.size_toArray]; unfold maxLen; omega)
      rw [show (⟨v.toArray⟩ : ByteArray).data.toList = v from by simp, hx2] at this
      exact this
    clear h hbA hv hz hx hco hx2 hc9 hc10
    generalize (Ch.number 10 9 v).1 = y at *
    generalize (⟨v.toArray⟩ : ByteArray) = vb at *
    go_enter Tryz.func82, Tryz.ntmps82
    go_wp2_with fail
    refine HT.out.mono ?_
    rintro e w1 ⟨rfl, hb1⟩
    have HB1 := Hid.mk' (then_ HBA.out hb1)
    clear hb1 HT HBA
    go_wp2_with fail
    refine (HNu.out w1).mono ?_
    rintro e w2 ⟨rfl, hw⟩
    rw [hw]
    clear hw
    go_wp2_with fail
    refine (needT_none 400 400 rfl w1).mono ?_
    rintro e w2 hG
    have HG := Hid.mk' (hG.from_ HB1.out)
    obtain ⟨ao, cap, n, he, _, _, _⟩ := hG
    unfold tgave at he
    subst he
    go_wp2
    exact ⟨rfl, HG.out⟩
end
end Go.Proofs.YtdclmpdjjkjfjaaGreatDoor

/- Package tus, walked: an exchange's size; what media it brings; what size it may tell. -/
namespace Go.Proofs.YtdclmpdjjkjfjaaGreatDoor
open Go.RowKit

section
variable {g : Nat} {m t : ByteArray} {mi ln : Int} {l : List (ByteArray × ByteArray)} {fo : Option Addr} {fcap nf : Nat} {bo : Option Addr} {bcap nb : Nat} {w : World}
theorem Gave.ends {w w1 w2 : World} {r : Tu.Rep} {e : Ending} (hb : Below w.heap.size w w1) (hG : Gave w1 r e w2) : Hid (Gave w r e w2) ∧ ∃ (ao : Option Addr) (cap n : Nat), e = tgave (r.1 : Int) ao n cap := by
  refine ⟨hG.from_ hb, ?_⟩
  obtain ⟨ao, cap, n, he, _⟩ := hG
  exact ⟨ao, cap, n, he⟩
/-- a number that is there is not below 0 -/
theorem Tu.numIn_pos {r : List UInt8 × Nat} (hc : r.2 ≠ 10) {x : Int} (hx : Tu.numIn r = (x, true)) : 0 ≤ x := by
  unfold Tu.numIn at hx
  rw [if_neg hc] at hx
  injection hx with h1 h2
  rw [Bool.and_eq_true] at h2
  rw [← h1]
  exact (Ch.number_small h2.1).1
theorem Tu.numIn_none {r : List UInt8 × Nat} (hc : r.2 = 10) : Tu.numIn r = (-1, true) := by unfold Tu.numIn; rw [if_pos hc]
/-- when a size is no size -/
def Tu.badSize (l : List (ByteArray × ByteArray)) : Prop := (Tu.one (Tu.vals Tu.nUD l)).2 = 9 ∨ ((Tu.one (Tu.vals Tu.nUD l)).2 = 0 ∧ (Tu.one (Tu.vals Tu.nUD l)).1 ≠ Tu.vOne.data.toList) ∨ (0 ≤ (Tu.numIn (Tu.one (Tu.vals Tu.nUL l))).1 ↔ (Tu.one (Tu.vals Tu.nUD l)).2 = 0)
set_option maxHeartbeats 1600000 in
theorem sizeT_bad (h : FlIn w l fo fcap nf) (hx : (Tu.numIn (Tu.one (Tu.vals Tu.nUL l))).2 = false) :
    Calls Tryz.prog 73 #[.agg #[.pointer (some ⟨g, 0, none⟩), .string m, .string t, .int .i64 mi, .slice fo nf fcap, .int .i64 ln, .slice bo nb bcap]] w fun e w' => Gave w (Tu.said 400 []) e w' := by
  have hbA := (Below.refl _ w).alloc (Nat.le_refl _) (.cells #[.pointer (some ⟨g, 0, none⟩), .string m, .string t, .int .i64 mi, .slice fo nf fcap, .int .i64 ln, .slice bo nb bcap] 74)
  have HBA := Hid.mk' hbA
  obtain ⟨x0, x1, x2, x3, x4, x5, x6⟩ := exCells (g := g) (m := m) (t := t) (mi := mi) (ln := ln) (fo := fo) (fcap := fcap) (nf := nf) (bo := bo) (bcap := bcap) (nb := nb) (w := w) (Below.refl _ _)
  have HN := Hid.mk' (numberT_no (g := g) (m := m) (t := t) (mi := mi) (ln := ln) (bo := bo) (bcap := bcap) (nb := nb) Tu.fUL (by decide) (h.stay hbA) (by rw [Tu.vals_fUL]; exact hx))
  unfold Tu.fUL at HN
  clear h hbA hx
  go_enter Tryz.func73, Tryz.ntmps73
  go_wp2_with fail
  refine HN.out.mono ?_
  rintro e w2 hG
  obtain ⟨HG, ao, cap, n, he⟩ := hG.ends HBA.out
  unfold tgave at he
  subst he
  go_wp2
  exact ⟨rfl, HG.out⟩
set_option maxHeartbeats 1600000 in
theorem sizeT_any (h : FlIn w l fo fcap nf) (hx : (Tu.numIn (Tu.one (Tu.vals Tu.nUL l))).2 = true) :
    (Tu.badSize l → Calls Tryz.prog 73 #[.agg #[.pointer (some ⟨g, 0, none⟩), .string m, .string t, .int .i64 mi, .slice fo nf fcap, .int .i64 ln, .slice bo nb bcap]] w fun e w' => Gave w (Tu.said 400 []) e w') ∧
    (¬ Tu.badSize l → Calls Tryz.prog 73 #[.agg #[.pointer (some ⟨g, 0, none⟩), .string m, .string t, .int .i64 mi, .slice fo nf fcap, .int .i64 ln, .slice bo nb bcap]] w fun e w' => e = .returned (.int .i64 (Tu.numIn (Tu.one (Tu.vals Tu.nUL l))).1) ∧ Below w.heap.size w w') := by
  have hbA := (Below.refl _ w).alloc (Nat.le_refl _) (.cells #[.pointer (some ⟨g, 0, none⟩), .string m, .string t, .int .i64 mi, .slice fo nf fcap, .int .i64 ln, .slice bo nb bcap] 74)
  have HBA := Hid.mk' hbA
  have HC : Hid (∀ W, Below (w.alloc (.cells #[.pointer (some ⟨g, 0, none⟩), .string m, .string t, .int .i64 mi, .slice fo nf fcap, .int .i64 ln, .slice bo nb bcap] 74)).heap.size (w.alloc (.cells #[.pointer (some ⟨g, 0, none⟩), .string m, .string t, .int .i64 mi, .slice fo nf fcap, .int .i64 ln, .slice bo nb bcap] 74)) W → W.cell? ⟨w.heap.size, 0, none⟩ = some (.pointer (some ⟨g, 0, none⟩)) ∧ W.cell? ⟨w.heap.size, 1, none⟩ = some (.string m) ∧ W.cell? ⟨w.heap.size, 2, none⟩ = some (.string t) ∧ W.cell? ⟨w.heap.size, 3, none⟩ = some (.int .i64 mi) ∧ W.cell? ⟨w.heap.size, 4, none⟩ = some (.slice fo nf fcap) ∧ W.cell? ⟨w.heap.size, 5, none⟩ = some (.int .i64 ln) ∧ W.cell? ⟨w.heap.size, 6, none⟩ = some (.slice bo nb bcap)) := fun W hW => exCells hW
  obtain ⟨x0, x1, x2, x3, x4, x5, x6⟩ := HC.out _ (Below.refl _ _)
  -- the number of Upload-Length, and whether it is there
  have key : ∃ (y : Int) (told : Bool), Hid ((Tu.numIn (Tu.one (Tu.vals Tu.nUL l))).1 = (if told then y else -1) ∧ (told = true → 0 ≤ y)) ∧ ∀ W, Below w.heap.size w W → Calls Tryz.prog 82 #[.agg #[.pointer (some ⟨g, 0, none⟩), .string m, .string t, .int .i64 mi, .slice fo nf fcap, .int .i64 ln, .slice bo nb bcap], .string Tu.fUL] W fun e w' => e = .returned (.tuple #[.int .i64 y, .bool told]) ∧ Below W.heap.size W w' := by
    by_cases hc : (Tu.one (Tu.vals Tu.nUL l)).2 = 10
    · exact ⟨0, false, ⟨by rw [Tu.numIn_none hc]; rfl, fun e => by cases e⟩, fun W hW => numberT_none Tu.fUL (by decide) (h.stay hW) (by rw [Tu.vals_fUL]; exact hc)⟩
    · generalize hy : Tu.numIn (Tu.one (Tu.vals Tu.nUL l)) = r at *
      obtain ⟨y, b⟩ := r
      simp only at hx
      subst hx
      exact ⟨y, true, ⟨rfl, fun _ => Tu.numIn_pos hc hy⟩, fun W hW => numberT_yes Tu.fUL (by decide) (h.stay hW) (by rw [Tu.vals_fUL]; exact hc) (by rw [Tu.vals_fUL]; exact hy)⟩
  obtain ⟨y, told, HY, hnum⟩ := key
  have HNu := Hid.mk' (hnum _ hbA)
  unfold Tu.fUL at HNu
  have hco := Tu.one_code (Tu.vals Tu.nUD l)
  unfold Tu.badSize
  generalize hv : Tu.one (Tu.vals Tu.nUD l) = r at *
  obtain ⟨v, c⟩ := r
  have hvD : Tu.one (Tu.vals Tu.fUD l) = (v, c) := by rw [Tu.vals_fUD]; exact hv
  simp only at hco
  have HF := Hid.mk' h
  clear h hbA hv hnum hx
  generalize (Tu.numIn (Tu.one (Tu.vals Tu.nUL l))).1 = z at *
  rcases hco with rfl | rfl | rfl
  · -- it is told later
    have HTx : Hid (∀ W, Below w.heap.size w W → Calls Tryz.prog 51 #[.agg #[.pointer (some ⟨g, 0, none⟩), .string m, .string t, .int .i64 mi, .slice fo nf fcap, .int .i64 ln, .slice bo nb bcap], .string Tu.fUD] W fun e w' => e = .returned (.tuple #[.string ⟨v.toArray⟩, .bool true]) ∧ Below W.heap.size W w') := fun W hW => textT_here Tu.fUD (by decide) (HF.out.stay hW) hvD
    unfold Tu.fUD at HTx
    obtain ⟨b1, hb1⟩ : ∃ b, ((⟨v.toArray⟩ : ByteArray).toList == ([49] : List UInt8)) = b := ⟨_, rfl⟩
    have e1 : v = Tu.vOne.data.toList ↔ b1 = true := by rw [← hb1]; exact Tu.eqV v _
    have H1e := Hid.mk' e1
    clear e1 hvD
    generalize (⟨v.toArray⟩ : ByteArray) = vb at *
    refine ⟨fun hbad => ?_, fun hok => ?_⟩
    · have HBd := Hid.mk' hbad
      clear hbad
      go_enter Tryz.func73, Tryz.ntmps73
      go_wp2_with fail
      refine HNu.out.mono ?_
      rintro e w1 ⟨rfl, hw1⟩
      have HB1 := Hid.mk' (then_ HBA.out hw1)
      clear x0 x1 x2 x3 x4 x5 x6
      obtain ⟨x0, x1, x2, x3, x4, x5, x6⟩ := HC.out _ hw1
      clear hw1 HNu
      go_wp2_with fail
      refine (HTx.out w1 HB1.out).mono ?_
      rintro e w2 ⟨rfl, hw2⟩
      have HB2 := Hid.mk' (then_ HB1.out hw2)
      clear hw2 HTx x0 x1 x2 x3 x4 x5 x6
      cases b1 with
      | false =>
        go_wp2_with fail
        refine (needT_none 400 400 rfl w2).mono ?_
        rintro e w9 hG
        obtain ⟨HG, ao, cap, n, he⟩ := hG.ends HB2.out
        unfold tgave at he
        subst he
        clear hG
        go_wp2
        exact ⟨rfl, HG.out⟩
      | true =>
        go_wp2_with fail
        refine (needT_yes 400 none 0 0 w2).mono ?_
        rintro e w3 ⟨rfl, hw⟩
        rw [hw]
        clear hw
        cases told with
        | false =>
          exfalso
          have h1 := HBd.out
          have h2 := HY.out.1
          simp only [Bool.false_eq_true, if_false] at h2
          rcases h1 with h1 | h1 | h1
          · cases h1
          · exact h1.2 (H1e.out.2 (by first | exact rfl | trivial))
          · have := h1.2 (by first | exact rfl | trivial); omega
        | true =>
          go_wp2_with fail
          refine (needT_none 400 400 rfl w2).mono ?_
          rintro e w9 hG
          obtain ⟨HG, ao, cap, n, he⟩ := hG.ends HB2.out
          unfold tgave at he
          subst he
          clear hG
          go_wp2
          exact ⟨rfl, HG.out⟩
    · have HOk := Hid.mk' hok
      clear hok
      have hb : b1 = true := by
        cases b1 with
        | true => rfl
        | false => exact absurd (Or.inr (Or.inl ⟨rfl, fun e => by have := H1e.out.1 e; cases this⟩)) HOk.out
      subst hb
      have ht : told = false := by
        cases told with
        | false => rfl
        | true =>
          refine absurd (Or.inr (Or.inr ⟨fun _ => rfl, fun _ => ?_⟩)) HOk.out
          have h2 := HY.out.1
          have h3 := HY.out.2 rfl
          rw [h2]; exact h3
      subst ht
      have hz : z = -1 := HY.out.1
      subst hz
      go_enter Tryz.func73, Tryz.ntmps73
      go_wp2_with fail
      refine HNu.out.mono ?_
      rintro e w1 ⟨rfl, hw1⟩
      have HB1 := Hid.mk' (then_ HBA.out hw1)
      clear x0 x1 x2 x3 x4 x5 x6
      obtain ⟨x0, x1, x2, x3, x4, x5, x6⟩ := HC.out _ hw1
      clear hw1 HNu
      go_wp2_with fail
      refine (HTx.out w1 HB1.out).mono ?_
      rintro e w2 ⟨rfl, hw2⟩
      have HB2 := Hid.mk' (then_ HB1.out hw2)
      clear hw2 HTx x0 x1 x2 x3 x4 x5 x6
      go_wp2_with fail
      refine (needT_yes 400 none 0 0 w2).mono ?_
      rintro e w3 ⟨rfl, hw⟩
      rw [hw]
      clear hw
      go_wp2_with fail
      refine (needT_yes 400 none 0 0 w2).mono ?_
      rintro e w3 ⟨rfl, hw⟩
      rw [hw]
      clear hw
      go_wp2
      go_ret
      exact ⟨rfl, HB2.out⟩
  · -- several that say later
    refine ⟨fun _ => ?_, fun hok => absurd (Or.inl rfl) hok⟩
    have HTx : Hid (∀ W, Below w.heap.size w W → Calls Tryz.prog 51 #[.agg #[.pointer (some ⟨g, 0, none⟩), .string m, .string t, .int .i64 mi, .slice fo nf fcap, .int .i64 ln, .slice bo nb bcap], .string Tu.fUD] W fun e w' => Gave W (Tu.said 400 []) e w') := fun W hW => textT_no Tu.fUD (by decide) (HF.out.stay hW) hvD
    unfold Tu.fUD at HTx
    clear hvD
    go_enter Tryz.func73, Tryz.ntmps73
    go_wp2_with fail
    refine HNu.out.mono ?_
    rintro e w1 ⟨rfl, hw1⟩
    have HB1 := Hid.mk' (then_ HBA.out hw1)
    clear x0 x1 x2 x3 x4 x5 x6
    obtain ⟨x0, x1, x2, x3, x4, x5, x6⟩ := HC.out _ hw1
    clear hw1 HNu
    go_wp2_with fail
    refine (HTx.out w1 HB1.out).mono ?_
    rintro e w9 hG
    obtain ⟨HG, ao, cap, n, he⟩ := hG.ends HB1.out
    unfold tgave at he
    subst he
    clear hG
    go_wp2
    exact ⟨rfl, HG.out⟩
  · -- it is not told later
    have HTx : Hid (∀ W, Below w.heap.size w W → Calls Tryz.prog 51 #[.agg #[.pointer (some ⟨g, 0, none⟩), .string m, .string t, .int .i64 mi, .slice fo nf fcap, .int .i64 ln, .slice bo nb bcap], .string Tu.fUD] W fun e w' => e = .returned (.tuple #[.string ⟨v.toArray⟩, .bool false]) ∧ Below W.heap.size W w') := fun W hW => textT_not Tu.fUD (by decide) (HF.out.stay hW) hvD
    unfold Tu.fUD at HTx
    clear hvD
    generalize (⟨v.toArray⟩ : ByteArray) = vb at *
    cases told with
    | false =>
      have hz : z = -1 := HY.out.1
      refine ⟨fun _ => ?_, fun hok => absurd (Or.inr (Or.inr ⟨fun e => by omega, fun e => by cases e⟩)) hok⟩
      go_enter Tryz.func73, Tryz.ntmps73
      go_wp2_with fail
      refine HNu.out.mono ?_
      rintro e w1 ⟨rfl, hw1⟩
      have HB1 := Hid.mk' (then_ HBA.out hw1)
      clear x0 x1 x2 x3 x4 x5 x6
      obtain ⟨x0, x1, x2, x3, x4, x5, x6⟩ := HC.out _ hw1
      clear hw1 HNu
      go_wp2_with fail
      refine (HTx.out w1 HB1.out).mono ?_
      rintro e w2 ⟨rfl, hw2⟩
      have HB2 := Hid.mk' (then_ HB1.out hw2)
      clear hw2 HTx x0 x1 x2 x3 x4 x5 x6
      go_wp2_with fail
      refine (needT_yes 400 none 0 0 w2).mono ?_
      rintro e w3 ⟨rfl, hw⟩
      rw [hw]
      clear hw
      go_wp2_with fail
      refine (needT_none 400 400 rfl w2).mono ?_
      rintro e w9 hG
      obtain ⟨HG, ao, cap, n, he⟩ := hG.ends HB2.out
      unfold tgave at he
      subst he
      clear hG
      go_wp2
      exact ⟨rfl, HG.out⟩
    | true =>
      have hz : z = y := HY.out.1
      subst hz
      have hpos := HY.out.2 rfl
      refine ⟨fun hbad => ?_, fun _ => ?_⟩
      · exfalso
        rcases hbad with e | e | e
        · cases e
        · cases e.1
        · have := e.1 hpos; cases this
      clear hpos
      go_enter Tryz.func73, Tryz.ntmps73
      go_wp2_with fail
      refine HNu.out.mono ?_
      rintro e w1 ⟨rfl, hw1⟩
      have HB1 := Hid.mk' (then_ HBA.out hw1)
      clear x0 x1 x2 x3 x4 x5 x6
      obtain ⟨x0, x1, x2, x3, x4, x5, x6⟩ := HC.out _ hw1
      clear hw1 HNu
      go_wp2_with fail
      refine (HTx.out w1 HB1.out).mono ?_
      rintro e w2 ⟨rfl, hw2⟩
      have HB2 := Hid.mk' (then_ HB1.out hw2)
      clear hw2 HTx x0 x1 x2 x3 x4 x5 x6
      go_wp2_with fail
      refine (needT_yes 400 none 0 0 w2).mono ?_
      rintro e w3 ⟨rfl, hw⟩
      rw [hw]
      clear hw
      go_wp2_with fail
      refine (needT_yes 400 none 0 0 w2).mono ?_
      rintro e w3 ⟨rfl, hw⟩
      rw [hw]
      clear hw
      go_wp2
      go_ret
      exact ⟨rfl, HB2.out⟩
end
end Go.Proofs.YtdclmpdjjkjfjaaGreatDoor

/- Package tus, walked: what media an exchange brings; what size it may tell. -/
namespace Go.Proofs.YtdclmpdjjkjfjaaGreatDoor
open Go.RowKit

section
variable {g : Nat} {m t : ByteArray} {mi ln : Int} {l : List (ByteArray × ByteArray)} {fo : Option Addr} {fcap nf : Nat} {bo : Option Addr} {bcap nb : Nat} {w : World}
set_option maxHeartbeats 1600000 in
theorem mediaT_many (h : FlIn w l fo fcap nf) (hx : (Tu.one (Tu.vals Tu.nCT l)).2 = 9) :
    Calls Tryz.prog 81 #[.agg #[.pointer (some ⟨g, 0, none⟩), .string m, .string t, .int .i64 mi, .slice fo nf fcap, .int .i64 ln, .slice bo nb bcap]] w fun e w' => Gave w (Tu.said 400 []) e w' := by
  have hbA := (Below.refl _ w).alloc (Nat.le_refl _) (.cells #[.pointer (some ⟨g, 0, none⟩), .string m, .string t, .int .i64 mi, .slice fo nf fcap, .int .i64 ln, .slice bo nb bcap] 74)
  have HBA := Hid.mk' hbA
  obtain ⟨x0, x1, x2, x3, x4, x5, x6⟩ := exCells (g := g) (m := m) (t := t) (mi := mi) (ln := ln) (fo := fo) (fcap := fcap) (nf := nf) (bo := bo) (bcap := bcap) (nb := nb) (w := w) (Below.refl _ _)
  have HN := Hid.mk' (textT_no (g := g) (m := m) (t := t) (mi := mi) (ln := ln) (bo := bo) (bcap := bcap) (nb := nb) Tu.fCT (by decide) (h.stay hbA) (v := (Tu.one (Tu.vals Tu.nCT l)).1) (by rw [Tu.vals_fCT, ← hx]))
  unfold Tu.fCT at HN
  clear h hbA hx
  go_enter Tryz.func81, Tryz.ntmps81
  go_wp2_with fail
  refine HN.out.mono ?_
  rintro e w2 hG
  obtain ⟨HG, ao, cap, n, he⟩ := hG.ends HBA.out
  unfold tgave at he
  subst he
  clear hG
  go_wp2
  exact ⟨rfl, HG.out⟩
set_option maxHeartbeats 1600000 in
theorem mediaT_any (h : FlIn w l fo fcap nf) (hx : (Tu.one (Tu.vals Tu.nCT l)).2 ≠ 9) :
    (Tu.isOff (Tu.one (Tu.vals Tu.nCT l)).1 = false → Calls Tryz.prog 81 #[.agg #[.pointer (some ⟨g, 0, none⟩), .string m, .string t, .int .i64 mi, .slice fo nf fcap, .int .i64 ln, .slice bo nb bcap]] w fun e w' => Gave w (Tu.said 415 []) e w') ∧
    (Tu.isOff (Tu.one (Tu.vals Tu.nCT l)).1 = true → Calls Tryz.prog 81 #[.agg #[.pointer (some ⟨g, 0, none⟩), .string m, .string t, .int .i64 mi, .slice fo nf fcap, .int .i64 ln, .slice bo nb bcap]] w fun e w' => e = .returned (.tuple #[]) ∧ Below w.heap.size w w') := by
  have hbA := (Below.refl _ w).alloc (Nat.le_refl _) (.cells #[.pointer (some ⟨g, 0, none⟩), .string m, .string t, .int .i64 mi, .slice fo nf fcap, .int .i64 ln, .slice bo nb bcap] 74)
  have HBA := Hid.mk' hbA
  obtain ⟨x0, x1, x2, x3, x4, x5, x6⟩ := exCells (g := g) (m := m) (t := t) (mi := mi) (ln := ln) (fo := fo) (fcap := fcap) (nf := nf) (bo := bo) (bcap := bcap) (nb := nb) (w := w) (Below.refl _ _)
  have hz := h.val Tu.nCT
  generalize hv : Tu.one (Tu.vals Tu.nCT l) = r at *
  obtain ⟨v, c⟩ := r
  simp only at hz hx
  have HT := Hid.mk' (textT_yes (g := g) (m := m) (t := t) (mi := mi) (ln := ln) (bo := bo) (bcap := bcap) (nb := nb) Tu.fCT (by decide) (h.stay hbA) (by rw [Tu.vals_fCT]; exact hv) hx)
  unfold Tu.fCT at HT
  have HP : Hid (∀ W, Calls Tryz.prog 113 #[.string ⟨v.toArray⟩] W fun e w' => MedOut W (Pm.media v) e w') := fun W => by
    have := parseP_any ⟨v.toArray⟩ W (by show v.toArray.size ≤ _; rw [List.size_toArray]; omega)
    rw [show (⟨v.toArray⟩ : ByteArray).data.toList = v from by simp] at this
    exact this
  have HOf : Hid (∀ word ps code, MedIs (Pm.media v) word ps code → (Tu.isOff v = (word.toList == ([97, 112, 112, 108, 105, 99, 97, 116, 105, 111, 110, 47, 111, 102, 102, 115, 101, 116, 43, 111, 99, 116, 101, 116, 45, 115, 116, 114, 101, 97, 109] : List UInt8)))) := fun word ps code hM => by
    rw [Bool.eq_iff_iff, beq_iff_eq, Lib.toList_data]
    unfold Tu.isOff
    cases hm : Pm.media v with
    | inl c =>
      rw [hm] at hM
      obtain ⟨h1, h2, h3⟩ := hM
      subst h2
      constructor
      · intro e; cases e
      · intro e; simp at e
    | inr x =>
      rw [hm] at hM
      obtain ⟨h1, h2, h3⟩ := hM
      simp only [decide_eq_true_eq]
      rw [h2]
      rfl
  clear h hbA hv hz
  generalize decide (c = 0) = cb at *
  generalize (⟨v.toArray⟩ : ByteArray) = vb at *
  generalize Tu.isOff v = off at *
  generalize Pm.media v = md at *
  refine ⟨fun ho => ?_, fun ho => ?_⟩
  · subst ho
    go_enter Tryz.func81, Tryz.ntmps81
    go_wp2_with fail
    refine HT.out.mono ?_
    rintro e w1 ⟨rfl, hw1⟩
    have HB1 := Hid.mk' (then_ HBA.out hw1)
    clear hw1 HT HBA x0 x1 x2 x3 x4 x5 x6
    go_wp2_with fail
    refine (HP.out w1).mono ?_
    rintro e w2 ⟨word, ps, ao, cap, code, rfl, hM, _, hw2⟩
    have ho := (HOf.out _ _ _ hM).symm
    have HB2 := Hid.mk' (then_ (then_ HB1.out hw2) ((Below.refl _ w2).alloc (Nat.le_refl _) (.cells #[.string word, .slice ao ps.length cap] 113)))
    clear hM hw2 HP HOf HB1
    generalize ps.length = np at *
    go_wp2_with fail
    refine (needT_none 415 415 rfl _).mono ?_
    rintro e w9 hG
    obtain ⟨HG, ao9, cap9, n9, he⟩ := hG.ends HB2.out
    unfold tgave at he
    subst he
    clear hG
    go_wp2
    exact ⟨rfl, HG.out⟩
  · subst ho
    go_enter Tryz.func81, Tryz.ntmps81
    go_wp2_with fail
    refine HT.out.mono ?_
    rintro e w1 ⟨rfl, hw1⟩
    have HB1 := Hid.mk' (then_ HBA.out hw1)
    clear hw1 HT HBA x0 x1 x2 x3 x4 x5 x6
    go_wp2_with fail
    refine (HP.out w1).mono ?_
    rintro e w2 ⟨word, ps, ao, cap, code, rfl, hM, _, hw2⟩
    have ho := (HOf.out _ _ _ hM).symm
    have HB2 := Hid.mk' (then_ (then_ HB1.out hw2) ((Below.refl _ w2).alloc (Nat.le_refl _) (.cells #[.string word, .slice ao ps.length cap] 113)))
    clear hM hw2 HP HOf HB1
    generalize ps.length = np at *
    go_wp2_with fail
    refine (needT_yes 415 none 0 0 _).mono ?_
    rintro e w9 ⟨rfl, hw⟩
    rw [hw]
    clear hw
    go_wp2
    go_end0
    exact ⟨rfl, HB2.out⟩
/-- may an upload of that size be told that one, when it comes to that end? -/
theorem needSize_any (id sz sent x en : Int) (note : ByteArray) (uo : Option Addr) (un ucap : Nat) (w : World) (hs0 : -1 ≤ sz) :
    (0 ≤ sz → x ≠ sz → Calls Tryz.prog 83 #[.agg #[.int .i64 id, .int .i64 sz, .string note, .slice uo un ucap, .int .i64 sent], .int .i64 x, .int .i64 en] w fun e w' => Gave w (Tu.said 400 []) e w') ∧
    (sz < 0 → (2000 < x ∨ x < en) → Calls Tryz.prog 83 #[.agg #[.int .i64 id, .int .i64 sz, .string note, .slice uo un ucap, .int .i64 sent], .int .i64 x, .int .i64 en] w fun e w' => Gave w (Tu.said 413 []) e w') ∧
    ((0 ≤ sz ∧ x = sz) ∨ (sz < 0 ∧ ¬ (2000 < x ∨ x < en)) → Calls Tryz.prog 83 #[.agg #[.int .i64 id, .int .i64 sz, .string note, .slice uo un ucap, .int .i64 sent], .int .i64 x, .int .i64 en] w fun e w' => e = .returned (.tuple #[]) ∧ Below w.heap.size w w') := by
  have hbA := (Below.refl _ w).alloc (Nat.le_refl _) (.cells #[.int .i64 id, .int .i64 sz, .string note, .slice uo un ucap, .int .i64 sent] 67)
  have HBA := Hid.mk' hbA
  have c1 : (w.alloc (.cells #[.int .i64 id, .int .i64 sz, .string note, .slice uo un ucap, .int .i64 sent] 67)).cell? ⟨w.heap.size, 1, none⟩ = some (.int .i64 sz) := World.cell?_alloc_mark w _ _ _ 1
  clear hbA
  refine ⟨fun h0 hne => ?_, fun h0 hbad => ?_, fun hok => ?_⟩
  · have t1 : (sz != -1) = true := by rw [bne_iff_ne]; omega
    have t2 : (x == sz) = false := by rw [beq_eq_false_iff_ne]; exact hne
    clear hne h0 hs0
    go_enter Tryz.func83, Tryz.ntmps83
    go_wp2_with fail
    refine (needT_none 400 400 rfl _).mono ?_
    rintro e w9 hG
    obtain ⟨HG, ao9, cap9, n9, he⟩ := hG.ends HBA.out
    unfold tgave at he
    subst he
    clear hG
    go_wp2
    exact ⟨rfl, HG.out⟩
  · obtain rfl : sz = -1 := by omega
    clear h0 hs0
    by_cases h2 : 2000 < x
    · have t1 : decide (x ≤ 2000) = false := by rw [decide_eq_false_iff_not]; omega
      clear hbad h2
      go_enter Tryz.func83, Tryz.ntmps83
      go_wp2_with fail
      refine (needT_none 413 413 rfl _).mono ?_
      rintro e w9 hG
      obtain ⟨HG, ao9, cap9, n9, he⟩ := hG.ends HBA.out
      unfold tgave at he
      subst he
      clear hG
      go_wp2
      exact ⟨rfl, HG.out⟩
    · have t1 : decide (x ≤ 2000) = true := by rw [decide_eq_true_eq]; omega
      have t2 : decide (x ≥ en) = false := by rw [decide_eq_false_iff_not]; omega
      clear hbad h2
      go_enter Tryz.func83, Tryz.ntmps83
      go_wp2_with fail
      refine (needT_none 413 413 rfl _).mono ?_
      rintro e w9 hG
      obtain ⟨HG, ao9, cap9, n9, he⟩ := hG.ends HBA.out
      unfold tgave at he
      subst he
      clear hG
      go_wp2
      exact ⟨rfl, HG.out⟩
  · rcases hok with ⟨h0, rfl⟩ | ⟨h0, h1⟩
    · have t1 : (x != -1) = true := by rw [bne_iff_ne]; omega
      have t2 : (x == x) = true := by simp
      clear h0 hs0
      go_enter Tryz.func83, Tryz.ntmps83
      go_wp2_with fail
      refine (needT_yes 400 none 0 0 _).mono ?_
      rintro e w9 ⟨rfl, hw⟩
      rw [hw]
      clear hw
      go_wp2
      first | go_end0 | refine bodyPost_ret (results_none rfl _ _ _) rfl ?_
      exact ⟨rfl, HBA.out⟩
    · obtain rfl : sz = -1 := by omega
      have t1 : decide (x ≤ 2000) = true := by rw [decide_eq_true_eq]; omega
      have t2 : decide (x ≥ en) = true := by rw [decide_eq_true_eq]; omega
      clear h0 hs0 h1
      go_enter Tryz.func83, Tryz.ntmps83
      go_wp2_with fail
      refine (needT_yes 413 none 0 0 _).mono ?_
      rintro e w9 ⟨rfl, hw⟩
      rw [hw]
      clear hw
      go_wp2
      go_end0
      exact ⟨rfl, HBA.out⟩
end
end Go.Proofs.YtdclmpdjjkjfjaaGreatDoor

/- Package tus, walked: a target's prefix; Ours; what media an exchange brings; what size it may tell. -/
namespace Go.Proofs.YtdclmpdjjkjfjaaGreatDoor
open Go.RowKit

/-- does a target begin with /files/ ? -/
def Tu.inside (s : ByteArray) : Bool := decide (7 ≤ s.size) && decide (s.data.toList.take 7 = Tu.bFilesS.data.toList)
set_option maxHeartbeats 800000 in
theorem hasPre_any (s : ByteArray) (w : World) (hs : s.size ≤ 100000) : Calls Tryz.prog 66 #[.string s, .string ⟨#[47, 102, 105, 108, 101, 115, 47]⟩] w fun e w' => e = .returned (.bool (Tu.inside s)) ∧ w' = w := by
  by_cases h7 : 7 ≤ s.size
  · have h7' : (7 : Int) ≤ (s.size : Int) := by omega
    obtain ⟨b, hb⟩ : ∃ b, ((s.extract 0 7).toList == ([47, 102, 105, 108, 101, 115, 47] : List UInt8)) = b := ⟨_, rfl⟩
    have HI : Hid (Tu.inside s = b) := by
      unfold Hid Tu.inside
      rw [decide_eq_true h7, Bool.true_and, ← hb, Tu.pre7]
      rw [Bool.eq_iff_iff, decide_eq_true_eq, beq_iff_eq]
      rfl
    rw [HI.out]
    go_enter Tryz.func66, Tryz.ntmps66
    go_wp2
    go_ret
    exact ⟨rfl, rfl⟩
  · have h7' : ¬ (7 : Int) ≤ (s.size : Int) := by omega
    have HI : Hid (Tu.inside s = false) := by
      unfold Hid Tu.inside
      rw [decide_eq_false h7, Bool.false_and]
    rw [HI.out]
    go_enter Tryz.func66, Tryz.ntmps66
    go_wp2
    go_ret
    exact ⟨rfl, rfl⟩
theorem hasPreS_any (s : ByteArray) (w : World) (hs : s.size ≤ 100000) : Calls Tryz.prog 41 #[.string s, .string ⟨#[47, 102, 105, 108, 101, 115, 47]⟩] w fun e w' => e = .returned (.bool (Tu.inside s)) ∧ w' = w := by
  have HH := Hid.mk' (hasPre_any s w hs)
  generalize Tu.inside s = b at *
  go_enter Tryz.func41, Tryz.ntmps41
  go_wp2_with fail
  refine HH.out.mono ?_
  rintro e w1 ⟨rfl, hw⟩
  rw [hw]
  go_wp2
  go_ret
  exact ⟨rfl, rfl⟩
theorem oursT_any (s : ByteArray) (w : World) (hs : s.size ≤ 100000) : Calls Tryz.prog 17 #[.string s] w fun e w' => e = .returned (.bool (Tu.ours s)) ∧ w' = w := by
  have HH := Hid.mk' (hasPreS_any s w hs)
  obtain ⟨b, hb⟩ : ∃ b, (s.toList == ([47, 102, 105, 108, 101, 115] : List UInt8)) = b := ⟨_, rfl⟩
  have e1 : s = Tu.bFiles ↔ b = true := by rw [← hb]; exact Tu.eqL s Tu.bFiles _ rfl
  have HO : Hid (Tu.ours s = (b || Tu.inside s)) := by
    unfold Hid Tu.ours
    rw [show decide (s = Tu.bFiles) = b from by rw [Bool.eq_iff_iff, decide_eq_true_eq]; exact e1]
    rfl
  rw [HO.out]
  clear e1 HO
  generalize Tu.inside s = c at *
  cases b with
  | true =>
    go_enter Tryz.func17, Tryz.ntmps17
    go_wp2
    go_ret
    exact ⟨rfl, rfl⟩
  | false =>
    go_enter Tryz.func17, Tryz.ntmps17
    go_wp2_with fail
    refine HH.out.mono ?_
    rintro e w1 ⟨rfl, hw⟩
    rw [hw]
    go_wp2
    go_ret
    exact ⟨by simp, rfl⟩
theorem oursIs (w : World) : OursIs w := fun {w1} _ s hs => (oursT_any s w1 hs).mono (by
  rintro e w2 ⟨he, hw⟩
  rw [hw]
  exact ⟨he, Below.refl _ _⟩)
theorem cutPre_yes (s : ByteArray) (w : World) (hs : s.size ≤ 100000) (hi : Tu.inside s = true) : Calls Tryz.prog 78 #[.string s, .string ⟨#[47, 102, 105, 108, 101, 115, 47]⟩] w fun e w' => e = .returned (.tuple #[.string (s.extract 7 s.size), .bool true]) ∧ w' = w := by
  have HH := Hid.mk' (hasPre_any s w hs)
  rw [hi] at HH
  have h7 : 7 ≤ s.size := by
    unfold Tu.inside at hi
    rw [Bool.and_eq_true, decide_eq_true_eq] at hi
    exact hi.1
  have h7' : (7 : Int) ≤ (s.size : Int) := by omega
  have HC : Hid (Calls Tryz.prog 110 #[.string s, .string ⟨#[47, 102, 105, 108, 101, 115, 47]⟩] w fun e w' => e = .returned (.tuple #[.string (s.extract 7 s.size), .bool true]) ∧ w' = w) := by
    unfold Hid
    clear hi
    go_enter Tryz.func110, Tryz.ntmps110
    go_wp2_with fail
    refine HH.out.mono ?_
    rintro e w1 ⟨rfl, hw⟩
    rw [hw]
    go_wp2
    go_ret2
    exact ⟨rfl, rfl⟩
  clear HH hi h7 h7'
  generalize s.extract 7 s.size = x at *
  go_enter Tryz.func78, Tryz.ntmps78
  go_wp2_with fail
  refine HC.out.mono ?_
  rintro e w1 ⟨rfl, hw⟩
  rw [hw]
  go_wp2
  go_ret2
  exact ⟨rfl, rfl⟩
theorem cutPre_no (s : ByteArray) (w : World) (hs : s.size ≤ 100000) (hi : Tu.inside s = false) : Calls Tryz.prog 78 #[.string s, .string ⟨#[47, 102, 105, 108, 101, 115, 47]⟩] w fun e w' => e = .returned (.tuple #[.string s, .bool false]) ∧ w' = w := by
  have HH := Hid.mk' (hasPre_any s w hs)
  rw [hi] at HH
  have HC : Hid (Calls Tryz.prog 110 #[.string s, .string ⟨#[47, 102, 105, 108, 101, 115, 47]⟩] w fun e w' => e = .returned (.tuple #[.string s, .bool false]) ∧ w' = w) := by
    unfold Hid
    clear hi
    go_enter Tryz.func110, Tryz.ntmps110
    go_wp2_with fail
    refine HH.out.mono ?_
    rintro e w1 ⟨rfl, hw⟩
    rw [hw]
    go_wp2
    go_ret2
    exact ⟨rfl, rfl⟩
  clear HH hi
  go_enter Tryz.func78, Tryz.ntmps78
  go_wp2_with fail
  refine HC.out.mono ?_
  rintro e w1 ⟨rfl, hw⟩
  rw [hw]
  go_wp2
  go_ret2
  exact ⟨rfl, rfl⟩
end Go.Proofs.YtdclmpdjjkjfjaaGreatDoor

/- Package tus, walked: how an exchange ends; an upload that a target names. -/
namespace Go.Proofs.YtdclmpdjjkjfjaaGreatDoor
open Go.RowKit

/-- how an exchange ends: with a reply, or it gives up with one -/
inductive TuEnd (S : Nat → Prop) (w : World) (g : Nat) (r : Sr.Sh × Tu.Rep) : Ending → World → Prop
  | ret {ao : Option Addr} {cap n : Nat} {w' : World} (hn : r.2.2.length = n) (hO : OwnV w' w.heap.size 58 2 ao cap n (pairV r.2.2)) (hat : StAt w' (orNew S w) g r.1) (hT : Turns S w w') : TuEnd S w g r (.returned (.agg #[.int .i64 (r.2.1 : Int), .slice ao n cap, .slice none 0 0])) w'
  | gave {ao : Option Addr} {cap n : Nat} {w' : World} (hn : r.2.2.length = n) (hO : OwnV w' w.heap.size 58 2 ao cap n (pairV r.2.2)) (hat : StAt w' (orNew S w) g r.1) (hT : Turns S w w') : TuEnd S w g r (tgave (r.2.1 : Int) ao n cap) w'
theorem TuEnd.of {S : Nat → Prop} {w : World} {g : Nat} {r : Sr.Sh × Tu.Rep} {e : Ending} {w' : World} (h : TuDid StAt S w g r e w') : TuEnd S w g r e w' := by
  obtain ⟨⟨ao, cap, n, rfl, hn, hO⟩, hat, hT⟩ := h
  exact .ret hn hO hat hT
/-- the library's table, and an object behind it -/
structure PwIn (w0 w : World) (S : Nat → Prop) : Prop where
  pow : PowAt w0
  bel : Below w0.heap.size w0 w
  far : ∀ k, S k → w0.heap.size ≤ k
section
variable {S S' : Nat → Prop} {w0 w W W' : World} {g : Nat} {bs : List Obj} {s : Sr.Sh}
theorem TbAt.new {O : ObP} (h : TbAt O S w g bs s S' W) : ∀ k, S' k → orNew S w k := fun k e => by
  rcases h.ap k e with h2 | h2
  · exact Or.inl h2.1
  · exact Or.inr (by omega)
theorem TbAt.pow {O : ObP} (h : TbAt O S w g bs s S' W) (p : PwIn w0 w S) : PowAt W := p.pow.stay (p.bel.trans (h.tu.below (fun k e => p.far k e.1) p.bel.size))
theorem PwIn.now (p : PwIn w0 w S) : PowAt w := p.pow.stay p.bel
/-- nothing was turned, and it was given up -/
theorem TbAt.fell (h : TbAt StAt S w g bs s S' W) {rep : Tu.Rep} {e : Ending} (hg : Gave W rep e W') : Hid (TuEnd S w g (s, rep) e W') ∧ ∃ (ao : Option Addr) (cap n : Nat), e = tgave (rep.1 : Int) ao n cap := by
  obtain ⟨ao, cap, n, rfl, hn, hO, hB⟩ := hg
  have h1 := h.stay stLaw hB
  exact ⟨.gave hn (hO.mono (Nat.le_trans (Nat.le_add_right _ _) h.sz)) (h1.sh.mono (fun k _ e => h1.new k e)) (h1.tu.mono (fun k e => e.1)), ao, cap, n, rfl⟩
/-- something was turned, and it was given up -/
theorem TbAt.fellT (h : TbAt StAt S w g bs s S' W) {r : Sr.Sh × Tu.Rep} {ao : Option Addr} {cap n : Nat} (hn : r.2.2.length = n) (hO : OwnV W' W.heap.size 58 2 ao cap n (pairV r.2.2)) (hat : StAt W' (orNew S' W) g r.1) (hT : Turns S' W W') : TuEnd S w g r (tgave (r.2.1 : Int) ao n cap) W' := by
  have h1 := h.did hat hT
  exact .gave hn (hO.mono (Nat.le_trans (Nat.le_add_right _ _) h.sz)) (h1.sh.mono (fun k _ e => h1.new k e)) (h1.tu.mono (fun k e => e.1))
end
section
variable {g : Nat} {m t : ByteArray} {mi ln : Int} {l : List (ByteArray × ByteArray)} {fo : Option Addr} {fcap nf : Nat} {bo : Option Addr} {bcap nb : Nat} {w : World} {S : Nat → Prop} {s : Sr.Sh}
/-- an exchange's box, and the one behind it -/
theorem exTwo (h : StAt w S g s) (ob : Obj) : TbAt StAt S w g [.cells #[.pointer (some ⟨g, 0, none⟩), .string m, .string t, .int .i64 mi, .slice fo nf fcap, .int .i64 ln, .slice bo nb bcap] 74 (0, 0), ob] s (fun k => S k ∧ k < w.heap.size) ((w.alloc (.cells #[.pointer (some ⟨g, 0, none⟩), .string m, .string t, .int .i64 mi, .slice fo nf fcap, .int .i64 ln, .slice bo nb bcap] 74)).alloc ob) := by
  have hz : (w.alloc (.cells #[.pointer (some ⟨g, 0, none⟩), .string m, .string t, .int .i64 mi, .slice fo nf fcap, .int .i64 ln, .slice bo nb bcap] 74)).heap.size = w.heap.size + 1 := World.size_alloc ..
  exact ((TbAt.start stLaw h).box stLaw rfl (fun k e => e.2) _).box stLaw hz (fun k e => by rw [hz]; have := e.2; omega) _
theorem TbAt.ex {bs : List Obj} {S' : Nat → Prop} {s' : Sr.Sh} {W : World} (h : TbAt StAt S w g (.cells #[.pointer (some ⟨g, 0, none⟩), .string m, .string t, .int .i64 mi, .slice fo nf fcap, .int .i64 ln, .slice bo nb bcap] 74 (0, 0) :: bs) s' S' W) : W.cell? ⟨w.heap.size, 0, none⟩ = some (.pointer (some ⟨g, 0, none⟩)) ∧ W.cell? ⟨w.heap.size, 1, none⟩ = some (.string m) ∧ W.cell? ⟨w.heap.size, 2, none⟩ = some (.string t) ∧ W.cell? ⟨w.heap.size, 3, none⟩ = some (.int .i64 mi) ∧ W.cell? ⟨w.heap.size, 4, none⟩ = some (.slice fo nf fcap) ∧ W.cell? ⟨w.heap.size, 5, none⟩ = some (.int .i64 ln) ∧ W.cell? ⟨w.heap.size, 6, none⟩ = some (.slice bo nb bcap) := by
  have r := h.row 0 rfl
  exact ⟨cell_of_row W _ 0 _ _ _ r, cell_of_row W _ 1 _ _ _ r, cell_of_row W _ 2 _ _ _ r, cell_of_row W _ 3 _ _ _ r, cell_of_row W _ 4 _ _ _ r, cell_of_row W _ 5 _ _ _ r, cell_of_row W _ 6 _ _ _ r⟩
set_option maxRecDepth 100000 in
set_option maxHeartbeats 3200000 in
theorem uploadT_any (h : StAt w S g s) (ok : Sr.Ok s) (hP : PowAt w) (ht : t.size ≤ 100000) :
    (Tu.upAt s.h t = none → Calls Tryz.prog 55 #[.agg #[.pointer (some ⟨g, 0, none⟩), .string m, .string t, .int .i64 mi, .slice fo nf fcap, .int .i64 ln, .slice bo nb bcap]] w fun e w' => Gave w (Tu.said 404 []) e w') ∧
    (∀ u, Tu.upAt s.h t = some u → Calls Tryz.prog 55 #[.agg #[.pointer (some ⟨g, 0, none⟩), .string m, .string t, .int .i64 mi, .slice fo nf fcap, .int .i64 ln, .slice bo nb bcap]] w fun e w' => ∃ (ao : Option Addr) (cap : Nat), e = .returned (.agg #[.int .i64 u.id, .int .i64 u.size, .string u.note, .slice ao u.bytes.length cap, .int .i64 u.sent]) ∧ Below w.heap.size w w') := by
  have T2 : TbAt StAt S w g [.cells #[.pointer (some ⟨g, 0, none⟩), .string m, .string t, .int .i64 mi, .slice fo nf fcap, .int .i64 ln, .slice bo nb bcap] 74 (0, 0), .cells #[.int .i64 0, .int .i64 0, .string ⟨#[]⟩, .slice none 0 0, .int .i64 0] 67] s (fun k => S k ∧ k < w.heap.size) ((w.alloc (.cells #[.pointer (some ⟨g, 0, none⟩), .string m, .string t, .int .i64 mi, .slice fo nf fcap, .int .i64 ln, .slice bo nb bcap] 74)).alloc (.cells #[.int .i64 0, .int .i64 0, .string ⟨#[]⟩, .slice none 0 0, .int .i64 0] 67)) := exTwo h _
  have HB2 : Hid (Below w.heap.size w ((w.alloc (.cells #[.pointer (some ⟨g, 0, none⟩), .string m, .string t, .int .i64 mi, .slice fo nf fcap, .int .i64 ln, .slice bo nb bcap] 74)).alloc (.cells #[.int .i64 0, .int .i64 0, .string ⟨#[]⟩, .slice none 0 0, .int .i64 0] 67))) := then_ ((Below.refl _ w).alloc (Nat.le_refl _) _) ((Below.refl _ _).alloc (Nat.le_refl _) _)
  have HC : Hid (∀ W, TbAt StAt S w g [.cells #[.pointer (some ⟨g, 0, none⟩), .string m, .string t, .int .i64 mi, .slice fo nf fcap, .int .i64 ln, .slice bo nb bcap] 74 (0, 0), .cells #[.int .i64 0, .int .i64 0, .string ⟨#[]⟩, .slice none 0 0, .int .i64 0] 67] s (fun k => S k ∧ k < w.heap.size) W → W.cell? ⟨w.heap.size, 0, none⟩ = some (.pointer (some ⟨g, 0, none⟩)) ∧ W.cell? ⟨w.heap.size, 1, none⟩ = some (.string m) ∧ W.cell? ⟨w.heap.size, 2, none⟩ = some (.string t) ∧ W.cell? ⟨w.heap.size, 3, none⟩ = some (.int .i64 mi) ∧ W.cell? ⟨w.heap.size, 4, none⟩ = some (.slice fo nf fcap) ∧ W.cell? ⟨w.heap.size, 5, none⟩ = some (.int .i64 ln) ∧ W.cell? ⟨w.heap.size, 6, none⟩ = some (.slice bo nb bcap)) := fun W hW => hW.ex
  obtain ⟨x0, x1, x2, x3, x4, x5, x6⟩ := HC.out _ T2
  have H2 := Hid.mk' T2
  clear T2
  obtain ⟨gs, gl, lo, lca, P, hI⟩ := h
  have HG : Hid (∀ W, Below w.heap.size w W → W.cell? ⟨g, 0, none⟩ = some (.pointer (some ⟨gs, 0, none⟩)) ∧ SpoolAt W P gs s.h) := fun W hW => ⟨cell_of_row W _ 0 _ _ _ (hI.stay hW).row, (hI.stay hW).spool⟩
  have HOk := Hid.mk' ok
  have HPw := Hid.mk' hP
  clear hI ok hP
  cases hin : Tu.inside t with
  | false =>
    have HCu : Hid (∀ W, Calls Tryz.prog 78 #[.string t, .string ⟨#[47, 102, 105, 108, 101, 115, 47]⟩] W fun e w' => e = .returned (.tuple #[.string t, .bool false]) ∧ w' = W) := fun W => cutPre_no t W ht hin
    have HNo : Hid (∀ W, Calls Tryz.prog 79 #[.string t] W fun e w' => e = .returned (.tuple #[.int .i64 (Ch.number 10 9 t.data.toList).1, .bool (Ch.number 10 9 t.data.toList).2]) ∧ w' = W) := fun W => number10_any t W (by unfold maxLen; omega)
    have hnone : Tu.upAt s.h t = none := Tu.numT_no (fun x => by
      unfold Tu.inside at hin
      rw [decide_eq_true (by omega : 7 ≤ t.size), Bool.true_and, decide_eq_false_iff_not] at hin
      exact hin x.2.1) s.h
    refine ⟨fun _ => ?_, fun u hu => by rw [hnone] at hu; cases hu⟩
    clear hnone hin
    generalize Ch.number 10 9 t.data.toList = rn at *
    obtain ⟨n, okn⟩ := rn
    go_enter Tryz.func55, Tryz.ntmps55
    go_wp2_with fail
    refine (HCu.out _).mono ?_
    rintro e w1 ⟨rfl, hw⟩
    rw [hw]
    clear hw
    go_wp2_with fail
    refine (HNo.out _).mono ?_
    rintro e w1 ⟨rfl, hw⟩
    rw [hw]
    clear hw
    go_wp2_with fail
    refine (needT_none 404 404 rfl _).mono ?_
    rintro e w9 hG
    obtain ⟨HGv, ao9, cap9, n9, he⟩ := hG.ends HB2.out
    unfold tgave at he
    subst he
    clear hG
    go_wp2
    exact ⟨rfl, HGv.out⟩
  | true =>
    have HCu : Hid (∀ W, Calls Tryz.prog 78 #[.string t, .string ⟨#[47, 102, 105, 108, 101, 115, 47]⟩] W fun e w' => e = .returned (.tuple #[.string (t.extract 7 t.size), .bool true]) ∧ w' = W) := fun W => cutPre_yes t W ht hin
    have HNo : Hid (∀ W, Calls Tryz.prog 79 #[.string (t.extract 7 t.size)] W fun e w' => e = .returned (.tuple #[.int .i64 (Ch.number 10 9 (t.data.toList.drop 7)).1, .bool (Ch.number 10 9 (t.data.toList.drop 7)).2]) ∧ w' = W) := fun W => by
      have := number10_any (t.extract 7 t.size) W (by rw [ByteArray.size_extract]; unfold maxLen; omega)
      rw [Tu.from7] at this
      exact this
    have hin2 : t.data.toList.take 7 = Tu.bFilesS.data.toList := by
      unfold Tu.inside at hin
      rw [Bool.and_eq_true, decide_eq_true_eq, decide_eq_true_eq] at hin
      exact hin.2
    have hsm : (Ch.number 10 9 (t.data.toList.drop 7)).2 = true → 0 ≤ (Ch.number 10 9 (t.data.toList.drop 7)).1 ∧ (Ch.number 10 9 (t.data.toList.drop 7)).1 < 1000000000 ∧ 7 < t.size := fun e => ⟨(Ch.number_small e).1, (Ch.number_small e).2, by
      rcases Nat.lt_or_ge 7 t.size with h | h
      · exact h
      · exfalso
        rw [List.drop_eq_nil_of_le (by rw [Array.length_toList]; exact h)] at e
        revert e; decide⟩
    have hno : ((Ch.number 10 9 (t.data.toList.drop 7)).2 = false ∨ Ch.decF 8 (Ch.number 10 9 (t.data.toList.drop 7)).1.toNat ≠ t.data.toList.drop 7) → Tu.upAt s.h t = none := fun e => Tu.numT_no (fun x => e.elim (fun e => by have h3 := x.2.2.1; rw [e] at h3; cases h3) (fun e => e x.2.2.2)) s.h
    have hye := fun (h7 : 7 < t.size) (e : (Ch.number 10 9 (t.data.toList.drop 7)).2 = true) (e2 : Ch.decF 8 (Ch.number 10 9 (t.data.toList.drop 7)).1.toNat = t.data.toList.drop 7) => Tu.numT_yes (t := t) ⟨h7, hin2, e, e2⟩ s.h
    clear hin hin2
    generalize Ch.number 10 9 (t.data.toList.drop 7) = rn at *
    obtain ⟨n, okn⟩ := rn
    simp only at hsm hno hye
    cases okn with
    | false =>
      have hnone := hno (Or.inl rfl)
      refine ⟨fun _ => ?_, fun u hu => by rw [hnone] at hu; cases hu⟩
      clear hno hye hsm hnone
      generalize t.extract 7 t.size = nm at *
      go_enter Tryz.func55, Tryz.ntmps55
      go_wp2_with fail
      refine (HCu.out _).mono ?_
      rintro e w1 ⟨rfl, hw⟩
      rw [hw]
      clear hw
      go_wp2_with fail
      refine (HNo.out _).mono ?_
      rintro e w1 ⟨rfl, hw⟩
      rw [hw]
      clear hw
      go_wp2_with fail
      refine (needT_none 404 404 rfl _).mono ?_
      rintro e w9 hG
      obtain ⟨HGv, ao9, cap9, n9, he⟩ := hG.ends HB2.out
      unfold tgave at he
      subst he
      clear hG
      go_wp2
      exact ⟨rfl, HGv.out⟩
    | true =>
      obtain ⟨hn0, hn1, h7⟩ := hsm rfl
      have HIt : Hid (∀ W, Below w.heap.size w W → Calls Tryz.prog 77 #[.int .i64 n] W fun e w' => e = .returned (.string (Tu.dec n.toNat)) ∧ Below W.heap.size W w') := fun W hW => by
        have := itoa_any n.toNat (by omega) W (HPw.out.stay hW)
        rw [show ((n.toNat : Nat) : Int) = n from by omega] at this
        exact this
      have HI2 := Hid.mk' (HIt.out _ HB2.out)
      obtain ⟨bs, hbs⟩ : ∃ b, ((Tu.dec n.toNat).toList == (t.extract 7 t.size).toList) = b := ⟨_, rfl⟩
      have eS : Ch.decF 8 n.toNat = t.data.toList.drop 7 ↔ bs = true := by
        rw [← hbs, Lib.toList_data, Lib.toList_data, Tu.from7, beq_iff_eq]; rfl
      generalize Tu.dec n.toNat = nd at *
      cases bs with
      | false =>
        have hnone := hno (Or.inr (fun e => by have := eS.1 e; cases this))
        refine ⟨fun _ => ?_, fun u hu => by rw [hnone] at hu; cases hu⟩
        clear hno hye hsm hnone eS
        generalize t.extract 7 t.size = nm at *
        go_enter Tryz.func55, Tryz.ntmps55
        go_wp2_with fail
        refine (HCu.out _).mono ?_
        rintro e w1 ⟨rfl, hw⟩
        rw [hw]
        clear hw
        go_wp2_with fail
        refine (HNo.out _).mono ?_
        rintro e w1 ⟨rfl, hw⟩
        rw [hw]
        clear hw
        go_wp2_with fail
        refine HI2.out.mono ?_
        rintro e w3 ⟨rfl, hw3⟩
        have HB3 := Hid.mk' (then_ HB2.out hw3)
        clear hw3 HI2
        go_wp2_with fail
        refine (needT_none 404 404 rfl _).mono ?_
        rintro e w9 hG
        obtain ⟨HGv, ao9, cap9, n9, he⟩ := hG.ends HB3.out
        unfold tgave at he
        subst he
        clear hG
        go_wp2
        exact ⟨rfl, HGv.out⟩
      | true =>
        have hu := hye h7 rfl (eS.2 rfl)
        clear hno hye hsm eS
        generalize t.extract 7 t.size = nm at *
        cases hp : Sp.place s.h.l n with
        | none =>
          rw [hp] at hu
          simp only at hu
          have HGt : Hid (∀ W, Below w.heap.size w W → Calls Tryz.prog 80 #[.pointer (some ⟨gs, 0, none⟩), .int .i64 n] W fun e w' => e = .returned (.tuple #[.agg #[.int .i64 0, .int .i64 0, .string ⟨#[]⟩, .slice none 0 0, .int .i64 0], .bool false]) ∧ Below W.heap.size W w') := fun W hW => getU_none s.h P gs n W (HG.out W hW).2 HOk.out.h hp
          refine ⟨fun _ => ?_, fun u hu2 => by rw [hu] at hu2; cases hu2⟩
          clear hu hp
          go_enter Tryz.func55, Tryz.ntmps55
          go_wp2_with fail
          refine (HCu.out _).mono ?_
          rintro e w1 ⟨rfl, hw⟩
          rw [hw]
          clear hw
          go_wp2_with fail
          refine (HNo.out _).mono ?_
          rintro e w1 ⟨rfl, hw⟩
          rw [hw]
          clear hw
          go_wp2_with fail
          refine HI2.out.mono ?_
          rintro e w3 ⟨rfl, hw3⟩
          have HB3 := Hid.mk' (then_ HB2.out hw3)
          have H3 := Hid.mk' (H2.out.stay stLaw hw3)
          clear hw3 HI2 x0 x1 x2 x3 x4 x5 x6
          obtain ⟨x0, x1, x2, x3, x4, x5, x6⟩ := HC.out _ H3.out
          have g0 := (HG.out _ HB3.out).1
          go_wp2_with fail
          refine (needT_yes 404 none 0 0 _).mono ?_
          rintro e w1 ⟨rfl, hw⟩
          rw [hw]
          clear hw
          go_wp2_with fail
          refine (HGt.out _ HB3.out).mono ?_
          rintro e w4 ⟨rfl, hw4⟩
          have HB4 := Hid.mk' (then_ (then_ HB3.out hw4) ((Below.refl _ w4).alloc (Nat.le_refl _) (.cells #[.int .i64 0, .int .i64 0, .string ⟨#[]⟩, .slice none 0 0, .int .i64 0] 67)))
          clear hw4 HGt x0 x1 x2 x3 x4 x5 x6 g0
          go_wp2_with fail
          refine (needT_none 404 404 rfl _).mono ?_
          rintro e w9 hG
          obtain ⟨HGv, ao9, cap9, n9, he⟩ := hG.ends HB4.out
          unfold tgave at he
          subst he
          clear hG
          go_wp2
          exact ⟨rfl, HGv.out⟩
        | some i =>
          rw [hp] at hu
          simp only at hu
          have hi := Sp.place_lt hp
          rw [List.getElem?_eq_getElem hi] at hu
          have HGt : Hid (∀ W, Below w.heap.size w W → Calls Tryz.prog 80 #[.pointer (some ⟨gs, 0, none⟩), .int .i64 n] W fun e w' => ∃ ao cap, e = .returned (.tuple #[.agg #[.int .i64 s.h.l[i].id, .int .i64 s.h.l[i].size, .string s.h.l[i].note, .slice ao s.h.l[i].bytes.length cap, .int .i64 s.h.l[i].sent], .bool true]) ∧ IsB w' ao cap s.h.l[i].bytes ∧ Below W.heap.size W w') := fun W hW => getU_some s.h P gs n i W (HG.out W hW).2 HOk.out.h hp hi
          generalize s.h.l[i] = u0 at *
          refine ⟨fun hu2 => (by rw [hu] at hu2; cases hu2), fun u hu2 => ?_⟩
          rw [hu] at hu2
          injection hu2 with hu2
          subst hu2
          clear hu hp hi
          generalize u0.bytes.length = ub at *
          go_enter Tryz.func55, Tryz.ntmps55
          go_wp2_with fail
          refine (HCu.out _).mono ?_
          rintro e w1 ⟨rfl, hw⟩
          rw [hw]
          clear hw
          go_wp2_with fail
          refine (HNo.out _).mono ?_
          rintro e w1 ⟨rfl, hw⟩
          rw [hw]
          clear hw
          go_wp2_with fail
          refine HI2.out.mono ?_
          rintro e w3 ⟨rfl, hw3⟩
          have HB3 := Hid.mk' (then_ HB2.out hw3)
          have H3 := Hid.mk' (H2.out.stay stLaw hw3)
          clear hw3 HI2 x0 x1 x2 x3 x4 x5 x6
          obtain ⟨x0, x1, x2, x3, x4, x5, x6⟩ := HC.out _ H3.out
          have g0 := (HG.out _ HB3.out).1
          go_wp2_with fail
          refine (needT_yes 404 none 0 0 _).mono ?_
          rintro e w1 ⟨rfl, hw⟩
          rw [hw]
          clear hw
          go_wp2_with fail
          refine (HGt.out _ HB3.out).mono ?_
          rintro e w4 ⟨ao, cap, rfl, _, hw4⟩
          have hb5 := (Below.refl _ w4).alloc (Nat.le_refl _) (.cells #[.int .i64 u0.id, .int .i64 u0.size, .string u0.note, .slice ao ub cap, .int .i64 u0.sent] 67)
          have HB5 := Hid.mk' (then_ (then_ HB3.out hw4) hb5)
          have hr5 := ((H3.out.stay stLaw hw4).stay stLaw hb5).row 1 rfl
          have HR5 := Hid.mk' hr5
          have v0 : (w4.alloc (.cells #[.int .i64 u0.id, .int .i64 u0.size, .string u0.note, .slice ao ub cap, .int .i64 u0.sent] 67)).cell? ⟨w4.heap.size, 0, none⟩ = some (.int .i64 u0.id) := World.cell?_alloc_mark w4 _ _ _ 0
          have v1 : (w4.alloc (.cells #[.int .i64 u0.id, .int .i64 u0.size, .string u0.note, .slice ao ub cap, .int .i64 u0.sent] 67)).cell? ⟨w4.heap.size, 1, none⟩ = some (.int .i64 u0.size) := World.cell?_alloc_mark w4 _ _ _ 1
          have v2 : (w4.alloc (.cells #[.int .i64 u0.id, .int .i64 u0.size, .string u0.note, .slice ao ub cap, .int .i64 u0.sent] 67)).cell? ⟨w4.heap.size, 2, none⟩ = some (.string u0.note) := World.cell?_alloc_mark w4 _ _ _ 2
          have v3 : (w4.alloc (.cells #[.int .i64 u0.id, .int .i64 u0.size, .string u0.note, .slice ao ub cap, .int .i64 u0.sent] 67)).cell? ⟨w4.heap.size, 3, none⟩ = some (.slice ao ub cap) := World.cell?_alloc_mark w4 _ _ _ 3
          have v4 : (w4.alloc (.cells #[.int .i64 u0.id, .int .i64 u0.size, .string u0.note, .slice ao ub cap, .int .i64 u0.sent] 67)).cell? ⟨w4.heap.size, 4, none⟩ = some (.int .i64 u0.sent) := World.cell?_alloc_mark w4 _ _ _ 4
          have z0 := cell_of_row _ _ 0 _ _ _ hr5; have z1 := cell_of_row _ _ 1 _ _ _ hr5; have z2 := cell_of_row _ _ 2 _ _ _ hr5; have z3 := cell_of_row _ _ 3 _ _ _ hr5; have z4 := cell_of_row _ _ 4 _ _ _ hr5
          have y0 := frozen_of_row _ _ 0 _ _ hr5; have y1 := frozen_of_row _ _ 1 _ _ hr5; have y2 := frozen_of_row _ _ 2 _ _ hr5; have y3 := frozen_of_row _ _ 3 _ _ hr5; have y4 := frozen_of_row _ _ 4 _ _ hr5
          simp at z0 z1 z2 z3 z4
          clear hw4 HGt x0 x1 x2 x3 x4 x5 x6 g0 hb5 hr5
          go_upto_region 5 with fail
          generalize (w4.alloc (.cells #[.int .i64 u0.id, .int .i64 u0.size, .string u0.note, .slice ao ub cap, .int .i64 u0.sent] 67)) = w5 at *
          generalize w4.heap.size = k4 at *
          go_wp2_with fail
          refine (needT_yes 404 none 0 0 _).mono ?_
          rintro e w1 ⟨rfl, hw⟩
          rw [hw]
          clear hw
          go_wp2
          have hb6 := ((((HB5.out.setCell (p := ⟨w.heap.size + 1, 0, none⟩) (Nat.le_add_right _ _) (.int .i64 u0.id)).setCell (p := ⟨w.heap.size + 1, 1, none⟩) (Nat.le_add_right _ _) (.int .i64 u0.size)).setCell (p := ⟨w.heap.size + 1, 2, none⟩) (Nat.le_add_right _ _) (.string u0.note)).setCell (p := ⟨w.heap.size + 1, 3, none⟩) (Nat.le_add_right _ _) (.slice ao ub cap)).setCell (p := ⟨w.heap.size + 1, 4, none⟩) (Nat.le_add_right _ _) (.int .i64 u0.sent)
          have hr6 := heap_setCell_same _ _ 4 _ _ (.int .i64 u0.sent) (heap_setCell_same _ _ 3 _ _ (.slice ao ub cap) (heap_setCell_same _ _ 2 _ _ (.string u0.note) (heap_setCell_same _ _ 1 _ _ (.int .i64 u0.size) (heap_setCell_same _ _ 0 _ _ (.int .i64 u0.id) HR5.out))))
          generalize (((((w5.setCell ⟨w.heap.size + 1, 0, none⟩ (Value.int .i64 u0.id)).setCell ⟨w.heap.size + 1, 1, none⟩ (Value.int .i64 u0.size)).setCell ⟨w.heap.size + 1, 2, none⟩ (Value.string u0.note)).setCell ⟨w.heap.size + 1, 3, none⟩ (Value.slice ao ub cap)).setCell ⟨w.heap.size + 1, 4, none⟩ (Value.int .i64 u0.sent)) = w6 at hb6 hr6 ⊢
          have r0 : w6.cell? ⟨w.heap.size + 1, 0, none⟩ = some (.int .i64 u0.id) := cell_of_row w6 _ 0 _ _ _ hr6
          have r1 : w6.cell? ⟨w.heap.size + 1, 1, none⟩ = some (.int .i64 u0.size) := cell_of_row w6 _ 1 _ _ _ hr6
          have r2 : w6.cell? ⟨w.heap.size + 1, 2, none⟩ = some (.string u0.note) := cell_of_row w6 _ 2 _ _ _ hr6
          have r3 : w6.cell? ⟨w.heap.size + 1, 3, none⟩ = some (.slice ao ub cap) := cell_of_row w6 _ 3 _ _ _ hr6
          have r4 : w6.cell? ⟨w.heap.size + 1, 4, none⟩ = some (.int .i64 u0.sent) := cell_of_row w6 _ 4 _ _ _ hr6
          exact bodyPost_ret (v := .agg #[.int .i64 u0.id, .int .i64 u0.size, .string u0.note, .slice ao ub cap, .int .i64 u0.sent]) (by simp [results, Tryz.results55, go_sem, r0, r1, r2, r3, r4]) rfl ⟨ao, cap, rfl, hb6⟩
end
end Go.Proofs.YtdclmpdjjkjfjaaGreatDoor

/- Package tus, walked: remove. -/
namespace Go.Proofs.YtdclmpdjjkjfjaaGreatDoor
open Go.RowKit

section
variable {g : Nat} {m t : ByteArray} {mi ln : Int} {l : List (ByteArray × ByteArray)} {fo : Option Addr} {fcap nf : Nat} {bo : Option Addr} {bcap nb : Nat} {w w0 : World} {S : Nat → Prop} {s : Sr.Sh}
/-- an exchange's box, an upload's, and a reply's -/
theorem exThree (h : StAt w S g s) (ob oc : Obj) : TbAt StAt S w g [.cells #[.pointer (some ⟨g, 0, none⟩), .string m, .string t, .int .i64 mi, .slice fo nf fcap, .int .i64 ln, .slice bo nb bcap] 74 (0, 0), ob, oc] s (fun k => S k ∧ k < w.heap.size) (((w.alloc (.cells #[.pointer (some ⟨g, 0, none⟩), .string m, .string t, .int .i64 mi, .slice fo nf fcap, .int .i64 ln, .slice bo nb bcap] 74)).alloc ob).alloc oc) := by
  have hz : ((w.alloc (.cells #[.pointer (some ⟨g, 0, none⟩), .string m, .string t, .int .i64 mi, .slice fo nf fcap, .int .i64 ln, .slice bo nb bcap] 74)).alloc ob).heap.size = w.heap.size + 2 := by rw [World.size_alloc, World.size_alloc]
  exact (exTwo h ob).box stLaw hz (fun k e => by rw [hz]; have := e.2; omega) _
theorem TbAt.up {bs : List Obj} {S' : Nat → Prop} {s' : Sr.Sh} {W : World} {u : Sp.Up} {uo : Option Addr} {un ucap : Nat} (h : TbAt StAt S w g (.cells #[.pointer (some ⟨g, 0, none⟩), .string m, .string t, .int .i64 mi, .slice fo nf fcap, .int .i64 ln, .slice bo nb bcap] 74 (0, 0) :: .cells #[.int .i64 u.id, .int .i64 u.size, .string u.note, .slice uo un ucap, .int .i64 u.sent] 67 (0, 0) :: bs) s' S' W) : W.cell? ⟨w.heap.size + 1, 0, none⟩ = some (.int .i64 u.id) ∧ W.cell? ⟨w.heap.size + 1, 1, none⟩ = some (.int .i64 u.size) ∧ W.cell? ⟨w.heap.size + 1, 2, none⟩ = some (.string u.note) ∧ W.cell? ⟨w.heap.size + 1, 3, none⟩ = some (.slice uo un ucap) ∧ W.cell? ⟨w.heap.size + 1, 4, none⟩ = some (.int .i64 u.sent) := by
  have r := h.row 1 rfl
  exact ⟨cell_of_row W _ 0 _ _ _ r, cell_of_row W _ 1 _ _ _ r, cell_of_row W _ 2 _ _ _ r, cell_of_row W _ 3 _ _ _ r, cell_of_row W _ 4 _ _ _ r⟩
set_option maxRecDepth 100000 in
set_option maxHeartbeats 1600000 in
theorem removeT_any (h : StAt w S g s) (ok : Sr.Ok s) (u : Sp.Up) (uo : Option Addr) (un ucap : Nat) (hd : (Sr.drop s u.id).2 = 0) :
    Calls Tryz.prog 58 #[.agg #[.pointer (some ⟨g, 0, none⟩), .string m, .string t, .int .i64 mi, .slice fo nf fcap, .int .i64 ln, .slice bo nb bcap], .agg #[.int .i64 u.id, .int .i64 u.size, .string u.note, .slice uo un ucap, .int .i64 u.sent]] w fun e w' => TuEnd S w g (Sr.sync (Sr.drop s u.id).1, Tu.said 204 []) e w' := by
  have T3 : TbAt StAt S w g [.cells #[.pointer (some ⟨g, 0, none⟩), .string m, .string t, .int .i64 mi, .slice fo nf fcap, .int .i64 ln, .slice bo nb bcap] 74 (0, 0), .cells #[.int .i64 u.id, .int .i64 u.size, .string u.note, .slice uo un ucap, .int .i64 u.sent] 67 (0, 0), .cells #[.int .i64 0, .slice none 0 0, .slice none 0 0] 32 (0, 0)] s (fun k => S k ∧ k < w.heap.size) (((w.alloc (.cells #[.pointer (some ⟨g, 0, none⟩), .string m, .string t, .int .i64 mi, .slice fo nf fcap, .int .i64 ln, .slice bo nb bcap] 74)).alloc (.cells #[.int .i64 u.id, .int .i64 u.size, .string u.note, .slice uo un ucap, .int .i64 u.sent] 67)).alloc (.cells #[.int .i64 0, .slice none 0 0, .slice none 0 0] 32)) := exThree h _ _
  have HC : Hid (∀ W s' S', TbAt StAt S w g [.cells #[.pointer (some ⟨g, 0, none⟩), .string m, .string t, .int .i64 mi, .slice fo nf fcap, .int .i64 ln, .slice bo nb bcap] 74 (0, 0), .cells #[.int .i64 u.id, .int .i64 u.size, .string u.note, .slice uo un ucap, .int .i64 u.sent] 67 (0, 0), .cells #[.int .i64 0, .slice none 0 0, .slice none 0 0] 32 (0, 0)] s' S' W → W.cell? ⟨w.heap.size, 0, none⟩ = some (.pointer (some ⟨g, 0, none⟩)) ∧ W.cell? ⟨w.heap.size, 1, none⟩ = some (.string m) ∧ W.cell? ⟨w.heap.size, 2, none⟩ = some (.string t) ∧ W.cell? ⟨w.heap.size, 3, none⟩ = some (.int .i64 mi) ∧ W.cell? ⟨w.heap.size, 4, none⟩ = some (.slice fo nf fcap) ∧ W.cell? ⟨w.heap.size, 5, none⟩ = some (.int .i64 ln) ∧ W.cell? ⟨w.heap.size, 6, none⟩ = some (.slice bo nb bcap)) := fun W s' S' hW => hW.ex
  obtain ⟨x0, x1, x2, x3, x4, x5, x6⟩ := HC.out _ _ _ T3
  obtain ⟨v0, v1, v2, v3, v4⟩ := T3.up
  have H3 := Hid.mk' T3
  have HDr := Hid.mk' (dropSt_any T3.sh ok u.id)
  have HD0 := Hid.mk' hd
  have HD : Hid ((Sr.sync (Sr.drop s u.id).1, Tu.said 204 []) = (Sr.sync (Sr.drop s u.id).1, Tu.said 204 [])) := by unfold Hid; rfl
  obtain ⟨R, hR⟩ : ∃ R, R = (Sr.sync (Sr.drop s u.id).1, Tu.said 204 []) := ⟨_, rfl⟩
  rw [← hR]
  clear HD
  have HD := Hid.mk' hR
  clear T3 ok h hd hR
  go_enter Tryz.func58, Tryz.ntmps58
  go_wp2_with fail
  refine HDr.out.mono ?_
  rintro e w4 ⟨rfl, hat4, hT4⟩
  have H4 := Hid.mk' (H3.out.did hat4 hT4)
  clear hat4 hT4 HDr H3 v0 v1 v2 v3 v4 x0 x1 x2 x3 x4 x5 x6
  generalize Sr.drop s u.id = ra at *
  obtain ⟨sa, ca⟩ := ra
  simp only at HD HD0 H4 ⊢
  obtain ⟨x0, x1, x2, x3, x4, x5, x6⟩ := HC.out _ _ _ H4.out
  have HSy := Hid.mk' (syncSt_any H4.out.sh)
  go_wp2_with fail
  refine HSy.out.mono ?_
  rintro e w5 ⟨rfl, hat5, hT5⟩
  have H5 := Hid.mk' (H4.out.turned hat5 hT5)
  have HAn := Hid.mk' (answerT_lit 204 204 rfl [] none 0 0 w5 (IsV.nil w5) rfl (by decide))
  clear hat5 hT5 HSy H4 x0 x1 x2 x3 x4 x5 x6
  go_wp2_with fail
  refine HAn.out.mono ?_
  rintro e w9 ⟨ao9, cap9, n9, rfl, hn9, hO9, hB9⟩
  obtain ⟨⟨z0, z1, z2, y0, y1, y2⟩, HE⟩ := H5.out.ends stLaw (i := 2) rfl (b := w.heap.size + 2) (by first | rfl | omega) (st := 204) (sti := 204) rfl hn9 (Nat.le_trans (Nat.le_add_right _ _) H5.out.sz) hO9 hB9
  clear hn9 hO9 hB9
  go_wp2
  generalize (((w9.setCell ⟨w.heap.size + 2, 0, none⟩ (.int .i64 204)).setCell ⟨w.heap.size + 2, 1, none⟩ (.slice ao9 n9 cap9)).setCell ⟨w.heap.size + 2, 2, none⟩ (.slice none 0 0)) = wf at *
  obtain ⟨q0, q1, q2, q3⟩ := HE.out
  refine bodyPost_ret (v := .agg #[.int .i64 204, .slice ao9 n9 cap9, .slice none 0 0]) (by simp [results, Tryz.results58, go_sem, q0, q1, q2]) rfl ?_
  rw [HD.out]
  exact TuEnd.of q3
end
end Go.Proofs.YtdclmpdjjkjfjaaGreatDoor

/- Package tus, walked: extend. -/
namespace Go.Proofs.YtdclmpdjjkjfjaaGreatDoor
open Go.RowKit

section
variable {g : Nat} {m t : ByteArray} {mi ln : Int} {l : List (ByteArray × ByteArray)} {fo : Option Addr} {fcap nf : Nat} {bo : Option Addr} {bcap nb : Nat} {w w0 : World} {S : Nat → Prop} {s : Sr.Sh}
/-- the number of a field: none, not there, there -/
theorem numberT_three (name : ByteArray) (hN : name.size ≤ 2000) (h : FlIn w l fo fcap nf) :
    ((Tu.numIn (Tu.one (Tu.vals name l))).2 = false ∧ Hid (∀ W, Below w.heap.size w W → Calls Tryz.prog 82 #[.agg #[.pointer (some ⟨g, 0, none⟩), .string m, .string t, .int .i64 mi, .slice fo nf fcap, .int .i64 ln, .slice bo nb bcap], .string name] W fun e w' => Gave W (Tu.said 400 []) e w')) ∨
    (Tu.numIn (Tu.one (Tu.vals name l)) = (-1, true) ∧ Hid (∀ W, Below w.heap.size w W → Calls Tryz.prog 82 #[.agg #[.pointer (some ⟨g, 0, none⟩), .string m, .string t, .int .i64 mi, .slice fo nf fcap, .int .i64 ln, .slice bo nb bcap], .string name] W fun e w' => e = .returned (.tuple #[.int .i64 0, .bool false]) ∧ Below W.heap.size W w')) ∨
    (∃ x : Int, 0 ≤ x ∧ x < 1000000000 ∧ Tu.numIn (Tu.one (Tu.vals name l)) = (x, true) ∧ Hid (∀ W, Below w.heap.size w W → Calls Tryz.prog 82 #[.agg #[.pointer (some ⟨g, 0, none⟩), .string m, .string t, .int .i64 mi, .slice fo nf fcap, .int .i64 ln, .slice bo nb bcap], .string name] W fun e w' => e = .returned (.tuple #[.int .i64 x, .bool true]) ∧ Below W.heap.size W w')) := by
  by_cases hc : (Tu.one (Tu.vals name l)).2 = 10
  · exact Or.inr (Or.inl ⟨Tu.numIn_none hc, fun W hW => numberT_none name hN (h.stay hW) hc⟩)
  · cases hb : (Tu.numIn (Tu.one (Tu.vals name l))).2 with
    | false => exact Or.inl ⟨rfl, fun W hW => numberT_no name hN (h.stay hW) hb⟩
    | true =>
      have he : Tu.numIn (Tu.one (Tu.vals name l)) = ((Tu.numIn (Tu.one (Tu.vals name l))).1, true) := by rw [← hb]
      refine Or.inr (Or.inr ⟨_, Tu.numIn_pos hc he, ?_, he, fun W hW => numberT_yes name hN (h.stay hW) hc he⟩)
      generalize Tu.one (Tu.vals name l) = r at *
      unfold Tu.numIn at hb ⊢
      rw [if_neg hc] at hb ⊢
      rw [Bool.and_eq_true] at hb
      exact (Ch.number_small hb.1).2
set_option maxRecDepth 100000 in
set_option maxHeartbeats 8000000 in
theorem extendT_any (p : PwIn w0 w S) (h : StAt w S g s) (ok : Sr.Ok s) (hF : FlIn w l fo fcap nf) (body : List UInt8) (hb : body.length = nb) (hB : IsB w bo bcap body) (hnb : nb ≤ 100000) (u : Sp.Up) (uo : Option Addr) (un ucap : Nat) (hun : u.bytes.length = un) (hul : un ≤ 2000) (hs0 : -1 ≤ u.size) :
    Calls Tryz.prog 57 #[.agg #[.pointer (some ⟨g, 0, none⟩), .string m, .string t, .int .i64 mi, .slice fo nf fcap, .int .i64 ln, .slice bo nb bcap], .agg #[.int .i64 u.id, .int .i64 u.size, .string u.note, .slice uo un ucap, .int .i64 u.sent]] w fun e w' => TuEnd S w g (Tu.patch s u l body) e w' := by
  have T3 : TbAt StAt S w g [.cells #[.pointer (some ⟨g, 0, none⟩), .string m, .string t, .int .i64 mi, .slice fo nf fcap, .int .i64 ln, .slice bo nb bcap] 74 (0, 0), .cells #[.int .i64 u.id, .int .i64 u.size, .string u.note, .slice uo un ucap, .int .i64 u.sent] 67 (0, 0), .cells #[.int .i64 0, .slice none 0 0, .slice none 0 0] 32 (0, 0)] s (fun k => S k ∧ k < w.heap.size) (((w.alloc (.cells #[.pointer (some ⟨g, 0, none⟩), .string m, .string t, .int .i64 mi, .slice fo nf fcap, .int .i64 ln, .slice bo nb bcap] 74)).alloc (.cells #[.int .i64 u.id, .int .i64 u.size, .string u.note, .slice uo un ucap, .int .i64 u.sent] 67)).alloc (.cells #[.int .i64 0, .slice none 0 0, .slice none 0 0] 32)) := exThree h _ _
  have HB3 : Hid (Below w.heap.size w (((w.alloc (.cells #[.pointer (some ⟨g, 0, none⟩), .string m, .string t, .int .i64 mi, .slice fo nf fcap, .int .i64 ln, .slice bo nb bcap] 74)).alloc (.cells #[.int .i64 u.id, .int .i64 u.size, .string u.note, .slice uo un ucap, .int .i64 u.sent] 67)).alloc (.cells #[.int .i64 0, .slice none 0 0, .slice none 0 0] 32))) := then_ (then_ ((Below.refl _ w).alloc (Nat.le_refl _) _) ((Below.refl _ _).alloc (Nat.le_refl _) _)) ((Below.refl _ _).alloc (Nat.le_refl _) _)
  have HC : Hid (∀ W s' S', TbAt StAt S w g [.cells #[.pointer (some ⟨g, 0, none⟩), .string m, .string t, .int .i64 mi, .slice fo nf fcap, .int .i64 ln, .slice bo nb bcap] 74 (0, 0), .cells #[.int .i64 u.id, .int .i64 u.size, .string u.note, .slice uo un ucap, .int .i64 u.sent] 67 (0, 0), .cells #[.int .i64 0, .slice none 0 0, .slice none 0 0] 32 (0, 0)] s' S' W → W.cell? ⟨w.heap.size, 0, none⟩ = some (.pointer (some ⟨g, 0, none⟩)) ∧ W.cell? ⟨w.heap.size, 1, none⟩ = some (.string m) ∧ W.cell? ⟨w.heap.size, 2, none⟩ = some (.string t) ∧ W.cell? ⟨w.heap.size, 3, none⟩ = some (.int .i64 mi) ∧ W.cell? ⟨w.heap.size, 4, none⟩ = some (.slice fo nf fcap) ∧ W.cell? ⟨w.heap.size, 5, none⟩ = some (.int .i64 ln) ∧ W.cell? ⟨w.heap.size, 6, none⟩ = some (.slice bo nb bcap)) := fun W s' S' hW => hW.ex
  have HU : Hid (∀ W s' S', TbAt StAt S w g [.cells #[.pointer (some ⟨g, 0, none⟩), .string m, .string t, .int .i64 mi, .slice fo nf fcap, .int .i64 ln, .slice bo nb bcap] 74 (0, 0), .cells #[.int .i64 u.id, .int .i64 u.size, .string u.note, .slice uo un ucap, .int .i64 u.sent] 67 (0, 0), .cells #[.int .i64 0, .slice none 0 0, .slice none 0 0] 32 (0, 0)] s' S' W → W.cell? ⟨w.heap.size + 1, 0, none⟩ = some (.int .i64 u.id) ∧ W.cell? ⟨w.heap.size + 1, 1, none⟩ = some (.int .i64 u.size) ∧ W.cell? ⟨w.heap.size + 1, 2, none⟩ = some (.string u.note) ∧ W.cell? ⟨w.heap.size + 1, 3, none⟩ = some (.slice uo un ucap) ∧ W.cell? ⟨w.heap.size + 1, 4, none⟩ = some (.int .i64 u.sent)) := fun W s' S' hW => hW.up
  have H3 := Hid.mk' T3
  obtain ⟨x0, x1, x2, x3, x4, x5, x6⟩ := HC.out _ _ _ H3.out
  obtain ⟨v0, v1, v2, v3, v4⟩ := HU.out _ _ _ H3.out
  have HF := Hid.mk' hF; have HOk := Hid.mk' ok; have HPw := Hid.mk' p
  have HBd : Hid (∀ W, Below w.heap.size w W → IsB W bo bcap body) := fun W hW => hB.stay hW
  have HBl := Hid.mk' hb
  have hN1 := numberT_three (g := g) (m := m) (t := t) (mi := mi) (ln := ln) (bo := bo) (bcap := bcap) (nb := nb) Tu.fUO (by decide) hF
  have hN2 := numberT_three (g := g) (m := m) (t := t) (mi := mi) (ln := ln) (bo := bo) (bcap := bcap) (nb := nb) Tu.fUL (by decide) hF
  rw [Tu.vals_fUO] at hN1
  rw [Tu.vals_fUL] at hN2
  unfold Tu.fUO at hN1
  unfold Tu.fUL at hN2
  have HS1 : Hid (∀ x W, 0 ≤ u.size → x ≠ u.size → Calls Tryz.prog 83 #[.agg #[.int .i64 u.id, .int .i64 u.size, .string u.note, .slice uo un ucap, .int .i64 u.sent], .int .i64 x, .int .i64 ((un : Int) + nb)] W fun e w' => Gave W (Tu.said 400 []) e w') := fun x W => (needSize_any u.id u.size u.sent x ((un : Int) + nb) u.note uo un ucap W hs0).1
  have HS2 : Hid (∀ x W, u.size < 0 → (2000 < x ∨ x < (un : Int) + nb) → Calls Tryz.prog 83 #[.agg #[.int .i64 u.id, .int .i64 u.size, .string u.note, .slice uo un ucap, .int .i64 u.sent], .int .i64 x, .int .i64 ((un : Int) + nb)] W fun e w' => Gave W (Tu.said 413 []) e w') := fun x W => (needSize_any u.id u.size u.sent x ((un : Int) + nb) u.note uo un ucap W hs0).2.1
  have HS3 : Hid (∀ x W, (0 ≤ u.size ∧ x = u.size) ∨ (u.size < 0 ∧ ¬ (2000 < x ∨ x < (un : Int) + nb)) → Calls Tryz.prog 83 #[.agg #[.int .i64 u.id, .int .i64 u.size, .string u.note, .slice uo un ucap, .int .i64 u.sent], .int .i64 x, .int .i64 ((un : Int) + nb)] W fun e w' => e = .returned (.tuple #[]) ∧ Below W.heap.size W w') := fun x W => (needSize_any u.id u.size u.sent x ((un : Int) + nb) u.note uo un ucap W hs0).2.2
  clear T3 hF ok p h hB
  obtain ⟨R, hR⟩ : ∃ R, R = Tu.patch s u l body := ⟨_, rfl⟩
  rw [← hR]
  unfold Tu.patch at hR
  rw [hun, hb] at hR
  have HD := Hid.mk' hR
  clear hR hun hb
  go_enter Tryz.func57, Tryz.ntmps57
  by_cases hc9 : (Tu.one (Tu.vals Tu.nCT l)).2 = 9
  · rw [if_pos hc9] at HD
    have HM := Hid.mk' (mediaT_many (g := g) (m := m) (t := t) (mi := mi) (ln := ln) (bo := bo) (bcap := bcap) (nb := nb) (HF.out.stay HB3.out) hc9)
    clear hc9 hN1 hN2
    go_wp2_with fail
    refine (HM.out).mono ?_
    rintro e w9 hG
    obtain ⟨HE, ao9, cap9, n9, he⟩ := H3.out.fell hG
    unfold tgave at he
    subst he
    clear hG
    go_wp2
    exact ⟨rfl, by rw [HD.out]; exact HE.out⟩
  rw [if_neg hc9] at HD
  obtain ⟨hm1, hm2⟩ := mediaT_any (g := g) (m := m) (t := t) (mi := mi) (ln := ln) (bo := bo) (bcap := bcap) (nb := nb) (HF.out.stay HB3.out) hc9
  clear hc9
  cases hoff : Tu.isOff (Tu.one (Tu.vals Tu.nCT l)).1 with
  | false =>
    rw [if_pos hoff] at HD
    have HM := Hid.mk' (hm1 hoff)
    clear hm1 hm2 hoff hN1 hN2
    go_wp2_with fail
    refine (HM.out).mono ?_
    rintro e w9 hG
    obtain ⟨HE, ao9, cap9, n9, he⟩ := H3.out.fell hG
    unfold tgave at he
    subst he
    clear hG
    go_wp2
    exact ⟨rfl, by rw [HD.out]; exact HE.out⟩
  | true =>
  rw [if_neg (by rw [hoff]; simp)] at HD
  have HM := Hid.mk' (hm2 hoff)
  clear hm1 hm2 hoff
  go_wp2_with fail
  refine (HM.out).mono ?_
  rintro e w4 ⟨rfl, hw⟩
  have HB4 := Hid.mk' (then_ HB3.out hw)
  have H4 := Hid.mk' (H3.out.stay stLaw hw)
  clear hw H3 HB3 x0 x1 x2 x3 x4 x5 x6 v0 v1 v2 v3 v4
  obtain ⟨x0, x1, x2, x3, x4, x5, x6⟩ := HC.out _ _ _ H4.out
  obtain ⟨v0, v1, v2, v3, v4⟩ := HU.out _ _ _ H4.out
  clear HM
  rcases hN1 with ⟨hx, HN⟩ | ⟨hx, HN⟩ | ⟨x, hx0, hx1, hx, HN⟩
  · rw [if_pos (Or.inl hx)] at HD
    clear hx hN2
    go_wp2_with fail
    refine (HN.out _ HB4.out).mono ?_
    rintro e w9 hG
    obtain ⟨HE, ao9, cap9, n9, he⟩ := H4.out.fell hG
    unfold tgave at he
    subst he
    clear hG
    go_wp2
    exact ⟨rfl, by rw [HD.out]; exact HE.out⟩
  · rw [if_pos (Or.inr (by rw [hx]; decide))] at HD
    clear hx hN2
    go_wp2_with fail
    refine (HN.out _ HB4.out).mono ?_
    rintro e w5 ⟨rfl, hw⟩
    have HB5 := Hid.mk' (then_ HB4.out hw)
    have H5 := Hid.mk' (H4.out.stay stLaw hw)
    clear hw H4 HB4 x0 x1 x2 x3 x4 x5 x6 v0 v1 v2 v3 v4
    obtain ⟨x0, x1, x2, x3, x4, x5, x6⟩ := HC.out _ _ _ H5.out
    obtain ⟨v0, v1, v2, v3, v4⟩ := HU.out _ _ _ H5.out
    go_wp2_with fail
    refine (needT_none 400 400 rfl _).mono ?_
    rintro e w9 hG
    obtain ⟨HE, ao9, cap9, n9, he⟩ := H5.out.fell hG
    unfold tgave at he
    subst he
    clear hG
    go_wp2
    exact ⟨rfl, by rw [HD.out]; exact HE.out⟩
  rw [if_neg (by rw [hx]; exact fun e => e.elim (fun e => by cases e) (fun e => absurd e (by show ¬ x < 0; omega)))] at HD
  rw [hx] at HD
  simp only at HD
  clear hx
  go_wp2_with fail
  refine (HN.out _ HB4.out).mono ?_
  rintro e w5 ⟨rfl, hw⟩
  have HB5 := Hid.mk' (then_ HB4.out hw)
  have H5 := Hid.mk' (H4.out.stay stLaw hw)
  clear hw H4 HB4 x0 x1 x2 x3 x4 x5 x6 v0 v1 v2 v3 v4
  obtain ⟨x0, x1, x2, x3, x4, x5, x6⟩ := HC.out _ _ _ H5.out
  obtain ⟨v0, v1, v2, v3, v4⟩ := HU.out _ _ _ H5.out
  clear HN
  go_wp2_with fail
  refine (needT_yes 400 none 0 0 _).mono ?_
  rintro e wq ⟨rfl, hw⟩
  rw [hw]
  clear hw
  by_cases hxu : x = (un : Int)
  case neg =>
    rw [if_pos hxu] at HD
    have tx : (x == (un : Int)) = false := by rw [beq_eq_false_iff_ne]; exact hxu
    clear hxu hN2
    go_wp2_with fail
    refine (needT_none 409 409 rfl _).mono ?_
    rintro e w9 hG
    obtain ⟨HE, ao9, cap9, n9, he⟩ := H5.out.fell hG
    unfold tgave at he
    subst he
    clear hG
    go_wp2
    exact ⟨rfl, by rw [HD.out]; exact HE.out⟩
  rw [if_neg (fun e => e hxu)] at HD
  subst hxu
  clear hx0 hx1
  go_wp2_with fail
  refine (needT_yes 409 none 0 0 _).mono ?_
  rintro e wq ⟨rfl, hw⟩
  rw [hw]
  clear hw
  rcases hN2 with ⟨hy, HN⟩ | ⟨hy, HN⟩ | ⟨y, hy0, hy1, hy, HN⟩
  · rw [if_pos (Or.inl hy)] at HD
    clear hy
    go_wp2_with fail
    refine (HN.out _ HB5.out).mono ?_
    rintro e w9 hG
    obtain ⟨HE, ao9, cap9, n9, he⟩ := H5.out.fell hG
    unfold tgave at he
    subst he
    clear hG
    go_wp2
    exact ⟨rfl, by rw [HD.out]; exact HE.out⟩
  · have hte : Tu.tell u l ↔ (0 ≤ (-1 : Int) ∧ u.size < 0) := by unfold Tu.tell; rw [hy]
    rw [hy] at HD
    simp only at HD
    rw [if_neg (fun e => e.elim (fun e => by cases e) (fun e => by have := e.1; omega)), if_neg (fun e => by have := (hte.1 e.1).1; omega)] at HD
    have HTe := Hid.mk' hte
    clear hy hte
    go_wp2_with fail
    refine (HN.out _ HB5.out).mono ?_
    rintro e w6 ⟨rfl, hw⟩
    have HB6 := Hid.mk' (then_ HB5.out hw)
    have H6 := Hid.mk' (H5.out.stay stLaw hw)
    clear hw H5 HB5 x0 x1 x2 x3 x4 x5 x6 v0 v1 v2 v3 v4
    obtain ⟨x0, x1, x2, x3, x4, x5, x6⟩ := HC.out _ _ _ H6.out
    obtain ⟨v0, v1, v2, v3, v4⟩ := HU.out _ _ _ H6.out
    obtain ⟨brm, hbrm⟩ : ∃ b, (decide ((0 : Int) ≤ (nb : Int) + 60) && decide ((nb : Int) + 60 ≤ 100000 - (s.log.length : Int))) = b := ⟨_, rfl⟩
    have eR : brm = false ↔ 100000 < s.log.length + (nb + 60) := by
      rw [← hbrm, Bool.and_eq_false_iff, decide_eq_false_iff_not, decide_eq_false_iff_not]
      omega
    have HRm := Hid.mk' (roomSt_any H6.out.sh ((nb : Int) + 60))
    rw [hbrm] at HRm
    clear hbrm
    go_wp2_with fail
    refine HRm.out.mono ?_
    rintro e wq ⟨rfl, hw⟩
    rw [hw]
    clear hw
    clear HRm
    cases brm with
    | false =>
      rw [if_pos (eR.1 rfl)] at HD
      go_wp2_with fail
      refine (needT_none 507 507 rfl _).mono ?_
      rintro e w9 hG
      obtain ⟨HE, ao9, cap9, n9, he⟩ := H6.out.fell hG
      unfold tgave at he
      subst he
      clear hG
      go_wp2
      exact ⟨rfl, by rw [HD.out]; exact HE.out⟩
    | true =>
      rw [if_neg (fun e => by have := eR.2 e; cases this)] at HD
      clear eR
      go_wp2_with fail
      refine (needT_yes 507 none 0 0 _).mono ?_
      rintro e wq ⟨rfl, hw⟩
      rw [hw]
      clear hw
      have HAp := Hid.mk' (appendSt_any H6.out.sh HOk.out u.id (un : Int) bo nb bcap body (HBd.out _ HB6.out) HBl.out (by omega))
      have HSm : Hid ((Sr.append s u.id (un : Int) body).2 ≠ 0 → (Sr.append s u.id (un : Int) body).1 = s) := fun e => by unfold Sr.append at e ⊢; exact Tu.write_same e
      have HOa : Hid (Sr.Ok (Sr.append s u.id (un : Int) body).1) := HOk.out.append _ _ _
      go_wp2_with fail
      refine HAp.out.mono ?_
      rintro e w20 ⟨rfl, hat, hT⟩
      have H20 := Hid.mk' (H6.out.did hat hT)
      clear hat hT HAp H6 HB6 x0 x1 x2 x3 x4 x5 x6 v0 v1 v2 v3 v4
      generalize Sr.append s u.id (un : Int) body = ra at *
      obtain ⟨sa, ca⟩ := ra
      simp only at HD HSm H20 HOa ⊢
      obtain ⟨x0, x1, x2, x3, x4, x5, x6⟩ := HC.out _ _ _ H20.out
      obtain ⟨v0, v1, v2, v3, v4⟩ := HU.out _ _ _ H20.out
      by_cases hca : ca = 0
      · subst hca
        rw [if_neg (by simp)] at HD
        clear HSm
        go_wp2_with fail
        refine (needDone_yes _).mono ?_
        rintro e wq ⟨rfl, hw⟩
        rw [hw]
        clear hw
        rw [if_neg (fun e => by have := (HTe.out.1 e).1; omega)] at HD
        have HSy := Hid.mk' (syncSt_any H20.out.sh)
        go_wp2_with fail
        refine HSy.out.mono ?_
        rintro e w22 ⟨rfl, hat6, hT6⟩
        have H22 := Hid.mk' (H20.out.turned hat6 hT6)
        have HCt := Hid.mk' (countT_any Tu.fUO (un + nb) ((un : Int) + nb) (by omega) (by omega) w22 (H22.out.pow HPw.out))
        unfold Tu.fUO at HCt
        generalize Tu.dec (un + nb) = db at *
        clear hat6 hT6 HSy H20 x0 x1 x2 x3 x4 x5 x6 v0 v1 v2 v3 v4
        go_wp2_with fail
        refine HCt.out.mono ?_
        rintro e w23 ⟨rfl, hw⟩
        have H23 := Hid.mk' ((H22.out.stay stLaw hw).stay stLaw ((Below.refl _ w23).alloc (Nat.le_refl _) (.cells #[.string Tu.fUO, .string db] 58)))
        have HAn := Hid.mk' (answerT_lit 204 204 rfl [(Tu.fUO, db)] (some ⟨w23.heap.size, 0, none⟩) 1 1 _ (IsV.made w23 #[.string Tu.fUO, .string db] 1 58 (0, 0)) rfl (by decide))
        unfold Tu.fUO at HAn H23
        clear hw HCt H22
        go_wp2_with fail
        refine HAn.out.mono ?_
        rintro e w9 ⟨ao9, cap9, n9, rfl, hn9, hO9, hB9⟩
        obtain ⟨⟨z0, z1, z2, y0, y1, y2⟩, HE⟩ := H23.out.ends stLaw (i := 2) rfl (b := w.heap.size + 2) (by first | rfl | omega) (st := 204) (sti := 204) rfl hn9 (Nat.le_trans (Nat.le_add_right _ _) H23.out.sz) hO9 hB9
        clear hn9 hO9 hB9
        go_wp2
        generalize (((w9.setCell ⟨w.heap.size + 2, 0, none⟩ (.int .i64 204)).setCell ⟨w.heap.size + 2, 1, none⟩ (.slice ao9 n9 cap9)).setCell ⟨w.heap.size + 2, 2, none⟩ (.slice none 0 0)) = wf at *
        obtain ⟨q0, q1, q2, q3⟩ := HE.out
        refine bodyPost_ret (v := .agg #[.int .i64 204, .slice ao9 n9 cap9, .slice none 0 0]) (by simp [results, Tryz.results57, go_sem, q0, q1, q2]) rfl ?_
        rw [HD.out]
        exact TuEnd.of q3
      · rw [if_pos hca] at HD
        have hsa := HSm.out hca
        subst hsa
        have HNd := Hid.mk' (needDone_no ca hca w20)
        clear hca HSm
        go_wp2_with fail
        refine (HNd.out).mono ?_
        rintro e w9 hG
        obtain ⟨HE, ao9, cap9, n9, he⟩ := H20.out.fell hG
        unfold tgave at he
        subst he
        clear hG
        go_wp2
        exact ⟨rfl, by rw [HD.out]; exact HE.out⟩
  · have hte : Tu.tell u l ↔ (0 ≤ y ∧ u.size < 0) := by unfold Tu.tell; rw [hy]
    rw [hy] at HD
    simp only at HD
    have HTe := Hid.mk' hte
    clear hy hte
    go_wp2_with fail
    refine (HN.out _ HB5.out).mono ?_
    rintro e w6 ⟨rfl, hw⟩
    have HB6 := Hid.mk' (then_ HB5.out hw)
    have H6 := Hid.mk' (H5.out.stay stLaw hw)
    clear hw H5 HB5 x0 x1 x2 x3 x4 x5 x6 v0 v1 v2 v3 v4
    obtain ⟨x0, x1, x2, x3, x4, x5, x6⟩ := HC.out _ _ _ H6.out
    obtain ⟨v0, v1, v2, v3, v4⟩ := HU.out _ _ _ H6.out
    by_cases hsz : u.size < 0
    · rw [if_neg (fun e => e.elim (fun e => by cases e) (fun e => by have := e.2.1; omega))] at HD
      by_cases hbad : 2000 < y ∨ y < (un : Int) + nb
      · rw [if_pos ⟨HTe.out.2 ⟨hy0, hsz⟩, by simpa using hbad⟩] at HD
        have HQ := Hid.mk' (HS2.out y w6 hsz hbad)
        go_wp2_with fail
        refine (HQ.out).mono ?_
        rintro e w9 hG
        obtain ⟨HE, ao9, cap9, n9, he⟩ := H6.out.fell hG
        unfold tgave at he
        subst he
        clear hG
        go_wp2
        exact ⟨rfl, by rw [HD.out]; exact HE.out⟩
      · rw [if_neg (fun e => hbad (by simpa using e.2))] at HD
        have HQ := Hid.mk' (HS3.out y w6 (Or.inr ⟨hsz, hbad⟩))
        clear hbad
        go_wp2_with fail
        refine (HQ.out).mono ?_
        rintro e w7 ⟨rfl, hw⟩
        have HB7 := Hid.mk' (then_ HB6.out hw)
        have H7 := Hid.mk' (H6.out.stay stLaw hw)
        clear hw H6 HB6 x0 x1 x2 x3 x4 x5 x6 v0 v1 v2 v3 v4
        obtain ⟨x0, x1, x2, x3, x4, x5, x6⟩ := HC.out _ _ _ H7.out
        obtain ⟨v0, v1, v2, v3, v4⟩ := HU.out _ _ _ H7.out
        clear HQ
        obtain ⟨brm, hbrm⟩ : ∃ b, (decide ((0 : Int) ≤ (nb : Int) + 60) && decide ((nb : Int) + 60 ≤ 100000 - (s.log.length : Int))) = b := ⟨_, rfl⟩
        have eR : brm = false ↔ 100000 < s.log.length + (nb + 60) := by
          rw [← hbrm, Bool.and_eq_false_iff, decide_eq_false_iff_not, decide_eq_false_iff_not]
          omega
        have HRm := Hid.mk' (roomSt_any H7.out.sh ((nb : Int) + 60))
        rw [hbrm] at HRm
        clear hbrm
        go_wp2_with fail
        refine HRm.out.mono ?_
        rintro e wq ⟨rfl, hw⟩
        rw [hw]
        clear hw
        clear HRm
        cases brm with
        | false =>
          rw [if_pos (eR.1 rfl)] at HD
          go_wp2_with fail
          refine (needT_none 507 507 rfl _).mono ?_
          rintro e w9 hG
          obtain ⟨HE, ao9, cap9, n9, he⟩ := H7.out.fell hG
          unfold tgave at he
          subst he
          clear hG
          go_wp2
          exact ⟨rfl, by rw [HD.out]; exact HE.out⟩
        | true =>
          rw [if_neg (fun e => by have := eR.2 e; cases this)] at HD
          clear eR
          go_wp2_with fail
          refine (needT_yes 507 none 0 0 _).mono ?_
          rintro e wq ⟨rfl, hw⟩
          rw [hw]
          clear hw
          have HAp := Hid.mk' (appendSt_any H7.out.sh HOk.out u.id (un : Int) bo nb bcap body (HBd.out _ HB7.out) HBl.out (by omega))
          have HSm : Hid ((Sr.append s u.id (un : Int) body).2 ≠ 0 → (Sr.append s u.id (un : Int) body).1 = s) := fun e => by unfold Sr.append at e ⊢; exact Tu.write_same e
          have HOa : Hid (Sr.Ok (Sr.append s u.id (un : Int) body).1) := HOk.out.append _ _ _
          go_wp2_with fail
          refine HAp.out.mono ?_
          rintro e w20 ⟨rfl, hat, hT⟩
          have H20 := Hid.mk' (H7.out.did hat hT)
          clear hat hT HAp H7 HB7 x0 x1 x2 x3 x4 x5 x6 v0 v1 v2 v3 v4
          generalize Sr.append s u.id (un : Int) body = ra at *
          obtain ⟨sa, ca⟩ := ra
          simp only at HD HSm H20 HOa ⊢
          obtain ⟨x0, x1, x2, x3, x4, x5, x6⟩ := HC.out _ _ _ H20.out
          obtain ⟨v0, v1, v2, v3, v4⟩ := HU.out _ _ _ H20.out
          by_cases hca : ca = 0
          · subst hca
            rw [if_neg (by simp)] at HD
            clear HSm
            go_wp2_with fail
            refine (needDone_yes _).mono ?_
            rintro e wq ⟨rfl, hw⟩
            rw [hw]
            clear hw
            rw [if_pos (HTe.out.2 ⟨hy0, hsz⟩)] at HD
            have t1 : (u.size == -1) = true := by rw [beq_iff_eq]; omega
            have HDc := Hid.mk' (declareSt_any H20.out.sh HOa.out u.id y)
            go_wp2_with fail
            refine HDc.out.mono ?_
            rintro e w21 ⟨rfl, hat, hT⟩
            have H21 := Hid.mk' (H20.out.did hat hT)
            clear hat hT HDc H20 x0 x1 x2 x3 x4 x5 x6 v0 v1 v2 v3 v4
            generalize Sr.declare sa u.id y = rd at *
            obtain ⟨sd, cd⟩ := rd
            simp only at HD H21 ⊢
            obtain ⟨x0, x1, x2, x3, x4, x5, x6⟩ := HC.out _ _ _ H21.out
            obtain ⟨v0, v1, v2, v3, v4⟩ := HU.out _ _ _ H21.out
            have HSy := Hid.mk' (syncSt_any H21.out.sh)
            go_wp2_with fail
            refine HSy.out.mono ?_
            rintro e w22 ⟨rfl, hat6, hT6⟩
            have H22 := Hid.mk' (H21.out.turned hat6 hT6)
            have HCt := Hid.mk' (countT_any Tu.fUO (un + nb) ((un : Int) + nb) (by omega) (by omega) w22 (H22.out.pow HPw.out))
            unfold Tu.fUO at HCt
            generalize Tu.dec (un + nb) = db at *
            clear hat6 hT6 HSy H21 x0 x1 x2 x3 x4 x5 x6 v0 v1 v2 v3 v4
            go_wp2_with fail
            refine HCt.out.mono ?_
            rintro e w23 ⟨rfl, hw⟩
            have H23 := Hid.mk' ((H22.out.stay stLaw hw).stay stLaw ((Below.refl _ w23).alloc (Nat.le_refl _) (.cells #[.string Tu.fUO, .string db] 58)))
            have HAn := Hid.mk' (answerT_lit 204 204 rfl [(Tu.fUO, db)] (some ⟨w23.heap.size, 0, none⟩) 1 1 _ (IsV.made w23 #[.string Tu.fUO, .string db] 1 58 (0, 0)) rfl (by decide))
            unfold Tu.fUO at HAn H23
            clear hw HCt H22
            go_wp2_with fail
            refine HAn.out.mono ?_
            rintro e w9 ⟨ao9, cap9, n9, rfl, hn9, hO9, hB9⟩
            obtain ⟨⟨z0, z1, z2, y0, y1, y2⟩, HE⟩ := H23.out.ends stLaw (i := 2) rfl (b := w.heap.size + 2) (by first | rfl | omega) (st := 204) (sti := 204) rfl hn9 (Nat.le_trans (Nat.le_add_right _ _) H23.out.sz) hO9 hB9
            clear hn9 hO9 hB9
            go_wp2
            generalize (((w9.setCell ⟨w.heap.size + 2, 0, none⟩ (.int .i64 204)).setCell ⟨w.heap.size + 2, 1, none⟩ (.slice ao9 n9 cap9)).setCell ⟨w.heap.size + 2, 2, none⟩ (.slice none 0 0)) = wf at *
            obtain ⟨q0, q1, q2, q3⟩ := HE.out
            refine bodyPost_ret (v := .agg #[.int .i64 204, .slice ao9 n9 cap9, .slice none 0 0]) (by simp [results, Tryz.results57, go_sem, q0, q1, q2]) rfl ?_
            rw [HD.out]
            exact TuEnd.of q3
          · rw [if_pos hca] at HD
            have hsa := HSm.out hca
            subst hsa
            have HNd := Hid.mk' (needDone_no ca hca w20)
            clear hca HSm
            go_wp2_with fail
            refine (HNd.out).mono ?_
            rintro e w9 hG
            obtain ⟨HE, ao9, cap9, n9, he⟩ := H20.out.fell hG
            unfold tgave at he
            subst he
            clear hG
            go_wp2
            exact ⟨rfl, by rw [HD.out]; exact HE.out⟩
    · have hsz0 : 0 ≤ u.size := by omega
      by_cases hne : y = u.size
      · rw [if_neg (fun e => e.elim (fun e => by cases e) (fun e => e.2.2 hne)), if_neg (fun e => hsz (HTe.out.1 e.1).2)] at HD
        have HQ := Hid.mk' (HS3.out y w6 (Or.inl ⟨hsz0, hne⟩))
        clear hne
        go_wp2_with fail
        refine (HQ.out).mono ?_
        rintro e w7 ⟨rfl, hw⟩
        have HB7 := Hid.mk' (then_ HB6.out hw)
        have H7 := Hid.mk' (H6.out.stay stLaw hw)
        clear hw H6 HB6 x0 x1 x2 x3 x4 x5 x6 v0 v1 v2 v3 v4
        obtain ⟨x0, x1, x2, x3, x4, x5, x6⟩ := HC.out _ _ _ H7.out
        obtain ⟨v0, v1, v2, v3, v4⟩ := HU.out _ _ _ H7.out
        clear HQ
        obtain ⟨brm, hbrm⟩ : ∃ b, (decide ((0 : Int) ≤ (nb : Int) + 60) && decide ((nb : Int) + 60 ≤ 100000 - (s.log.length : Int))) = b := ⟨_, rfl⟩
        have eR : brm = false ↔ 100000 < s.log.length + (nb + 60) := by
          rw [← hbrm, Bool.and_eq_false_iff, decide_eq_false_iff_not, decide_eq_false_iff_not]
          omega
        have HRm := Hid.mk' (roomSt_any H7.out.sh ((nb : Int) + 60))
        rw [hbrm] at HRm
        clear hbrm
        go_wp2_with fail
        refine HRm.out.mono ?_
        rintro e wq ⟨rfl, hw⟩
        rw [hw]
        clear hw
        clear HRm
        cases brm with
        | false =>
          rw [if_pos (eR.1 rfl)] at HD
          go_wp2_with fail
          refine (needT_none 507 507 rfl _).mono ?_
          rintro e w9 hG
          obtain ⟨HE, ao9, cap9, n9, he⟩ := H7.out.fell hG
          unfold tgave at he
          subst he
          clear hG
          go_wp2
          exact ⟨rfl, by rw [HD.out]; exact HE.out⟩
        | true =>
          rw [if_neg (fun e => by have := eR.2 e; cases this)] at HD
          clear eR
          go_wp2_with fail
          refine (needT_yes 507 none 0 0 _).mono ?_
          rintro e wq ⟨rfl, hw⟩
          rw [hw]
          clear hw
          have HAp := Hid.mk' (appendSt_any H7.out.sh HOk.out u.id (un : Int) bo nb bcap body (HBd.out _ HB7.out) HBl.out (by omega))
          have HSm : Hid ((Sr.append s u.id (un : Int) body).2 ≠ 0 → (Sr.append s u.id (un : Int) body).1 = s) := fun e => by unfold Sr.append at e ⊢; exact Tu.write_same e
          have HOa : Hid (Sr.Ok (Sr.append s u.id (un : Int) body).1) := HOk.out.append _ _ _
          go_wp2_with fail
          refine HAp.out.mono ?_
          rintro e w20 ⟨rfl, hat, hT⟩
          have H20 := Hid.mk' (H7.out.did hat hT)
          clear hat hT HAp H7 HB7 x0 x1 x2 x3 x4 x5 x6 v0 v1 v2 v3 v4
          generalize Sr.append s u.id (un : Int) body = ra at *
          obtain ⟨sa, ca⟩ := ra
          simp only at HD HSm H20 HOa ⊢
          obtain ⟨x0, x1, x2, x3, x4, x5, x6⟩ := HC.out _ _ _ H20.out
          obtain ⟨v0, v1, v2, v3, v4⟩ := HU.out _ _ _ H20.out
          by_cases hca : ca = 0
          · subst hca
            rw [if_neg (by simp)] at HD
            clear HSm
            go_wp2_with fail
            refine (needDone_yes _).mono ?_
            rintro e wq ⟨rfl, hw⟩
            rw [hw]
            clear hw
            have t1 : (u.size == -1) = false := by rw [beq_eq_false_iff_ne]; omega
            rw [if_neg (fun e => by have := (HTe.out.1 e).2; omega)] at HD
            have HSy := Hid.mk' (syncSt_any H20.out.sh)
            go_wp2_with fail
            refine HSy.out.mono ?_
            rintro e w22 ⟨rfl, hat6, hT6⟩
            have H22 := Hid.mk' (H20.out.turned hat6 hT6)
            have HCt := Hid.mk' (countT_any Tu.fUO (un + nb) ((un : Int) + nb) (by omega) (by omega) w22 (H22.out.pow HPw.out))
            unfold Tu.fUO at HCt
            generalize Tu.dec (un + nb) = db at *
            clear hat6 hT6 HSy H20 x0 x1 x2 x3 x4 x5 x6 v0 v1 v2 v3 v4
            go_wp2_with fail
            refine HCt.out.mono ?_
            rintro e w23 ⟨rfl, hw⟩
            have H23 := Hid.mk' ((H22.out.stay stLaw hw).stay stLaw ((Below.refl _ w23).alloc (Nat.le_refl _) (.cells #[.string Tu.fUO, .string db] 58)))
            have HAn := Hid.mk' (answerT_lit 204 204 rfl [(Tu.fUO, db)] (some ⟨w23.heap.size, 0, none⟩) 1 1 _ (IsV.made w23 #[.string Tu.fUO, .string db] 1 58 (0, 0)) rfl (by decide))
            unfold Tu.fUO at HAn H23
            clear hw HCt H22
            go_wp2_with fail
            refine HAn.out.mono ?_
            rintro e w9 ⟨ao9, cap9, n9, rfl, hn9, hO9, hB9⟩
            obtain ⟨⟨z0, z1, z2, y0, y1, y2⟩, HE⟩ := H23.out.ends stLaw (i := 2) rfl (b := w.heap.size + 2) (by first | rfl | omega) (st := 204) (sti := 204) rfl hn9 (Nat.le_trans (Nat.le_add_right _ _) H23.out.sz) hO9 hB9
            clear hn9 hO9 hB9
            go_wp2
            generalize (((w9.setCell ⟨w.heap.size + 2, 0, none⟩ (.int .i64 204)).setCell ⟨w.heap.size + 2, 1, none⟩ (.slice ao9 n9 cap9)).setCell ⟨w.heap.size + 2, 2, none⟩ (.slice none 0 0)) = wf at *
            obtain ⟨q0, q1, q2, q3⟩ := HE.out
            refine bodyPost_ret (v := .agg #[.int .i64 204, .slice ao9 n9 cap9, .slice none 0 0]) (by simp [results, Tryz.results57, go_sem, q0, q1, q2]) rfl ?_
            rw [HD.out]
            exact TuEnd.of q3
          · rw [if_pos hca] at HD
            have hsa := HSm.out hca
            subst hsa
            have HNd := Hid.mk' (needDone_no ca hca w20)
            clear hca HSm
            go_wp2_with fail
            refine (HNd.out).mono ?_
            rintro e w9 hG
            obtain ⟨HE, ao9, cap9, n9, he⟩ := H20.out.fell hG
            unfold tgave at he
            subst he
            clear hG
            go_wp2
            exact ⟨rfl, by rw [HD.out]; exact HE.out⟩
      · rw [if_pos (Or.inr ⟨hy0, hsz0, hne⟩)] at HD
        have HQ := Hid.mk' (HS1.out y w6 hsz0 hne)
        clear hne
        go_wp2_with fail
        refine (HQ.out).mono ?_
        rintro e w9 hG
        obtain ⟨HE, ao9, cap9, n9, he⟩ := H6.out.fell hG
        unfold tgave at he
        subst he
        clear hG
        go_wp2
        exact ⟨rfl, by rw [HD.out]; exact HE.out⟩
end
end Go.Proofs.YtdclmpdjjkjfjaaGreatDoor

/- Package tus, walked: describe, options. -/
namespace Go.Proofs.YtdclmpdjjkjfjaaGreatDoor
open Go.RowKit

/-- no object at all -/
def NoOb : ObP := fun _ _ _ _ => True
theorem noLaw : ObLaw NoOb := ⟨fun _ _ _ => trivial, fun _ _ => trivial⟩
def NoS : Nat → Prop := fun _ => False
theorem TuDid.rdone {w w' : World} {g : Nat} {s : Sr.Sh} {r : Tu.Rep} {e : Ending} (h : TuDid NoOb NoS w g (s, r) e w') : Rdone w r e w' := by
  obtain ⟨⟨ao, cap, n, he, hn, hO⟩, _, hT⟩ := h
  exact ⟨ao, cap, n, he, hn, hO, hT.below (fun _ e => e.elim) (Nat.le_refl _)⟩
theorem dsOne (w : World) (oa : Obj) : TbAt NoOb NoS w 0 [oa] Sr.new (fun k => NoS k ∧ k < w.heap.size) (w.alloc oa) :=
  (TbAt.start (O := NoOb) (S := NoS) (g := 0) (s := Sr.new) noLaw trivial).box noLaw rfl (fun _ e => e.1.elim) _
theorem dsTwo (w : World) (oa ob : Obj) : TbAt NoOb NoS w 0 [oa, ob] Sr.new (fun k => NoS k ∧ k < w.heap.size) ((w.alloc oa).alloc ob) := by
  have hz : (w.alloc oa).heap.size = w.heap.size + 1 := World.size_alloc ..
  exact (dsOne w oa).box noLaw hz (fun _ e => e.1.elim) _
set_option maxRecDepth 100000 in
set_option maxHeartbeats 1600000 in
theorem optionsT_any (w : World) (hP : PowAt w) : Calls Tryz.prog 50 #[] w fun e w' => Rdone w (Tu.said 204 [(Tu.fTV, Tu.v100), (Tu.fTX, Tu.v2000), (Tu.fTE, Tu.vTE)]) e w' := by
  have H1 := Hid.mk' (dsOne w (.cells #[.int .i64 0, .slice none 0 0, .slice none 0 0] 32))
  have HB1 := Hid.mk' ((Below.refl _ w).alloc (Nat.le_refl _) (.cells #[.int .i64 0, .slice none 0 0, .slice none 0 0] 32))
  have HF1 := Hid.mk' (fieldT_any Tu.fTV Tu.v100 (w.alloc (.cells #[.int .i64 0, .slice none 0 0, .slice none 0 0] 32)))
  have HPw := Hid.mk' hP
  clear hP
  unfold Tu.fTV Tu.v100 at HF1
  go_enter Tryz.func50, Tryz.ntmps50
  go_wp2_with fail
  refine HF1.out.mono ?_
  rintro e w2 ⟨rfl, hw2⟩
  have H2 := Hid.mk' (H1.out.stay noLaw hw2)
  have HB2 := Hid.mk' (then_ HB1.out hw2)
  have HCt := Hid.mk' (countT_any Tu.fTX 2000 2000 rfl (by decide) w2 (HPw.out.stay HB2.out))
  rw [show Tu.dec 2000 = Tu.v2000 from by decide +kernel] at HCt
  unfold Tu.fTX Tu.v2000 at HCt
  clear hw2 HF1 H1 HB1
  go_wp2_with fail
  refine HCt.out.mono ?_
  rintro e w3 ⟨rfl, hw3⟩
  have H3 := Hid.mk' (H2.out.stay noLaw hw3)
  have HF3 := Hid.mk' (fieldT_any Tu.fTE Tu.vTE w3)
  unfold Tu.fTE Tu.vTE at HF3
  clear hw3 HCt H2 HB2
  go_wp2_with fail
  refine HF3.out.mono ?_
  rintro e w4 ⟨rfl, hw4⟩
  have H4 := Hid.mk' ((H3.out.stay noLaw hw4).stay noLaw ((Below.refl _ w4).alloc (Nat.le_refl _) (.cells #[.string Tu.fTV, .string Tu.v100, .string Tu.fTX, .string Tu.v2000, .string Tu.fTE, .string Tu.vTE] 58)))
  have HAn := Hid.mk' (answerT_lit 204 204 rfl [(Tu.fTV, Tu.v100), (Tu.fTX, Tu.v2000), (Tu.fTE, Tu.vTE)] (some ⟨w4.heap.size, 0, none⟩) 3 3 _ (IsV.made w4 #[.string Tu.fTV, .string Tu.v100, .string Tu.fTX, .string Tu.v2000, .string Tu.fTE, .string Tu.vTE] 3 58 (0, 0)) rfl (by decide))
  unfold Tu.fTV Tu.v100 Tu.fTX Tu.v2000 Tu.fTE Tu.vTE at HAn H4
  clear hw4 HF3 H3
  go_wp2_with fail
  refine HAn.out.mono ?_
  rintro e w9 ⟨ao9, cap9, n9, rfl, hn9, hO9, hB9⟩
  obtain ⟨⟨z0, z1, z2, y0, y1, y2⟩, HE⟩ := H4.out.ends noLaw (i := 0) rfl (b := w.heap.size) (by first | rfl | omega) (st := 204) (sti := 204) rfl hn9 (Nat.le_trans (Nat.le_add_right _ _) H4.out.sz) hO9 hB9
  clear hn9 hO9 hB9
  go_wp2
  generalize (((w9.setCell ⟨w.heap.size, 0, none⟩ (.int .i64 204)).setCell ⟨w.heap.size, 1, none⟩ (.slice ao9 n9 cap9)).setCell ⟨w.heap.size, 2, none⟩ (.slice none 0 0)) = wf at *
  obtain ⟨q0, q1, q2, q3⟩ := HE.out
  refine bodyPost_ret (v := .agg #[.int .i64 204, .slice ao9 n9 cap9, .slice none 0 0]) (by simp [results, Tryz.results50, go_sem, q0, q1, q2]) rfl ?_
  exact TuDid.rdone (r := Tu.said 204 [(Tu.fTV, Tu.v100), (Tu.fTX, Tu.v2000), (Tu.fTE, Tu.vTE)]) q3
set_option maxRecDepth 100000 in
set_option maxHeartbeats 3200000 in
theorem describeT_any (u : Sp.Up) (uo : Option Addr) (un ucap : Nat) (hun : u.bytes.length = un) (hs0 : -1 ≤ u.size) (hs1 : u.size ≤ 2000) (hul : un ≤ 2000) (w : World) (hP : PowAt w) :
    Calls Tryz.prog 56 #[.agg #[.int .i64 u.id, .int .i64 u.size, .string u.note, .slice uo un ucap, .int .i64 u.sent]] w fun e w' => Rdone w (Tu.head u) e w' := by
  have T2 := dsTwo w (.cells #[.int .i64 u.id, .int .i64 u.size, .string u.note, .slice uo un ucap, .int .i64 u.sent] 67) (.cells #[.int .i64 0, .slice none 0 0, .slice none 0 0] 32)
  have HC : Hid (∀ W s' S', TbAt NoOb NoS w 0 [.cells #[.int .i64 u.id, .int .i64 u.size, .string u.note, .slice uo un ucap, .int .i64 u.sent] 67 (0, 0), .cells #[.int .i64 0, .slice none 0 0, .slice none 0 0] 32 (0, 0)] s' S' W → W.cell? ⟨w.heap.size, 1, none⟩ = some (.int .i64 u.size) ∧ W.cell? ⟨w.heap.size, 2, none⟩ = some (.string u.note) ∧ W.cell? ⟨w.heap.size, 3, none⟩ = some (.slice uo un ucap)) := fun W s' S' hW => by
    have r := hW.row 0 rfl
    exact ⟨cell_of_row W _ 1 _ _ _ r, cell_of_row W _ 2 _ _ _ r, cell_of_row W _ 3 _ _ _ r⟩
  obtain ⟨x1, x2, x3⟩ := HC.out _ _ _ T2
  have HB2 : Hid (Below w.heap.size w ((w.alloc (.cells #[.int .i64 u.id, .int .i64 u.size, .string u.note, .slice uo un ucap, .int .i64 u.sent] 67)).alloc (.cells #[.int .i64 0, .slice none 0 0, .slice none 0 0] 32))) := then_ ((Below.refl _ w).alloc (Nat.le_refl _) _) ((Below.refl _ _).alloc (Nat.le_refl _) _)
  have H2 := Hid.mk' T2
  have HPw := Hid.mk' hP
  have HUn := Hid.mk' hun
  clear T2 hun
  -- what is told of its size
  obtain ⟨sv, hcnt, hsv⟩ : ∃ sv : ByteArray, Hid (∀ W, Below w.heap.size w W → Calls Tryz.prog 71 #[.string Tu.fUL, .int .i64 u.size] W fun e w' => e = .returned (.agg #[.string Tu.fUL, .string sv]) ∧ Below W.heap.size W w') ∧ (0 ≤ u.size → sv = Tu.dec u.size.toNat) := by
    by_cases h0 : 0 ≤ u.size
    · exact ⟨_, fun W hW => countT_any Tu.fUL u.size.toNat u.size (by omega) (by omega) W (hP.stay hW), fun _ => rfl⟩
    · have e1 : u.size = -1 := by omega
      rw [e1]
      refine ⟨⟨(Lib.itoa (-1)).toArray⟩, fun W hW => ?_, fun e => absurd e (by omega)⟩
      refine countT_of Tu.fUL _ (-1) W (fun W2 hW2 => ?_)
      refine (Any.strconv_Itoa Tryz.lays171 (-1) (by decide) (by decide) W2 (hP.stay (then_ hW hW2))).mono ?_
      rintro e w' ⟨he, k, os, rfl⟩
      exact ⟨he, Lib.below_grow _ W2 (Nat.le_refl _) k os⟩
  have HC1 := Hid.mk' (hcnt.out _ HB2.out)
  unfold Tu.fUL at HC1
  clear hcnt hP
  obtain ⟨pn, pv, hpp⟩ : ∃ pn pv : ByteArray, (pn, pv) = (if u.size < 0 then (Tu.fUD, Tu.vOne) else (Tu.fUL, Tu.dec u.size.toNat)) := ⟨_, _, rfl⟩
  obtain ⟨R, hR⟩ : ∃ R, R = Tu.head u := ⟨_, rfl⟩
  rw [← hR]
  have HD : Hid (R = Tu.said 200 ((Tu.fUO, Tu.dec un) :: (pn, pv) :: (Tu.fCC, Tu.vNS) :: (if u.note.size = 0 then [] else [(Tu.fUM, u.note)]))) := by
    unfold Hid; rw [hR]; unfold Tu.head; rw [← hpp, HUn.out]
  have HPp : Hid ((pn, pv) = (if u.size < 0 then (Tu.fUD, Tu.vOne) else (Tu.fUL, Tu.dec u.size.toNat))) := hpp
  have HSv := Hid.mk' hsv
  clear hR hpp hsv
  go_enter Tryz.func56, Tryz.ntmps56
  go_wp2_with fail
  refine HC1.out.mono ?_
  rintro e w3 ⟨rfl, hw3⟩
  have H3 := Hid.mk' (H2.out.stay noLaw hw3)
  have HB3 := Hid.mk' (then_ HB2.out hw3)
  clear hw3 HC1 H2 HB2 x1 x2 x3
  -- the size's field, in a box of its own
  have hb4 := (Below.refl _ w3).alloc (Nat.le_refl _) (.cells #[.string Tu.fUL, .string sv] 58)
  have H4 := Hid.mk' (H3.out.stay noLaw hb4)
  have HB4 := Hid.mk' (then_ HB3.out hb4)
  have HR4 : Hid ((w3.alloc (.cells #[.string Tu.fUL, .string sv] 58)).heap[w3.heap.size]? = some (.cells #[.string Tu.fUL, .string sv] 58 (0, 0))) := heap_alloc_new w3 _
  have HZ4 : Hid (w.heap.size + 2 ≤ w3.heap.size) := H3.out.sz
  obtain ⟨x1, x2, x3⟩ := HC.out _ _ _ H4.out
  unfold Tu.fUL at H4 HB4 HR4
  unfold Tu.fUL at x1 x2 x3
  clear hb4 H3 HB3
  go_upto_region 2 with fail
  generalize (w3.alloc (.cells #[.string ⟨#[85, 112, 108, 111, 97, 100, 45, 76, 101, 110, 103, 116, 104]⟩, .string sv] 58)) = w4 at *
  generalize w3.heap.size = kb at *
  obtain ⟨bn, hbn⟩ : ∃ b, (u.size == -1) = b := ⟨_, rfl⟩
  have HBn : Hid (bn = true ↔ u.size < 0) := by
    unfold Hid
    rw [← hbn, beq_iff_eq]; omega
  go_upto_if 10 with fail
  go_cut [11] (fun _ wd => TbAt NoOb NoS w 0 [.cells #[.int .i64 u.id, .int .i64 u.size, .string u.note, .slice uo un ucap, .int .i64 u.sent] 67 (0, 0), .cells #[.int .i64 0, .slice none 0 0, .slice none 0 0] 32 (0, 0)] Sr.new (fun k => NoS k ∧ k < w.heap.size) wd ∧ Below w.heap.size w wd ∧ wd.heap[kb]? = some (.cells #[.string pn, .string pv] 58 (0, 0)))
  case first =>
    cases bn with
    | true =>
      have HFd := Hid.mk' (fieldT_any Tu.fUD Tu.vOne w4)
      have hpp := HPp.out
      rw [if_pos (HBn.out.1 rfl)] at hpp
      injection hpp with hp1 hp2
      subst hp1
      subst hp2
      unfold Tu.fUD Tu.vOne at HFd
      go_wp2_with fail
      refine HFd.out.mono ?_
      rintro e w5 ⟨rfl, hw5⟩
      have hr5 := (hw5.block kb (Array.getElem?_eq_some_iff.1 HR4.out).1).trans HR4.out
      have c0 := cell_of_row w5 _ 0 _ _ _ hr5; have c1 := cell_of_row w5 _ 1 _ _ _ hr5
      have y0 := frozen_of_row w5 _ 0 _ _ hr5; have y1 := frozen_of_row w5 _ 1 _ _ hr5
      simp at c0 c1
      have hTk := setCells_turns kb [.string Tu.fUD, .string Tu.vOne] 0 w5
      have HX : Hid (TbAt NoOb NoS w 0 [.cells #[.int .i64 u.id, .int .i64 u.size, .string u.note, .slice uo un ucap, .int .i64 u.sent] 67 (0, 0), .cells #[.int .i64 0, .slice none 0 0, .slice none 0 0] 32 (0, 0)] Sr.new (fun k => NoS k ∧ k < w.heap.size) ((w5.setCell ⟨kb, 0, none⟩ (.string Tu.fUD)).setCell ⟨kb, 1, none⟩ (.string Tu.vOne)) ∧ Below w.heap.size w ((w5.setCell ⟨kb, 0, none⟩ (.string Tu.fUD)).setCell ⟨kb, 1, none⟩ (.string Tu.vOne)) ∧ ((w5.setCell ⟨kb, 0, none⟩ (.string Tu.fUD)).setCell ⟨kb, 1, none⟩ (.string Tu.vOne)).heap[kb]? = some (.cells #[.string Tu.fUD, .string Tu.vOne] 58 (0, 0))) := by
        have hz := HZ4.out
        have hb := then_ HB4.out hw5
        exact ⟨(H4.out.stay noLaw hw5).aside noLaw hTk hz (fun e => e.1.elim), (hb.setCell (p := ⟨kb, 0, none⟩) (by show w.heap.size ≤ kb; omega) _).setCell (p := ⟨kb, 1, none⟩) (by show w.heap.size ≤ kb; omega) _, heap_setCell_same _ _ 1 _ _ (.string Tu.vOne) (heap_setCell_same _ _ 0 _ _ (.string Tu.fUD) hr5)⟩
      unfold Tu.fUD Tu.vOne at HX
      clear hw5 hr5 hTk HFd x1 x2 x3
      go_wp2
      go_meet
      exact HX.out
    | false =>
      have hpp := HPp.out
      rw [if_neg (fun e => by have := HBn.out.2 e; cases this)] at hpp
      injection hpp with hp1 hp2
      have hsv := HSv.out (by
        rcases Int.lt_or_le u.size 0 with e | e
        · have := HBn.out.2 e; cases this
        · exact e)
      rw [← hp2] at hsv
      subst hp1
      subst hsv
      go_wp2
      go_meet
      exact ⟨H4.out, HB4.out, HR4.out⟩
  case rest =>
    obtain ⟨hT, hB, hr⟩ := hcut
    have HT := Hid.mk' hT; have HB := Hid.mk' hB; have HR := Hid.mk' hr
    have hkl := (Array.getElem?_eq_some_iff.1 hr).1
    have HCn : Hid (∀ W, Below w.heap.size w W → Calls Tryz.prog 71 #[.string Tu.fUO, .int .i64 (un : Int)] W fun e w' => e = .returned (.agg #[.string Tu.fUO, .string (Tu.dec un)]) ∧ Below W.heap.size W w') := fun W hW => countT_any Tu.fUO un un rfl (by omega) W (HPw.out.stay hW)
    have HFc : Hid (∀ W, Calls Tryz.prog 53 #[.string Tu.fCC, .string Tu.vNS] W fun e w' => e = .returned (.agg #[.string Tu.fCC, .string Tu.vNS]) ∧ Below W.heap.size W w') := fun W => fieldT_any Tu.fCC Tu.vNS W
    have HSs : Hid (∀ W, Below wc.heap.size wc W → W.cell? ⟨w.heap.size, 3, none⟩ = some (.slice uo un ucap) ∧ W.cell? ⟨kb, 0, none⟩ = some (.string pn) ∧ W.cell? ⟨kb, 1, none⟩ = some (.string pv)) := fun W hW => by
      have hr' := (hW.block kb hkl).trans HR.out
      exact ⟨(HC.out _ _ _ (HT.out.stay noLaw hW)).2.2, cell_of_row W _ 0 _ _ _ hr', cell_of_row W _ 1 _ _ _ hr'⟩
    generalize Tu.dec un = du at *
    have HEnd : Hid (∀ W, Below wc.heap.size wc W → OwnV (W.alloc (.cells #[.string Tu.fUO, .string du, .string pn, .string pv, .string Tu.fCC, .string Tu.vNS] 58)) (w.heap.size + 2) 58 2 (some ⟨W.heap.size, 0, none⟩) 3 3 (pairV [(Tu.fUO, du), (pn, pv), (Tu.fCC, Tu.vNS)]) ∧ TbAt NoOb NoS w 0 [.cells #[.int .i64 u.id, .int .i64 u.size, .string u.note, .slice uo un ucap, .int .i64 u.sent] 67 (0, 0), .cells #[.int .i64 0, .slice none 0 0, .slice none 0 0] 32 (0, 0)] Sr.new (fun k => NoS k ∧ k < w.heap.size) (W.alloc (.cells #[.string Tu.fUO, .string du, .string pn, .string pv, .string Tu.fCC, .string Tu.vNS] 58)) ∧ Below w.heap.size w (W.alloc (.cells #[.string Tu.fUO, .string du, .string pn, .string pv, .string Tu.fCC, .string Tu.vNS] 58))) := fun W hW => by
      have h1 := HT.out.stay noLaw hW
      have hba := (Below.refl _ W).alloc (Nat.le_refl _) (.cells #[.string Tu.fUO, .string du, .string pn, .string pv, .string Tu.fCC, .string Tu.vNS] 58)
      exact ⟨World.ownsRow_lit W #[.string Tu.fUO, .string du, .string pn, .string pv, .string Tu.fCC, .string Tu.vNS] 3 h1.sz (by decide) rfl, h1.stay noLaw hba, then_ (then_ HB.out hW) hba⟩
    unfold Tu.fUO at HCn
    unfold Tu.fCC Tu.vNS at HFc
    obtain ⟨s0, s1, s2⟩ := HSs.out _ (Below.refl _ _)
    have HbD : Hid (Below wc.heap.size wc wc.drew) := below_drew _ _
    clear hT hB hr hkl H4 HB4 HR4 x1 x2 x3 HPp HSv HBn hbn
    go_upto_region 4 with fail
    go_cut [4] (fun v4 wd => ∃ (ao : Option Addr) (cap : Nat), v4 = .slice ao 3 cap ∧ OwnV wd (w.heap.size + 2) 58 2 ao cap 3 (pairV [(Tu.fUO, du), (pn, pv), (Tu.fCC, Tu.vNS)]) ∧ TbAt NoOb NoS w 0 [.cells #[.int .i64 u.id, .int .i64 u.size, .string u.note, .slice uo un ucap, .int .i64 u.sent] 67 (0, 0), .cells #[.int .i64 0, .slice none 0 0, .slice none 0 0] 32 (0, 0)] Sr.new (fun k => NoS k ∧ k < w.heap.size) wd ∧ Below w.heap.size w wd)
    case first =>
      go_region_held3 (fun W => W.cell? ⟨w.heap.size, 3, none⟩ = some (.slice uo un ucap) ∧ W.cell? ⟨kb, 0, none⟩ = some (.string pn) ∧ W.cell? ⟨kb, 1, none⟩ = some (.string pv)) (go_keep) (first
        | (go_at_call 71; refine (HCn.out _ (then_ HB.out (by first | with_reducible exact HbF.out | with_reducible exact HbD.out))).mono ?_; rintro e wC ⟨rfl, hC⟩; have hbC := then_ (by first | with_reducible exact HbF.out | with_reducible exact HbD.out) hC; have HbC := Hid.mk' hbC; obtain ⟨a0, a1, a2⟩ := HSs.out _ hbC; clear hC hbC)
        | (go_at_call 53; refine (HFc.out _).mono ?_; rintro e wF ⟨rfl, hF⟩; have hbF := then_ (by first | with_reducible exact HbC.out | with_reducible exact HbD.out) hF; have HbF := Hid.mk' hbF; obtain ⟨a0, a1, a2⟩ := HSs.out _ hbF; clear hF hbF))
      all_goals
        go_wp2
        go_meet
        first
          | exact ⟨_, _, rfl, HEnd.out _ HbF.out⟩
          | exact ⟨_, _, rfl, HEnd.out _ HbC.out⟩
    case rest =>
      obtain ⟨ao, cap, rfl, hO, hT, hB⟩ := hcut
      have H5 := Hid.mk' hT; have HB5 := Hid.mk' hB; have HO5 := Hid.mk' hO
      clear hO hT hB HEnd HbD s0 s1 s2 HSs HCn HFc HT HB HR
      obtain ⟨x1, x2, x3⟩ := HC.out _ _ _ H5.out
      obtain ⟨bm, hbm⟩ : ∃ b, (u.note.toList == ([] : List UInt8)) = b := ⟨_, rfl⟩
      have eM : u.note.size = 0 ↔ bm = true := by
        rw [← hbm, beq_iff_eq, Lib.toList_data]
        rw [← List.length_eq_zero_iff, Array.length_toList]
        exact Iff.rfl
      cases bm with
      | true =>
        rw [if_pos (eM.2 rfl)] at HD
        have HAn := Hid.mk' (answerT_lit 200 200 rfl [(Tu.fUO, du), (pn, pv), (Tu.fCC, Tu.vNS)] ao cap 3 wc HO5.out.isV rfl (by decide))
        clear eM HC
        go_wp2_with fail
        refine HAn.out.mono ?_
        rintro e w9 ⟨ao9, cap9, n9, rfl, hn9, hO9, hB9⟩
        obtain ⟨⟨z0, z1, z2, y0, y1, y2⟩, HE⟩ := H5.out.ends noLaw (i := 1) rfl (b := w.heap.size + 1) (by first | rfl | omega) (st := 200) (sti := 200) rfl hn9 (Nat.le_trans (Nat.le_add_right _ _) H5.out.sz) hO9 hB9
        clear hn9 hO9 hB9
        go_wp2
        generalize (((w9.setCell ⟨w.heap.size + 1, 0, none⟩ (.int .i64 200)).setCell ⟨w.heap.size + 1, 1, none⟩ (.slice ao9 n9 cap9)).setCell ⟨w.heap.size + 1, 2, none⟩ (.slice none 0 0)) = wf at *
        obtain ⟨q0, q1, q2, q3⟩ := HE.out
        refine bodyPost_ret (v := .agg #[.int .i64 200, .slice ao9 n9 cap9, .slice none 0 0]) (by simp [results, Tryz.results56, go_sem, q0, q1, q2]) rfl ?_
        rw [HD.out]
        exact TuDid.rdone q3
      | false =>
        rw [if_neg (fun e => by have := eM.1 e; cases this)] at HD
        obtain ⟨i0, hi0, hz0, hz1, hz2⟩ := info_parts info_fld
        have Hi := Hid.mk' hi0; have Hz0 := Hid.mk' hz0; have Hz1 := Hid.mk' hz1; have Hz2 := Hid.mk' hz2
        have HFm := Hid.mk' (fieldT_any Tu.fUM u.note wc)
        unfold Tu.fUM at HFm
        clear eM HC hi0 hz0 hz1 hz2
        go_wp2_with fail
        refine HFm.out.mono ?_
        rintro e w6 ⟨rfl, hw6⟩
        have hba := (Below.refl _ w6).alloc (Nat.le_refl _) (.cells #[.string Tu.fUM, .string u.note] 58)
        have H6 := Hid.mk' ((H5.out.stay noLaw hw6).stay noLaw hba)
        have HO6 := Hid.mk' ((HO5.out.stay hw6).alloc (.cells #[.string Tu.fUM, .string u.note] 58))
        have HZ6 : Hid (w.heap.size + 2 ≤ (w6.alloc (.cells #[.string Tu.fUM, .string u.note] 58)).heap.size) := H6.out.sz
        have HP6 : Hid (∀ (ao7 : Option Addr) (cap7 : Nat) (w7 : World), (w6.alloc (.cells #[.string Tu.fUM, .string u.note] 58)).grownBy w7 (blockOf ao) → TbAt NoOb NoS w 0 [.cells #[.int .i64 u.id, .int .i64 u.size, .string u.note, .slice uo un ucap, .int .i64 u.sent] 67 (0, 0), .cells #[.int .i64 0, .slice none 0 0, .slice none 0 0] 32 (0, 0)] Sr.new (fun k => NoS k ∧ k < w.heap.size) w7) := fun ao7 cap7 w7 hG => by
          cases ao with
          | none => exact H6.out.stay noLaw ((Below.refl _ _).grown hG (Nat.le_refl _) (fun q e => by cases e))
          | some a =>
            have hab := (HO6.out.block a rfl).1
            exact H6.out.aside noLaw (b := a.block) (Turns.of_grown hG (fun k e => by injection e with e; exact e.symm)) hab (fun e => e.1.elim)
        unfold Tu.fUM at H6 HO6 HZ6 HP6
        clear hw6 hba HFm H5 HO5 x1 x2 x3
        go_wp2_with (at_builtin; refine wpList_append_v rfl (.tmp 22) (.tmp 26) 29 rfl (w.heap.size + 2) 58 i0 (.agg #[.string ⟨#[]⟩, .string ⟨#[]⟩]) 2 32 Tryz.underlying29 Hi.out Hz0.out Hz1.out Hz2.out rfl (by decide) rfl HO6.out rfl (IsV.made w6 _ 1 _ _) rfl (prOnes _ _) (by decide) (by decide) HZ6.out ?_; intro ao7 cap7 w7 hO7 hG7 _; have H7 := Hid.mk' (HP6.out ao7 cap7 w7 hG7); have HAn := Hid.mk' (answerT_lit 200 200 rfl [(Tu.fUO, du), (pn, pv), (Tu.fCC, Tu.vNS), (Tu.fUM, u.note)] ao7 cap7 4 w7 hO7.isV rfl (by decide)); clear hO7 hG7 HP6 HO6 H6 HZ6)
        refine HAn.out.mono ?_
        rintro e w9 ⟨ao9, cap9, n9, rfl, hn9, hO9, hB9⟩
        obtain ⟨⟨z0, z1, z2, y0, y1, y2⟩, HE⟩ := H7.out.ends noLaw (i := 1) rfl (b := w.heap.size + 1) (by first | rfl | omega) (st := 200) (sti := 200) rfl hn9 (Nat.le_trans (Nat.le_add_right _ _) H7.out.sz) hO9 hB9
        clear hn9 hO9 hB9
        go_wp2
        generalize (((w9.setCell ⟨w.heap.size + 1, 0, none⟩ (.int .i64 200)).setCell ⟨w.heap.size + 1, 1, none⟩ (.slice ao9 n9 cap9)).setCell ⟨w.heap.size + 1, 2, none⟩ (.slice none 0 0)) = wf at *
        obtain ⟨q0, q1, q2, q3⟩ := HE.out
        refine bodyPost_ret (v := .agg #[.int .i64 200, .slice ao9 n9 cap9, .slice none 0 0]) (by simp [results, Tryz.results56, go_sem, q0, q1, q2]) rfl ?_
        rw [HD.out]
        exact TuDid.rdone q3
end Go.Proofs.YtdclmpdjjkjfjaaGreatDoor

/- Package tus, walked: create. -/
namespace Go.Proofs.YtdclmpdjjkjfjaaGreatDoor
open Go.RowKit

section
variable {g : Nat} {m t : ByteArray} {mi ln : Int} {l : List (ByteArray × ByteArray)} {fo : Option Addr} {fcap nf : Nat} {bo : Option Addr} {bcap nb : Nat} {w w0 : World} {S : Nat → Prop} {s : Sr.Sh}
set_option maxRecDepth 100000 in
set_option maxHeartbeats 4000000 in
theorem createT_any (p : PwIn w0 w S) (h : StAt w S g s) (ok : Sr.Ok s) (hF : FlIn w l fo fcap nf) :
    Calls Tryz.prog 54 #[.agg #[.pointer (some ⟨g, 0, none⟩), .string m, .string t, .int .i64 mi, .slice fo nf fcap, .int .i64 ln, .slice bo nb bcap]] w fun e w' => TuEnd S w g (Tu.post s m l) e w' := by
  have T2 : TbAt StAt S w g [.cells #[.pointer (some ⟨g, 0, none⟩), .string m, .string t, .int .i64 mi, .slice fo nf fcap, .int .i64 ln, .slice bo nb bcap] 74 (0, 0), .cells #[.int .i64 0, .slice none 0 0, .slice none 0 0] 32 (0, 0)] s (fun k => S k ∧ k < w.heap.size) ((w.alloc (.cells #[.pointer (some ⟨g, 0, none⟩), .string m, .string t, .int .i64 mi, .slice fo nf fcap, .int .i64 ln, .slice bo nb bcap] 74)).alloc (.cells #[.int .i64 0, .slice none 0 0, .slice none 0 0] 32)) := exTwo h _
  have HB2 : Hid (Below w.heap.size w ((w.alloc (.cells #[.pointer (some ⟨g, 0, none⟩), .string m, .string t, .int .i64 mi, .slice fo nf fcap, .int .i64 ln, .slice bo nb bcap] 74)).alloc (.cells #[.int .i64 0, .slice none 0 0, .slice none 0 0] 32))) := then_ ((Below.refl _ w).alloc (Nat.le_refl _) _) ((Below.refl _ _).alloc (Nat.le_refl _) _)
  have HC : Hid (∀ W s' S', TbAt StAt S w g [.cells #[.pointer (some ⟨g, 0, none⟩), .string m, .string t, .int .i64 mi, .slice fo nf fcap, .int .i64 ln, .slice bo nb bcap] 74 (0, 0), .cells #[.int .i64 0, .slice none 0 0, .slice none 0 0] 32 (0, 0)] s' S' W → W.cell? ⟨w.heap.size, 0, none⟩ = some (.pointer (some ⟨g, 0, none⟩)) ∧ W.cell? ⟨w.heap.size, 1, none⟩ = some (.string m) ∧ W.cell? ⟨w.heap.size, 2, none⟩ = some (.string t) ∧ W.cell? ⟨w.heap.size, 3, none⟩ = some (.int .i64 mi) ∧ W.cell? ⟨w.heap.size, 4, none⟩ = some (.slice fo nf fcap) ∧ W.cell? ⟨w.heap.size, 5, none⟩ = some (.int .i64 ln) ∧ W.cell? ⟨w.heap.size, 6, none⟩ = some (.slice bo nb bcap)) := fun W s' S' hW => hW.ex
  obtain ⟨x0, x1, x2, x3, x4, x5, x6⟩ := HC.out _ _ _ T2
  have H2 := Hid.mk' T2
  have HF := Hid.mk' hF; have HOk := Hid.mk' ok; have HPw := Hid.mk' p
  clear T2 hF ok p h
  obtain ⟨R, hR⟩ : ∃ R, R = Tu.post s m l := ⟨_, rfl⟩
  rw [← hR]
  unfold Tu.post at hR
  have HD := Hid.mk' hR
  clear hR
  obtain ⟨bp, hbp⟩ : ∃ b, (m.toList == ([80, 79, 83, 84] : List UInt8)) = b := ⟨_, rfl⟩
  have eP : m = Tu.mPost ↔ bp = true := by rw [← hbp]; exact Tu.eqL m Tu.mPost _ rfl
  go_enter Tryz.func54, Tryz.ntmps54
  cases bp with
  | false =>
    rw [if_pos (fun e => by have := eP.1 e; cases this)] at HD
    go_wp2_with fail
    refine (needT_none 405 405 rfl _).mono ?_
    rintro e w9 hG
    obtain ⟨HE, ao9, cap9, n9, he⟩ := H2.out.fell hG
    unfold tgave at he
    subst he
    clear hG
    go_wp2
    exact ⟨rfl, by rw [HD.out]; exact HE.out⟩
  | true =>
    rw [if_neg (fun e => e (eP.2 rfl))] at HD
    clear eP
    go_wp2_with fail
    refine (needT_yes 405 none 0 0 _).mono ?_
    rintro e wq ⟨rfl, hw⟩
    rw [hw]
    clear hw
    cases hnn : (Tu.numIn (Tu.one (Tu.vals Tu.nUL l))).2 with
    | false =>
      rw [if_pos hnn] at HD
      have HSz := Hid.mk' (sizeT_bad (g := g) (m := m) (t := t) (mi := mi) (ln := ln) (bo := bo) (bcap := bcap) (nb := nb) (HF.out.stay HB2.out) hnn)
      clear hnn
      go_wp2_with fail
      refine (HSz.out).mono ?_
      rintro e w9 hG
      obtain ⟨HE, ao9, cap9, n9, he⟩ := H2.out.fell hG
      unfold tgave at he
      subst he
      clear hG
      go_wp2
      exact ⟨rfl, by rw [HD.out]; exact HE.out⟩
    | true =>
      rw [if_neg (by rw [hnn]; simp)] at HD
      obtain ⟨hsz1, hsz2⟩ := sizeT_any (g := g) (m := m) (t := t) (mi := mi) (ln := ln) (bo := bo) (bcap := bcap) (nb := nb) (HF.out.stay HB2.out) hnn
      clear hnn
      by_cases hbad : Tu.badSize l
      · have HSz := Hid.mk' (hsz1 hbad)
        unfold Tu.badSize at hbad
        rw [if_pos hbad] at HD
        clear hsz1 hsz2 hbad
        go_wp2_with fail
        refine (HSz.out).mono ?_
        rintro e w9 hG
        obtain ⟨HE, ao9, cap9, n9, he⟩ := H2.out.fell hG
        unfold tgave at he
        subst he
        clear hG
        go_wp2
        exact ⟨rfl, by rw [HD.out]; exact HE.out⟩
      · have HSz := Hid.mk' (hsz2 hbad)
        unfold Tu.badSize at hbad
        rw [if_neg hbad] at HD
        clear hsz1 hsz2 hbad
        generalize (Tu.numIn (Tu.one (Tu.vals Tu.nUL l))).1 = n at *
        go_wp2_with fail
        refine HSz.out.mono ?_
        rintro e w3 ⟨rfl, hw3⟩
        have HB3 := Hid.mk' (then_ HB2.out hw3)
        have H3 := Hid.mk' (H2.out.stay stLaw hw3)
        clear hw3 HSz x0 x1 x2 x3 x4 x5 x6
        obtain ⟨x0, x1, x2, x3, x4, x5, x6⟩ := HC.out _ _ _ H3.out
        have hzm := HF.out.val Tu.nUM
        generalize hvm : Tu.one (Tu.vals Tu.nUM l) = rm at *
        obtain ⟨vm, cm⟩ := rm
        simp only at hzm HD
        by_cases hm9 : cm = 9
        · subst hm9
          rw [if_pos rfl] at HD
          have HT := Hid.mk' (textT_no (g := g) (m := m) (t := t) (mi := mi) (ln := ln) (bo := bo) (bcap := bcap) (nb := nb) Tu.fUM (by decide) (HF.out.stay HB3.out) (by rw [Tu.vals_fUM]; exact hvm))
          unfold Tu.fUM at HT
          clear hvm hzm
          go_wp2_with fail
          refine (HT.out).mono ?_
          rintro e w9 hG
          obtain ⟨HE, ao9, cap9, n9, he⟩ := H3.out.fell hG
          unfold tgave at he
          subst he
          clear hG
          go_wp2
          exact ⟨rfl, by rw [HD.out]; exact HE.out⟩
        · rw [if_neg hm9] at HD
          have HT := Hid.mk' (textT_yes (g := g) (m := m) (t := t) (mi := mi) (ln := ln) (bo := bo) (bcap := bcap) (nb := nb) Tu.fUM (by decide) (HF.out.stay HB3.out) (by rw [Tu.vals_fUM]; exact hvm) hm9)
          unfold Tu.fUM at HT
          clear hvm hm9
          generalize decide (cm = 0) = cb at *
          have hzz : (Sr.ofL vm).size ≤ 1000000 := by rw [Sr.ofL_size]; omega
          rw [show (⟨vm.toArray⟩ : ByteArray) = Sr.ofL vm from rfl] at HT
          have HSm : Hid ((Sr.create s n (Sr.ofL vm)).2 ≠ 0 → (Sr.create s n (Sr.ofL vm)).1 = s) := fun e => by unfold Sr.create at e ⊢; exact Tu.write_same e
          generalize Sr.ofL vm = mb at *
          clear hzm
          go_wp2_with fail
          refine HT.out.mono ?_
          rintro e w4 ⟨rfl, hw4⟩
          have HB4 := Hid.mk' (then_ HB3.out hw4)
          have H4 := Hid.mk' (H3.out.stay stLaw hw4)
          clear hw4 HT H3 x0 x1 x2 x3 x4 x5 x6
          obtain ⟨x0, x1, x2, x3, x4, x5, x6⟩ := HC.out _ _ _ H4.out
          have HCr := Hid.mk' (createSt_any H4.out.sh HOk.out n mb hzz)
          clear hzz
          go_wp2_with fail
          refine HCr.out.mono ?_
          rintro e w5 ⟨rfl, hat, hT⟩
          have H5 := Hid.mk' (H4.out.did hat hT)
          clear hat hT HCr H4 x0 x1 x2 x3 x4 x5 x6
          generalize Sr.create s n mb = ra at *
          obtain ⟨sa, ca⟩ := ra
          simp only at HD HSm H5 ⊢
          obtain ⟨x0, x1, x2, x3, x4, x5, x6⟩ := HC.out _ _ _ H5.out
          by_cases hca : ca = 0
          · subst hca
            rw [if_neg (by simp)] at HD
            have hlast0 := HOk.out.h.last0
            have hlast1 := HOk.out.last_
            have hnum : Sr.numb s 0 = s.h.last + 1 := by unfold Sr.numb; rw [if_pos rfl]
            rw [hnum]
            clear hnum
            have HIt : Hid (∀ W, PowAt W → Calls Tryz.prog 77 #[.int .i64 (s.h.last + 1)] W fun e w' => e = .returned (.string (Tu.dec (s.h.last + 1).toNat)) ∧ Below W.heap.size W w') := fun W hW => by
              have := itoa_any (s.h.last + 1).toNat (by omega) W hW
              rw [show (((s.h.last + 1).toNat : Nat) : Int) = s.h.last + 1 from by omega] at this
              exact this
            have hdz : (Tu.dec (s.h.last + 1).toNat).size ≤ 9 := by
              show (Ch.decF 8 _).toArray.size ≤ 9
              rw [List.size_toArray]; have := Ch.decF_length 8 (s.h.last + 1).toNat; omega
            generalize Tu.dec (s.h.last + 1).toNat = db at *
            generalize s.h.last + 1 = lid at *
            clear hlast0 hlast1
            go_wp2_with fail
            refine (needDone_yes _).mono ?_
            rintro e wq ⟨rfl, hw⟩
            rw [hw]
            clear hw
            have HSy := Hid.mk' (syncSt_any H5.out.sh)
            go_wp2_with fail
            refine HSy.out.mono ?_
            rintro e w6 ⟨rfl, hat6, hT6⟩
            have H6 := Hid.mk' (H5.out.turned hat6 hT6)
            clear hat6 hT6 HSy H5 x0 x1 x2 x3 x4 x5 x6
            have HI6 := Hid.mk' (HIt.out w6 (H6.out.pow HPw.out))
            go_wp2_with fail
            refine HI6.out.mono ?_
            rintro e w7 ⟨rfl, hw7⟩
            have H7 := Hid.mk' (H6.out.stay stLaw hw7)
            clear hw7 HI6 HIt H6
            have HFd := Hid.mk' (fieldT_any Tu.fLo (Tu.bFilesS ++ db) w7)
            unfold Tu.fLo Tu.bFilesS at HFd
            go_wp2_with fail
            refine HFd.out.mono ?_
            rintro e w8 ⟨rfl, hw8⟩
            have H8 := Hid.mk' ((H7.out.stay stLaw hw8).stay stLaw ((Below.refl _ w8).alloc (Nat.le_refl _) (.cells #[.string Tu.fLo, .string (Tu.bFilesS ++ db)] 58)))
            have HAn := Hid.mk' (answerT_lit 201 201 rfl [(Tu.fLo, Tu.bFilesS ++ db)] (some ⟨w8.heap.size, 0, none⟩) 1 1 _ (IsV.made w8 #[.string Tu.fLo, .string (Tu.bFilesS ++ db)] 1 58 (0, 0)) rfl (by decide))
            unfold Tu.fLo Tu.bFilesS at HAn H8
            clear hw8 HFd H7
            go_wp2_with fail
            refine HAn.out.mono ?_
            rintro e w9 ⟨ao9, cap9, n9, rfl, hn9, hO9, hB9⟩
            obtain ⟨⟨z0, z1, z2, y0, y1, y2⟩, HE⟩ := H8.out.ends stLaw (i := 1) rfl (b := w.heap.size + 1) (by first | rfl | omega) (st := 201) (sti := 201) rfl hn9 (Nat.le_trans (Nat.le_add_right _ _) H8.out.sz) hO9 hB9
            clear hn9 hO9 hB9
            go_wp2
            generalize (((w9.setCell ⟨w.heap.size + 1, 0, none⟩ (.int .i64 201)).setCell ⟨w.heap.size + 1, 1, none⟩ (.slice ao9 n9 cap9)).setCell ⟨w.heap.size + 1, 2, none⟩ (.slice none 0 0)) = wf at *
            obtain ⟨q0, q1, q2, q3⟩ := HE.out
            refine bodyPost_ret (v := .agg #[.int .i64 201, .slice ao9 n9 cap9, .slice none 0 0]) (by simp [results, Tryz.results54, go_sem, q0, q1, q2]) rfl ?_
            rw [HD.out]
            exact TuEnd.of q3
          · rw [if_pos hca] at HD
            have hsa := HSm.out hca
            subst hsa
            have HNd := Hid.mk' (needDone_no ca hca w5)
            clear hca HSm
            generalize Sr.numb sa ca = nn at *
            go_wp2_with fail
            refine (HNd.out).mono ?_
            rintro e w9 hG
            obtain ⟨HE, ao9, cap9, n9, he⟩ := H5.out.fell hG
            unfold tgave at he
            subst he
            clear hG
            go_wp2
            exact ⟨rfl, by rw [HD.out]; exact HE.out⟩
end
end Go.Proofs.YtdclmpdjjkjfjaaGreatDoor

/- Package tus, walked: an exchange's reply. -/
namespace Go.Proofs.YtdclmpdjjkjfjaaGreatDoor
open Go.RowKit

section
variable {g : Nat} {m t : ByteArray} {mi ln : Int} {l : List (ByteArray × ByteArray)} {fo : Option Addr} {fcap nf : Nat} {bo : Option Addr} {bcap nb : Nat} {w w0 : World} {S : Nat → Prop} {s : Sr.Sh}
theorem TbAt.pw {O : ObP} {S' : Nat → Prop} {bs : List Obj} {W : World} (h : TbAt O S w g bs s S' W) (p : PwIn w0 w S) : PwIn w0 W S' :=
  ⟨p.pow, p.bel.trans (h.tu.below (fun k e => p.far k e.1) p.bel.size), fun k e => by
    have hz := p.bel.size
    rcases h.ap k e with h2 | h2
    · exact p.far k h2.1
    · omega⟩
set_option maxRecDepth 100000 in
set_option maxHeartbeats 8000000 in
theorem replyT_any (p : PwIn w0 w S) (h : StAt w S g s) (ok : Sr.Ok s) (hlg : s.log.length ≤ 99000) (hF : FlIn w l fo fcap nf) (body : List UInt8) (hb : body.length = nb) (hB : IsB w bo bcap body) (hnb : nb ≤ 100000) (ht : t.size ≤ 100000) :
    Calls Tryz.prog 28 #[.agg #[.pointer (some ⟨g, 0, none⟩), .string m, .string t, .int .i64 mi, .slice fo nf fcap, .int .i64 ln, .slice bo nb bcap]] w fun e w' => TuEnd S w g (Tu.tus s m t l body) e w' := by
  have T2 : TbAt StAt S w g [.cells #[.pointer (some ⟨g, 0, none⟩), .string m, .string t, .int .i64 mi, .slice fo nf fcap, .int .i64 ln, .slice bo nb bcap] 74 (0, 0), .cells #[.int .i64 0, .slice none 0 0, .slice none 0 0] 32 (0, 0)] s (fun k => S k ∧ k < w.heap.size) ((w.alloc (.cells #[.pointer (some ⟨g, 0, none⟩), .string m, .string t, .int .i64 mi, .slice fo nf fcap, .int .i64 ln, .slice bo nb bcap] 74)).alloc (.cells #[.int .i64 0, .slice none 0 0, .slice none 0 0] 32)) := exTwo h _
  have HB2 : Hid (Below w.heap.size w ((w.alloc (.cells #[.pointer (some ⟨g, 0, none⟩), .string m, .string t, .int .i64 mi, .slice fo nf fcap, .int .i64 ln, .slice bo nb bcap] 74)).alloc (.cells #[.int .i64 0, .slice none 0 0, .slice none 0 0] 32))) := then_ ((Below.refl _ w).alloc (Nat.le_refl _) _) ((Below.refl _ _).alloc (Nat.le_refl _) _)
  have HC : Hid (∀ W s' S', TbAt StAt S w g [.cells #[.pointer (some ⟨g, 0, none⟩), .string m, .string t, .int .i64 mi, .slice fo nf fcap, .int .i64 ln, .slice bo nb bcap] 74 (0, 0), .cells #[.int .i64 0, .slice none 0 0, .slice none 0 0] 32 (0, 0)] s' S' W → W.cell? ⟨w.heap.size, 0, none⟩ = some (.pointer (some ⟨g, 0, none⟩)) ∧ W.cell? ⟨w.heap.size, 1, none⟩ = some (.string m) ∧ W.cell? ⟨w.heap.size, 2, none⟩ = some (.string t) ∧ W.cell? ⟨w.heap.size, 3, none⟩ = some (.int .i64 mi) ∧ W.cell? ⟨w.heap.size, 4, none⟩ = some (.slice fo nf fcap) ∧ W.cell? ⟨w.heap.size, 5, none⟩ = some (.int .i64 ln) ∧ W.cell? ⟨w.heap.size, 6, none⟩ = some (.slice bo nb bcap)) := fun W s' S' hW => hW.ex
  obtain ⟨x0, x1, x2, x3, x4, x5, x6⟩ := HC.out _ _ _ T2
  have H2 := Hid.mk' T2
  have HF := Hid.mk' hF; have HOk := Hid.mk' ok; have HPw := Hid.mk' p; have HBd := Hid.mk' hB; have HBl := Hid.mk' hb; have HLg := Hid.mk' hlg
  clear T2 hF ok p h hB hb hlg
  obtain ⟨R, hR⟩ : ∃ R, R = Tu.tus s m t l body := ⟨_, rfl⟩
  rw [← hR]
  unfold Tu.tus at hR
  have HD := Hid.mk' hR
  clear hR
  obtain ⟨bf, hbf⟩ : ∃ b, (t.toList == ([47, 102, 105, 108, 101, 115] : List UInt8)) = b := ⟨_, rfl⟩
  have eF : t = Tu.bFiles ↔ bf = true := by rw [← hbf]; exact Tu.eqL t Tu.bFiles _ rfl
  obtain ⟨bo_, hbo_⟩ : ∃ b, (m.toList == ([79, 80, 84, 73, 79, 78, 83] : List UInt8)) = b := ⟨_, rfl⟩
  have eO : m = Tu.mOpt ↔ bo_ = true := by rw [← hbo_]; exact Tu.eqL m Tu.mOpt _ rfl
  go_enter Tryz.func28, Tryz.ntmps28
  cases bf with
  | true =>
    have HTf := Hid.mk' (eF.2 rfl)
    cases bo_ with
    | true =>
      rw [if_pos ⟨eF.2 rfl, eO.2 rfl⟩] at HD
      have HOp : Hid (Calls Tryz.prog 50 #[] ((w.alloc (.cells #[.pointer (some ⟨g, 0, none⟩), .string m, .string t, .int .i64 mi, .slice fo nf fcap, .int .i64 ln, .slice bo nb bcap] 74)).alloc (.cells #[.int .i64 0, .slice none 0 0, .slice none 0 0] 32)) fun e w' => ∃ (ao : Option Addr) (cap k : Nat), e = .returned (.agg #[.int .i64 204, .slice ao k cap, .slice none 0 0]) ∧ (Tu.said 204 [(Tu.fTV, Tu.v100), (Tu.fTX, Tu.v2000), (Tu.fTE, Tu.vTE)]).2.length = k ∧ OwnV w' ((w.alloc (.cells #[.pointer (some ⟨g, 0, none⟩), .string m, .string t, .int .i64 mi, .slice fo nf fcap, .int .i64 ln, .slice bo nb bcap] 74)).alloc (.cells #[.int .i64 0, .slice none 0 0, .slice none 0 0] 32)).heap.size 58 2 ao cap k (pairV (Tu.said 204 [(Tu.fTV, Tu.v100), (Tu.fTX, Tu.v2000), (Tu.fTE, Tu.vTE)]).2) ∧ Below ((w.alloc (.cells #[.pointer (some ⟨g, 0, none⟩), .string m, .string t, .int .i64 mi, .slice fo nf fcap, .int .i64 ln, .slice bo nb bcap] 74)).alloc (.cells #[.int .i64 0, .slice none 0 0, .slice none 0 0] 32)).heap.size ((w.alloc (.cells #[.pointer (some ⟨g, 0, none⟩), .string m, .string t, .int .i64 mi, .slice fo nf fcap, .int .i64 ln, .slice bo nb bcap] 74)).alloc (.cells #[.int .i64 0, .slice none 0 0, .slice none 0 0] 32)) w') := optionsT_any _ (H2.out.pow HPw.out)
      clear eF eO
      go_wp2_with fail
      refine HOp.out.mono ?_
      rintro e w9 ⟨ao9, cap9, n9, rfl, hn9, hO9, hB9⟩
      obtain ⟨⟨z0, z1, z2, y0, y1, y2⟩, HE⟩ := H2.out.ends stLaw (i := 1) rfl (b := w.heap.size + 1) (by first | rfl | omega) (st := 204) (sti := 204) rfl hn9 (Nat.le_trans (Nat.le_add_right _ _) H2.out.sz) hO9 hB9
      clear hn9 hO9 hB9
      go_wp2
      generalize (((w9.setCell ⟨w.heap.size + 1, 0, none⟩ (.int .i64 204)).setCell ⟨w.heap.size + 1, 1, none⟩ (.slice ao9 n9 cap9)).setCell ⟨w.heap.size + 1, 2, none⟩ (.slice none 0 0)) = wf at *
      obtain ⟨q0, q1, q2, q3⟩ := HE.out
      refine bodyPost_ret (v := .agg #[.int .i64 204, .slice ao9 n9 cap9, .slice none 0 0]) (by simp [results, Tryz.results28, go_sem, q0, q1, q2]) rfl ?_
      rw [HD.out]
      exact TuEnd.of q3
    | false =>
      rw [if_neg (fun e => by have := eO.1 e.2; cases this)] at HD
      clear eF eO
      have hzr := HF.out.val Tu.nTR
      generalize hvr : Tu.one (Tu.vals Tu.nTR l) = rr at *
      obtain ⟨vr, cr⟩ := rr
      simp only at hzr HD
      by_cases hr9 : cr = 9
      · subst hr9
        rw [if_pos rfl] at HD
        have HT := Hid.mk' (textT_no (g := g) (m := m) (t := t) (mi := mi) (ln := ln) (bo := bo) (bcap := bcap) (nb := nb) Tu.fTR (by decide) (HF.out.stay HB2.out) (by rw [Tu.vals_fTR]; exact hvr))
        unfold Tu.fTR at HT
        clear hvr hzr
        go_wp2_with fail
        refine (HT.out).mono ?_
        rintro e w9 hG
        obtain ⟨HE, ao9, cap9, n9, he⟩ := H2.out.fell hG
        unfold tgave at he
        subst he
        clear hG
        go_wp2
        exact ⟨rfl, by rw [HD.out]; exact HE.out⟩
      rw [if_neg hr9] at HD
      have HT := Hid.mk' (textT_yes (g := g) (m := m) (t := t) (mi := mi) (ln := ln) (bo := bo) (bcap := bcap) (nb := nb) Tu.fTR (by decide) (HF.out.stay HB2.out) (by rw [Tu.vals_fTR]; exact hvr) hr9)
      unfold Tu.fTR at HT
      clear hvr hzr hr9
      generalize decide (cr = 0) = cb at *
      obtain ⟨bv, hbv⟩ : ∃ b, ((⟨vr.toArray⟩ : ByteArray).toList == ([49, 46, 48, 46, 48] : List UInt8)) = b := ⟨_, rfl⟩
      have eV : vr = Tu.v100.data.toList ↔ bv = true := by rw [← hbv]; exact Tu.eqV vr _
      generalize (⟨vr.toArray⟩ : ByteArray) = vb at *
      go_wp2_with fail
      refine (HT.out).mono ?_
      rintro e w3 ⟨rfl, hw⟩
      have HB3 := Hid.mk' (then_ HB2.out hw)
      have H3 := Hid.mk' (H2.out.stay stLaw hw)
      clear hw H2 HB2 x0 x1 x2 x3 x4 x5 x6
      obtain ⟨x0, x1, x2, x3, x4, x5, x6⟩ := HC.out _ _ _ H3.out
      clear HT
      have HFd := Hid.mk' (fieldT_any Tu.fTV Tu.v100 w3)
      unfold Tu.fTV Tu.v100 at HFd
      go_wp2_with fail
      refine HFd.out.mono ?_
      rintro e w4 ⟨rfl, hw⟩
      have hba := (Below.refl _ w4).alloc (Nat.le_refl _) (.cells #[.string Tu.fTV, .string Tu.v100] 58)
      have H4 := Hid.mk' ((H3.out.stay stLaw hw).stay stLaw hba)
      have HB4 := Hid.mk' (then_ (then_ HB3.out hw) hba)
      have HNo := Hid.mk' (needT_no 412 412 rfl [(Tu.fTV, Tu.v100)] (some ⟨w4.heap.size, 0, none⟩) 1 1 _ (IsV.made w4 #[.string Tu.fTV, .string Tu.v100] 1 58 (0, 0)) rfl (by decide))
      clear hw hba HFd H3 HB3 x0 x1 x2 x3 x4 x5 x6
      cases bv with
      | false =>
        rw [if_pos (fun e => by have := eV.1 e; cases this)] at HD
        unfold Tu.fTV Tu.v100 at HNo H4
        go_wp2_with fail
        refine (HNo.out).mono ?_
        rintro e w9 hG
        obtain ⟨HE, ao9, cap9, n9, he⟩ := H4.out.fell hG
        unfold tgave at he
        subst he
        clear hG
        go_wp2
        exact ⟨rfl, by rw [HD.out]; exact HE.out⟩
      | true =>
      rw [if_neg (fun e => e (eV.2 rfl))] at HD
      clear eV HNo
      obtain ⟨x0, x1, x2, x3, x4, x5, x6⟩ := HC.out _ _ _ H4.out
      unfold Tu.fTV Tu.v100 at x0 x1 x2 x3 x4 x5 x6 H4 HB4
      go_wp2_with fail
      refine (needT_yes 412 _ _ _ _).mono ?_
      rintro e wq ⟨rfl, hw⟩
      rw [hw]
      clear hw
      generalize (w4.alloc (.cells #[.string ⟨#[84, 117, 115, 45, 86, 101, 114, 115, 105, 111, 110]⟩, .string ⟨#[49, 46, 48, 46, 48]⟩] 58)) = w5 at *
      rw [if_pos HTf.out] at HD
      have HCr := Hid.mk' (createT_any (g := g) (m := m) (t := t) (mi := mi) (ln := ln) (bo := bo) (bcap := bcap) (nb := nb) (H4.out.pw HPw.out) H4.out.sh HOk.out (HF.out.stay HB4.out))
      generalize Tu.post s m l = r9 at *
      obtain ⟨sr, st, lr⟩ := r9
      go_wp2_with fail
      refine (HCr.out).mono ?_
      rintro e w9 hE
      cases hE with
      | @gave ao9 cap9 n9 _ hn9 hO9 hat9 hT9 =>
        have HE := Hid.mk' (H4.out.fellT hn9 hO9 hat9 hT9)
        unfold tgave at HE ⊢
        clear hn9 hO9 hat9 hT9
        go_wp2
        exact ⟨rfl, by rw [HD.out]; exact HE.out⟩
      | @ret ao9 cap9 n9 _ hn9 hO9 hat9 hT9 =>
        have hH9 := H4.out.did hat9 hT9
        replace hO9 := hO9.mono (Nat.le_trans (Nat.le_add_right _ _) H4.out.sz)
        have hB9 := Below.refl w9.heap.size w9
        obtain ⟨⟨z0, z1, z2, y0, y1, y2⟩, HE⟩ := hH9.ends stLaw (i := 1) rfl (b := w.heap.size + 1) (by first | rfl | omega) (st := st) (sti := (st : Int)) rfl hn9 (Nat.le_refl _) hO9 hB9
        clear hn9 hO9 hB9 hat9 hT9 hH9
        go_wp2
        generalize (((w9.setCell ⟨w.heap.size + 1, 0, none⟩ (.int .i64 (st : Int))).setCell ⟨w.heap.size + 1, 1, none⟩ (.slice ao9 n9 cap9)).setCell ⟨w.heap.size + 1, 2, none⟩ (.slice none 0 0)) = wf at *
        obtain ⟨q0, q1, q2, q3⟩ := HE.out
        refine bodyPost_ret (v := .agg #[.int .i64 (st : Int), .slice ao9 n9 cap9, .slice none 0 0]) (by simp [results, Tryz.results28, go_sem, q0, q1, q2]) rfl ?_
        rw [HD.out]
        exact TuEnd.of q3
  | false =>
    have HTf : Hid (¬ t = Tu.bFiles) := fun e => by have := eF.1 e; cases this
    rw [if_neg (fun e => HTf.out e.1)] at HD
    clear eF eO
    cases bo_ with
    | true =>
      have hzr := HF.out.val Tu.nTR
      generalize hvr : Tu.one (Tu.vals Tu.nTR l) = rr at *
      obtain ⟨vr, cr⟩ := rr
      simp only at hzr HD
      by_cases hr9 : cr = 9
      · subst hr9
        rw [if_pos rfl] at HD
        have HT := Hid.mk' (textT_no (g := g) (m := m) (t := t) (mi := mi) (ln := ln) (bo := bo) (bcap := bcap) (nb := nb) Tu.fTR (by decide) (HF.out.stay HB2.out) (by rw [Tu.vals_fTR]; exact hvr))
        unfold Tu.fTR at HT
        clear hvr hzr
        go_wp2_with fail
        refine (HT.out).mono ?_
        rintro e w9 hG
        obtain ⟨HE, ao9, cap9, n9, he⟩ := H2.out.fell hG
        unfold tgave at he
        subst he
        clear hG
        go_wp2
        exact ⟨rfl, by rw [HD.out]; exact HE.out⟩
      rw [if_neg hr9] at HD
      have HT := Hid.mk' (textT_yes (g := g) (m := m) (t := t) (mi := mi) (ln := ln) (bo := bo) (bcap := bcap) (nb := nb) Tu.fTR (by decide) (HF.out.stay HB2.out) (by rw [Tu.vals_fTR]; exact hvr) hr9)
      unfold Tu.fTR at HT
      clear hvr hzr hr9
      generalize decide (cr = 0) = cb at *
      obtain ⟨bv, hbv⟩ : ∃ b, ((⟨vr.toArray⟩ : ByteArray).toList == ([49, 46, 48, 46, 48] : List UInt8)) = b := ⟨_, rfl⟩
      have eV : vr = Tu.v100.data.toList ↔ bv = true := by rw [← hbv]; exact Tu.eqV vr _
      generalize (⟨vr.toArray⟩ : ByteArray) = vb at *
      go_wp2_with fail
      refine (HT.out).mono ?_
      rintro e w3 ⟨rfl, hw⟩
      have HB3 := Hid.mk' (then_ HB2.out hw)
      have H3 := Hid.mk' (H2.out.stay stLaw hw)
      clear hw H2 HB2 x0 x1 x2 x3 x4 x5 x6
      obtain ⟨x0, x1, x2, x3, x4, x5, x6⟩ := HC.out _ _ _ H3.out
      clear HT
      have HFd := Hid.mk' (fieldT_any Tu.fTV Tu.v100 w3)
      unfold Tu.fTV Tu.v100 at HFd
      go_wp2_with fail
      refine HFd.out.mono ?_
      rintro e w4 ⟨rfl, hw⟩
      have hba := (Below.refl _ w4).alloc (Nat.le_refl _) (.cells #[.string Tu.fTV, .string Tu.v100] 58)
      have H4 := Hid.mk' ((H3.out.stay stLaw hw).stay stLaw hba)
      have HB4 := Hid.mk' (then_ (then_ HB3.out hw) hba)
      have HNo := Hid.mk' (needT_no 412 412 rfl [(Tu.fTV, Tu.v100)] (some ⟨w4.heap.size, 0, none⟩) 1 1 _ (IsV.made w4 #[.string Tu.fTV, .string Tu.v100] 1 58 (0, 0)) rfl (by decide))
      clear hw hba HFd H3 HB3 x0 x1 x2 x3 x4 x5 x6
      cases bv with
      | false =>
        rw [if_pos (fun e => by have := eV.1 e; cases this)] at HD
        unfold Tu.fTV Tu.v100 at HNo H4
        go_wp2_with fail
        refine (HNo.out).mono ?_
        rintro e w9 hG
        obtain ⟨HE, ao9, cap9, n9, he⟩ := H4.out.fell hG
        unfold tgave at he
        subst he
        clear hG
        go_wp2
        exact ⟨rfl, by rw [HD.out]; exact HE.out⟩
      | true =>
      rw [if_neg (fun e => e (eV.2 rfl))] at HD
      clear eV HNo
      obtain ⟨x0, x1, x2, x3, x4, x5, x6⟩ := HC.out _ _ _ H4.out
      unfold Tu.fTV Tu.v100 at x0 x1 x2 x3 x4 x5 x6 H4 HB4
      go_wp2_with fail
      refine (needT_yes 412 _ _ _ _).mono ?_
      rintro e wq ⟨rfl, hw⟩
      rw [hw]
      clear hw
      generalize (w4.alloc (.cells #[.string ⟨#[84, 117, 115, 45, 86, 101, 114, 115, 105, 111, 110]⟩, .string ⟨#[49, 46, 48, 46, 48]⟩] 58)) = w5 at *
      rw [if_neg HTf.out] at HD
      obtain ⟨hup1, hup2⟩ := uploadT_any (g := g) (m := m) (t := t) (mi := mi) (ln := ln) (fo := fo) (fcap := fcap) (nf := nf) (bo := bo) (bcap := bcap) (nb := nb) H4.out.sh HOk.out (H4.out.pow HPw.out) ht
      cases hua : Tu.upAt s.h t with
      | none =>
        rw [hua] at HD
        simp only at HD
        have HUp := Hid.mk' (hup1 hua)
        clear hup1 hup2 hua
        go_wp2_with fail
        refine (HUp.out).mono ?_
        rintro e w9 hG
        obtain ⟨HE, ao9, cap9, n9, he⟩ := H4.out.fell hG
        unfold tgave at he
        subst he
        clear hG
        go_wp2
        exact ⟨rfl, by rw [HD.out]; exact HE.out⟩
      | some u =>
      rw [hua] at HD
      simp only at HD
      have HUp := Hid.mk' (hup2 u hua)
      have hmem := (Tu.upAt_mem hua).1
      have huo := HOk.out.h.all u hmem
      have hul := huo.long; have hs0 := huo.size0; have hs1 := huo.size1
      have HDz := Hid.mk' (Tu.drop_room HOk.out hua HLg.out)
      clear hup1 hup2 hua hmem huo
      obtain ⟨un, hun⟩ : ∃ un, u.bytes.length = un := ⟨_, rfl⟩
      have HUn := Hid.mk' hun
      rw [hun] at hul
      rw [hun] at HUp
      clear hun
      go_wp2_with fail
      refine HUp.out.mono ?_
      rintro e w6 ⟨uo, ucap, rfl, hw⟩
      have hba := (Below.refl _ w6).alloc (Nat.le_refl _) (.cells #[.int .i64 u.id, .int .i64 u.size, .string u.note, .slice uo un ucap, .int .i64 u.sent] 67)
      have H6 := Hid.mk' ((H4.out.stay stLaw hw).stay stLaw hba)
      have HB6 := Hid.mk' (then_ (then_ HB4.out hw) hba)
      clear hw hba HUp H4 HB4 x0 x1 x2 x3 x4 x5 x6
      obtain ⟨x0, x1, x2, x3, x4, x5, x6⟩ := HC.out _ _ _ H6.out
      have v0 : (w6.alloc (.cells #[.int .i64 u.id, .int .i64 u.size, .string u.note, .slice uo un ucap, .int .i64 u.sent] 67)).cell? ⟨w6.heap.size, 0, none⟩ = some (.int .i64 u.id) := World.cell?_alloc_mark w6 _ _ _ 0
      have v1 : (w6.alloc (.cells #[.int .i64 u.id, .int .i64 u.size, .string u.note, .slice uo un ucap, .int .i64 u.sent] 67)).cell? ⟨w6.heap.size, 1, none⟩ = some (.int .i64 u.size) := World.cell?_alloc_mark w6 _ _ _ 1
      have v2 : (w6.alloc (.cells #[.int .i64 u.id, .int .i64 u.size, .string u.note, .slice uo un ucap, .int .i64 u.sent] 67)).cell? ⟨w6.heap.size, 2, none⟩ = some (.string u.note) := World.cell?_alloc_mark w6 _ _ _ 2
      have v3 : (w6.alloc (.cells #[.int .i64 u.id, .int .i64 u.size, .string u.note, .slice uo un ucap, .int .i64 u.sent] 67)).cell? ⟨w6.heap.size, 3, none⟩ = some (.slice uo un ucap) := World.cell?_alloc_mark w6 _ _ _ 3
      have v4 : (w6.alloc (.cells #[.int .i64 u.id, .int .i64 u.size, .string u.note, .slice uo un ucap, .int .i64 u.sent] 67)).cell? ⟨w6.heap.size, 4, none⟩ = some (.int .i64 u.sent) := World.cell?_alloc_mark w6 _ _ _ 4
      go_upto_region 8 with fail
      generalize (w6.alloc (.cells #[.int .i64 u.id, .int .i64 u.size, .string u.note, .slice uo un ucap, .int .i64 u.sent] 67)) = w7 at *
      generalize w6.heap.size = k6 at *
      unfold Tu.ask at HD
      obtain ⟨bh, hbh⟩ : ∃ b, (m.toList == ([72, 69, 65, 68] : List UInt8)) = b := ⟨_, rfl⟩
      have eH : m = Tu.mHead ↔ bh = true := by rw [← hbh]; exact Tu.eqL m Tu.mHead _ rfl
      cases bh with
      | true =>
        rw [if_pos (eH.2 rfl)] at HD
        have HDs : Hid (Calls Tryz.prog 56 #[.agg #[.int .i64 u.id, .int .i64 u.size, .string u.note, .slice uo un ucap, .int .i64 u.sent]] w7 fun e w' => ∃ (ao : Option Addr) (cap k : Nat), e = .returned (.agg #[.int .i64 200, .slice ao k cap, .slice none 0 0]) ∧ (Tu.head u).2.length = k ∧ OwnV w' w7.heap.size 58 2 ao cap k (pairV (Tu.head u).2) ∧ Below w7.heap.size w7 w') := describeT_any u uo un ucap HUn.out hs0 hs1 hul w7 (H6.out.pow HPw.out)
        have HHd : Hid (Tu.head u = (200, (Tu.head u).2)) := by unfold Hid; rfl
        rw [HHd.out] at HD
        clear eH HHd
        generalize (Tu.head u).2 = lh at *
        go_wp2_with fail
        refine HDs.out.mono ?_
        rintro e w9 ⟨ao9, cap9, n9, rfl, hn9, hO9, hB9⟩
        obtain ⟨⟨z0, z1, z2, y0, y1, y2⟩, HE⟩ := H6.out.ends stLaw (i := 1) rfl (b := w.heap.size + 1) (by first | rfl | omega) (st := 200) (sti := 200) rfl hn9 (Nat.le_trans (Nat.le_add_right _ _) H6.out.sz) hO9 hB9
        clear hn9 hO9 hB9
        go_wp2
        generalize (((w9.setCell ⟨w.heap.size + 1, 0, none⟩ (.int .i64 200)).setCell ⟨w.heap.size + 1, 1, none⟩ (.slice ao9 n9 cap9)).setCell ⟨w.heap.size + 1, 2, none⟩ (.slice none 0 0)) = wf at *
        obtain ⟨q0, q1, q2, q3⟩ := HE.out
        refine bodyPost_ret (v := .agg #[.int .i64 200, .slice ao9 n9 cap9, .slice none 0 0]) (by simp [results, Tryz.results28, go_sem, q0, q1, q2]) rfl ?_
        rw [HD.out]
        exact TuEnd.of q3
      | false =>
      rw [if_neg (fun e => by have := eH.1 e; cases this)] at HD
      clear eH
      obtain ⟨bt, hbt⟩ : ∃ b, (m.toList == ([80, 65, 84, 67, 72] : List UInt8)) = b := ⟨_, rfl⟩
      have eT : m = Tu.mPat ↔ bt = true := by rw [← hbt]; exact Tu.eqL m Tu.mPat _ rfl
      cases bt with
      | true =>
        rw [if_neg (fun e => by have := (eT.2 rfl).symm.trans e; revert this; decide), if_pos (eT.2 rfl)] at HD
        have HEx := Hid.mk' (extendT_any (g := g) (m := m) (t := t) (mi := mi) (ln := ln) (bo := bo) (bcap := bcap) (nb := nb) (H6.out.pw HPw.out) H6.out.sh HOk.out (HF.out.stay HB6.out) body HBl.out (HBd.out.stay HB6.out) hnb u uo un ucap HUn.out hul hs0)
        clear eT
        generalize Tu.patch s u l body = r9 at *
        obtain ⟨sr, st, lr⟩ := r9
        go_wp2_with fail
        refine (HEx.out).mono ?_
        rintro e w9 hE
        cases hE with
        | @gave ao9 cap9 n9 _ hn9 hO9 hat9 hT9 =>
          have HE := Hid.mk' (H6.out.fellT hn9 hO9 hat9 hT9)
          unfold tgave at HE ⊢
          clear hn9 hO9 hat9 hT9
          go_wp2
          exact ⟨rfl, by rw [HD.out]; exact HE.out⟩
        | @ret ao9 cap9 n9 _ hn9 hO9 hat9 hT9 =>
          have hH9 := H6.out.did hat9 hT9
          replace hO9 := hO9.mono (Nat.le_trans (Nat.le_add_right _ _) H6.out.sz)
          have hB9 := Below.refl w9.heap.size w9
          obtain ⟨⟨z0, z1, z2, y0, y1, y2⟩, HE⟩ := hH9.ends stLaw (i := 1) rfl (b := w.heap.size + 1) (by first | rfl | omega) (st := st) (sti := (st : Int)) rfl hn9 (Nat.le_refl _) hO9 hB9
          clear hn9 hO9 hB9 hat9 hT9 hH9
          go_wp2
          generalize (((w9.setCell ⟨w.heap.size + 1, 0, none⟩ (.int .i64 (st : Int))).setCell ⟨w.heap.size + 1, 1, none⟩ (.slice ao9 n9 cap9)).setCell ⟨w.heap.size + 1, 2, none⟩ (.slice none 0 0)) = wf at *
          obtain ⟨q0, q1, q2, q3⟩ := HE.out
          refine bodyPost_ret (v := .agg #[.int .i64 (st : Int), .slice ao9 n9 cap9, .slice none 0 0]) (by simp [results, Tryz.results28, go_sem, q0, q1, q2]) rfl ?_
          rw [HD.out]
          exact TuEnd.of q3
      | false =>
      obtain ⟨bd, hbd⟩ : ∃ b, (m.toList == ([68, 69, 76, 69, 84, 69] : List UInt8)) = b := ⟨_, rfl⟩
      have eD : m = Tu.mDel ↔ bd = true := by rw [← hbd]; exact Tu.eqL m Tu.mDel _ rfl
      cases bd with
      | true =>
        rw [if_pos (eD.2 rfl), if_neg (fun e => e HDz.out)] at HD
        have HRe := Hid.mk' (removeT_any (g := g) (m := m) (t := t) (mi := mi) (ln := ln) (fo := fo) (fcap := fcap) (nf := nf) (bo := bo) (bcap := bcap) (nb := nb) H6.out.sh HOk.out u uo un ucap HDz.out)
        clear eT eD
        generalize (Sr.sync (Sr.drop s u.id).1, Tu.said 204 []) = r9 at *
        obtain ⟨sr, st, lr⟩ := r9
        go_wp2_with fail
        refine (HRe.out).mono ?_
        rintro e w9 hE
        cases hE with
        | @gave ao9 cap9 n9 _ hn9 hO9 hat9 hT9 =>
          have HE := Hid.mk' (H6.out.fellT hn9 hO9 hat9 hT9)
          unfold tgave at HE ⊢
          clear hn9 hO9 hat9 hT9
          go_wp2
          exact ⟨rfl, by rw [HD.out]; exact HE.out⟩
        | @ret ao9 cap9 n9 _ hn9 hO9 hat9 hT9 =>
          have hH9 := H6.out.did hat9 hT9
          replace hO9 := hO9.mono (Nat.le_trans (Nat.le_add_right _ _) H6.out.sz)
          have hB9 := Below.refl w9.heap.size w9
          obtain ⟨⟨z0, z1, z2, y0, y1, y2⟩, HE⟩ := hH9.ends stLaw (i := 1) rfl (b := w.heap.size + 1) (by first | rfl | omega) (st := st) (sti := (st : Int)) rfl hn9 (Nat.le_refl _) hO9 hB9
          clear hn9 hO9 hB9 hat9 hT9 hH9
          go_wp2
          generalize (((w9.setCell ⟨w.heap.size + 1, 0, none⟩ (.int .i64 (st : Int))).setCell ⟨w.heap.size + 1, 1, none⟩ (.slice ao9 n9 cap9)).setCell ⟨w.heap.size + 1, 2, none⟩ (.slice none 0 0)) = wf at *
          obtain ⟨q0, q1, q2, q3⟩ := HE.out
          refine bodyPost_ret (v := .agg #[.int .i64 (st : Int), .slice ao9 n9 cap9, .slice none 0 0]) (by simp [results, Tryz.results28, go_sem, q0, q1, q2]) rfl ?_
          rw [HD.out]
          exact TuEnd.of q3
      | false =>
      rw [if_neg (fun e => by have := eD.1 e; cases this), if_neg (fun e => by have := eT.1 e; cases this)] at HD
      have HAn := Hid.mk' (answerT_lit 405 405 rfl [] none 0 0 w7 (IsV.nil w7) rfl (by decide))
      clear eT eD
      go_wp2_with fail
      refine HAn.out.mono ?_
      rintro e w9 ⟨ao9, cap9, n9, rfl, hn9, hO9, hB9⟩
      obtain ⟨⟨z0, z1, z2, y0, y1, y2⟩, HE⟩ := H6.out.ends stLaw (i := 1) rfl (b := w.heap.size + 1) (by first | rfl | omega) (st := 405) (sti := 405) rfl hn9 (Nat.le_trans (Nat.le_add_right _ _) H6.out.sz) hO9 hB9
      clear hn9 hO9 hB9
      go_wp2
      generalize (((w9.setCell ⟨w.heap.size + 1, 0, none⟩ (.int .i64 405)).setCell ⟨w.heap.size + 1, 1, none⟩ (.slice ao9 n9 cap9)).setCell ⟨w.heap.size + 1, 2, none⟩ (.slice none 0 0)) = wf at *
      obtain ⟨q0, q1, q2, q3⟩ := HE.out
      refine bodyPost_ret (v := .agg #[.int .i64 405, .slice ao9 n9 cap9, .slice none 0 0]) (by simp [results, Tryz.results28, go_sem, q0, q1, q2]) rfl ?_
      rw [HD.out]
      exact TuEnd.of q3
    | false =>
      have hzr := HF.out.val Tu.nTR
      generalize hvr : Tu.one (Tu.vals Tu.nTR l) = rr at *
      obtain ⟨vr, cr⟩ := rr
      simp only at hzr HD
      by_cases hr9 : cr = 9
      · subst hr9
        rw [if_pos rfl] at HD
        have HT := Hid.mk' (textT_no (g := g) (m := m) (t := t) (mi := mi) (ln := ln) (bo := bo) (bcap := bcap) (nb := nb) Tu.fTR (by decide) (HF.out.stay HB2.out) (by rw [Tu.vals_fTR]; exact hvr))
        unfold Tu.fTR at HT
        clear hvr hzr
        go_wp2_with fail
        refine (HT.out).mono ?_
        rintro e w9 hG
        obtain ⟨HE, ao9, cap9, n9, he⟩ := H2.out.fell hG
        unfold tgave at he
        subst he
        clear hG
        go_wp2
        exact ⟨rfl, by rw [HD.out]; exact HE.out⟩
      rw [if_neg hr9] at HD
      have HT := Hid.mk' (textT_yes (g := g) (m := m) (t := t) (mi := mi) (ln := ln) (bo := bo) (bcap := bcap) (nb := nb) Tu.fTR (by decide) (HF.out.stay HB2.out) (by rw [Tu.vals_fTR]; exact hvr) hr9)
      unfold Tu.fTR at HT
      clear hvr hzr hr9
      generalize decide (cr = 0) = cb at *
      obtain ⟨bv, hbv⟩ : ∃ b, ((⟨vr.toArray⟩ : ByteArray).toList == ([49, 46, 48, 46, 48] : List UInt8)) = b := ⟨_, rfl⟩
      have eV : vr = Tu.v100.data.toList ↔ bv = true := by rw [← hbv]; exact Tu.eqV vr _
      generalize (⟨vr.toArray⟩ : ByteArray) = vb at *
      go_wp2_with fail
      refine (HT.out).mono ?_
      rintro e w3 ⟨rfl, hw⟩
      have HB3 := Hid.mk' (then_ HB2.out hw)
      have H3 := Hid.mk' (H2.out.stay stLaw hw)
      clear hw H2 HB2 x0 x1 x2 x3 x4 x5 x6
      obtain ⟨x0, x1, x2, x3, x4, x5, x6⟩ := HC.out _ _ _ H3.out
      clear HT
      have HFd := Hid.mk' (fieldT_any Tu.fTV Tu.v100 w3)
      unfold Tu.fTV Tu.v100 at HFd
      go_wp2_with fail
      refine HFd.out.mono ?_
      rintro e w4 ⟨rfl, hw⟩
      have hba := (Below.refl _ w4).alloc (Nat.le_refl _) (.cells #[.string Tu.fTV, .string Tu.v100] 58)
      have H4 := Hid.mk' ((H3.out.stay stLaw hw).stay stLaw hba)
      have HB4 := Hid.mk' (then_ (then_ HB3.out hw) hba)
      have HNo := Hid.mk' (needT_no 412 412 rfl [(Tu.fTV, Tu.v100)] (some ⟨w4.heap.size, 0, none⟩) 1 1 _ (IsV.made w4 #[.string Tu.fTV, .string Tu.v100] 1 58 (0, 0)) rfl (by decide))
      clear hw hba HFd H3 HB3 x0 x1 x2 x3 x4 x5 x6
      cases bv with
      | false =>
        rw [if_pos (fun e => by have := eV.1 e; cases this)] at HD
        unfold Tu.fTV Tu.v100 at HNo H4
        go_wp2_with fail
        refine (HNo.out).mono ?_
        rintro e w9 hG
        obtain ⟨HE, ao9, cap9, n9, he⟩ := H4.out.fell hG
        unfold tgave at he
        subst he
        clear hG
        go_wp2
        exact ⟨rfl, by rw [HD.out]; exact HE.out⟩
      | true =>
      rw [if_neg (fun e => e (eV.2 rfl))] at HD
      clear eV HNo
      obtain ⟨x0, x1, x2, x3, x4, x5, x6⟩ := HC.out _ _ _ H4.out
      unfold Tu.fTV Tu.v100 at x0 x1 x2 x3 x4 x5 x6 H4 HB4
      go_wp2_with fail
      refine (needT_yes 412 _ _ _ _).mono ?_
      rintro e wq ⟨rfl, hw⟩
      rw [hw]
      clear hw
      generalize (w4.alloc (.cells #[.string ⟨#[84, 117, 115, 45, 86, 101, 114, 115, 105, 111, 110]⟩, .string ⟨#[49, 46, 48, 46, 48]⟩] 58)) = w5 at *
      rw [if_neg HTf.out] at HD
      obtain ⟨hup1, hup2⟩ := uploadT_any (g := g) (m := m) (t := t) (mi := mi) (ln := ln) (fo := fo) (fcap := fcap) (nf := nf) (bo := bo) (bcap := bcap) (nb := nb) H4.out.sh HOk.out (H4.out.pow HPw.out) ht
      cases hua : Tu.upAt s.h t with
      | none =>
        rw [hua] at HD
        simp only at HD
        have HUp := Hid.mk' (hup1 hua)
        clear hup1 hup2 hua
        go_wp2_with fail
        refine (HUp.out).mono ?_
        rintro e w9 hG
        obtain ⟨HE, ao9, cap9, n9, he⟩ := H4.out.fell hG
        unfold tgave at he
        subst he
        clear hG
        go_wp2
        exact ⟨rfl, by rw [HD.out]; exact HE.out⟩
      | some u =>
      rw [hua] at HD
      simp only at HD
      have HUp := Hid.mk' (hup2 u hua)
      have hmem := (Tu.upAt_mem hua).1
      have huo := HOk.out.h.all u hmem
      have hul := huo.long; have hs0 := huo.size0; have hs1 := huo.size1
      have HDz := Hid.mk' (Tu.drop_room HOk.out hua HLg.out)
      clear hup1 hup2 hua hmem huo
      obtain ⟨un, hun⟩ : ∃ un, u.bytes.length = un := ⟨_, rfl⟩
      have HUn := Hid.mk' hun
      rw [hun] at hul
      rw [hun] at HUp
      clear hun
      go_wp2_with fail
      refine HUp.out.mono ?_
      rintro e w6 ⟨uo, ucap, rfl, hw⟩
      have hba := (Below.refl _ w6).alloc (Nat.le_refl _) (.cells #[.int .i64 u.id, .int .i64 u.size, .string u.note, .slice uo un ucap, .int .i64 u.sent] 67)
      have H6 := Hid.mk' ((H4.out.stay stLaw hw).stay stLaw hba)
      have HB6 := Hid.mk' (then_ (then_ HB4.out hw) hba)
      clear hw hba HUp H4 HB4 x0 x1 x2 x3 x4 x5 x6
      obtain ⟨x0, x1, x2, x3, x4, x5, x6⟩ := HC.out _ _ _ H6.out
      have v0 : (w6.alloc (.cells #[.int .i64 u.id, .int .i64 u.size, .string u.note, .slice uo un ucap, .int .i64 u.sent] 67)).cell? ⟨w6.heap.size, 0, none⟩ = some (.int .i64 u.id) := World.cell?_alloc_mark w6 _ _ _ 0
      have v1 : (w6.alloc (.cells #[.int .i64 u.id, .int .i64 u.size, .string u.note, .slice uo un ucap, .int .i64 u.sent] 67)).cell? ⟨w6.heap.size, 1, none⟩ = some (.int .i64 u.size) := World.cell?_alloc_mark w6 _ _ _ 1
      have v2 : (w6.alloc (.cells #[.int .i64 u.id, .int .i64 u.size, .string u.note, .slice uo un ucap, .int .i64 u.sent] 67)).cell? ⟨w6.heap.size, 2, none⟩ = some (.string u.note) := World.cell?_alloc_mark w6 _ _ _ 2
      have v3 : (w6.alloc (.cells #[.int .i64 u.id, .int .i64 u.size, .string u.note, .slice uo un ucap, .int .i64 u.sent] 67)).cell? ⟨w6.heap.size, 3, none⟩ = some (.slice uo un ucap) := World.cell?_alloc_mark w6 _ _ _ 3
      have v4 : (w6.alloc (.cells #[.int .i64 u.id, .int .i64 u.size, .string u.note, .slice uo un ucap, .int .i64 u.sent] 67)).cell? ⟨w6.heap.size, 4, none⟩ = some (.int .i64 u.sent) := World.cell?_alloc_mark w6 _ _ _ 4
      go_upto_region 8 with fail
      generalize (w6.alloc (.cells #[.int .i64 u.id, .int .i64 u.size, .string u.note, .slice uo un ucap, .int .i64 u.sent] 67)) = w7 at *
      generalize w6.heap.size = k6 at *
      unfold Tu.ask at HD
      obtain ⟨bh, hbh⟩ : ∃ b, (m.toList == ([72, 69, 65, 68] : List UInt8)) = b := ⟨_, rfl⟩
      have eH : m = Tu.mHead ↔ bh = true := by rw [← hbh]; exact Tu.eqL m Tu.mHead _ rfl
      cases bh with
      | true =>
        rw [if_pos (eH.2 rfl)] at HD
        have HDs : Hid (Calls Tryz.prog 56 #[.agg #[.int .i64 u.id, .int .i64 u.size, .string u.note, .slice uo un ucap, .int .i64 u.sent]] w7 fun e w' => ∃ (ao : Option Addr) (cap k : Nat), e = .returned (.agg #[.int .i64 200, .slice ao k cap, .slice none 0 0]) ∧ (Tu.head u).2.length = k ∧ OwnV w' w7.heap.size 58 2 ao cap k (pairV (Tu.head u).2) ∧ Below w7.heap.size w7 w') := describeT_any u uo un ucap HUn.out hs0 hs1 hul w7 (H6.out.pow HPw.out)
        have HHd : Hid (Tu.head u = (200, (Tu.head u).2)) := by unfold Hid; rfl
        rw [HHd.out] at HD
        clear eH HHd
        generalize (Tu.head u).2 = lh at *
        go_wp2_with fail
        refine HDs.out.mono ?_
        rintro e w9 ⟨ao9, cap9, n9, rfl, hn9, hO9, hB9⟩
        obtain ⟨⟨z0, z1, z2, y0, y1, y2⟩, HE⟩ := H6.out.ends stLaw (i := 1) rfl (b := w.heap.size + 1) (by first | rfl | omega) (st := 200) (sti := 200) rfl hn9 (Nat.le_trans (Nat.le_add_right _ _) H6.out.sz) hO9 hB9
        clear hn9 hO9 hB9
        go_wp2
        generalize (((w9.setCell ⟨w.heap.size + 1, 0, none⟩ (.int .i64 200)).setCell ⟨w.heap.size + 1, 1, none⟩ (.slice ao9 n9 cap9)).setCell ⟨w.heap.size + 1, 2, none⟩ (.slice none 0 0)) = wf at *
        obtain ⟨q0, q1, q2, q3⟩ := HE.out
        refine bodyPost_ret (v := .agg #[.int .i64 200, .slice ao9 n9 cap9, .slice none 0 0]) (by simp [results, Tryz.results28, go_sem, q0, q1, q2]) rfl ?_
        rw [HD.out]
        exact TuEnd.of q3
      | false =>
      rw [if_neg (fun e => by have := eH.1 e; cases this)] at HD
      clear eH
      obtain ⟨bt, hbt⟩ : ∃ b, (m.toList == ([80, 65, 84, 67, 72] : List UInt8)) = b := ⟨_, rfl⟩
      have eT : m = Tu.mPat ↔ bt = true := by rw [← hbt]; exact Tu.eqL m Tu.mPat _ rfl
      cases bt with
      | true =>
        rw [if_neg (fun e => by have := (eT.2 rfl).symm.trans e; revert this; decide), if_pos (eT.2 rfl)] at HD
        have HEx := Hid.mk' (extendT_any (g := g) (m := m) (t := t) (mi := mi) (ln := ln) (bo := bo) (bcap := bcap) (nb := nb) (H6.out.pw HPw.out) H6.out.sh HOk.out (HF.out.stay HB6.out) body HBl.out (HBd.out.stay HB6.out) hnb u uo un ucap HUn.out hul hs0)
        clear eT
        generalize Tu.patch s u l body = r9 at *
        obtain ⟨sr, st, lr⟩ := r9
        go_wp2_with fail
        refine (HEx.out).mono ?_
        rintro e w9 hE
        cases hE with
        | @gave ao9 cap9 n9 _ hn9 hO9 hat9 hT9 =>
          have HE := Hid.mk' (H6.out.fellT hn9 hO9 hat9 hT9)
          unfold tgave at HE ⊢
          clear hn9 hO9 hat9 hT9
          go_wp2
          exact ⟨rfl, by rw [HD.out]; exact HE.out⟩
        | @ret ao9 cap9 n9 _ hn9 hO9 hat9 hT9 =>
          have hH9 := H6.out.did hat9 hT9
          replace hO9 := hO9.mono (Nat.le_trans (Nat.le_add_right _ _) H6.out.sz)
          have hB9 := Below.refl w9.heap.size w9
          obtain ⟨⟨z0, z1, z2, y0, y1, y2⟩, HE⟩ := hH9.ends stLaw (i := 1) rfl (b := w.heap.size + 1) (by first | rfl | omega) (st := st) (sti := (st : Int)) rfl hn9 (Nat.le_refl _) hO9 hB9
          clear hn9 hO9 hB9 hat9 hT9 hH9
          go_wp2
          generalize (((w9.setCell ⟨w.heap.size + 1, 0, none⟩ (.int .i64 (st : Int))).setCell ⟨w.heap.size + 1, 1, none⟩ (.slice ao9 n9 cap9)).setCell ⟨w.heap.size + 1, 2, none⟩ (.slice none 0 0)) = wf at *
          obtain ⟨q0, q1, q2, q3⟩ := HE.out
          refine bodyPost_ret (v := .agg #[.int .i64 (st : Int), .slice ao9 n9 cap9, .slice none 0 0]) (by simp [results, Tryz.results28, go_sem, q0, q1, q2]) rfl ?_
          rw [HD.out]
          exact TuEnd.of q3
      | false =>
      obtain ⟨bd, hbd⟩ : ∃ b, (m.toList == ([68, 69, 76, 69, 84, 69] : List UInt8)) = b := ⟨_, rfl⟩
      have eD : m = Tu.mDel ↔ bd = true := by rw [← hbd]; exact Tu.eqL m Tu.mDel _ rfl
      cases bd with
      | true =>
        rw [if_pos (eD.2 rfl), if_neg (fun e => e HDz.out)] at HD
        have HRe := Hid.mk' (removeT_any (g := g) (m := m) (t := t) (mi := mi) (ln := ln) (fo := fo) (fcap := fcap) (nf := nf) (bo := bo) (bcap := bcap) (nb := nb) H6.out.sh HOk.out u uo un ucap HDz.out)
        clear eT eD
        generalize (Sr.sync (Sr.drop s u.id).1, Tu.said 204 []) = r9 at *
        obtain ⟨sr, st, lr⟩ := r9
        go_wp2_with fail
        refine (HRe.out).mono ?_
        rintro e w9 hE
        cases hE with
        | @gave ao9 cap9 n9 _ hn9 hO9 hat9 hT9 =>
          have HE := Hid.mk' (H6.out.fellT hn9 hO9 hat9 hT9)
          unfold tgave at HE ⊢
          clear hn9 hO9 hat9 hT9
          go_wp2
          exact ⟨rfl, by rw [HD.out]; exact HE.out⟩
        | @ret ao9 cap9 n9 _ hn9 hO9 hat9 hT9 =>
          have hH9 := H6.out.did hat9 hT9
          replace hO9 := hO9.mono (Nat.le_trans (Nat.le_add_right _ _) H6.out.sz)
          have hB9 := Below.refl w9.heap.size w9
          obtain ⟨⟨z0, z1, z2, y0, y1, y2⟩, HE⟩ := hH9.ends stLaw (i := 1) rfl (b := w.heap.size + 1) (by first | rfl | omega) (st := st) (sti := (st : Int)) rfl hn9 (Nat.le_refl _) hO9 hB9
          clear hn9 hO9 hB9 hat9 hT9 hH9
          go_wp2
          generalize (((w9.setCell ⟨w.heap.size + 1, 0, none⟩ (.int .i64 (st : Int))).setCell ⟨w.heap.size + 1, 1, none⟩ (.slice ao9 n9 cap9)).setCell ⟨w.heap.size + 1, 2, none⟩ (.slice none 0 0)) = wf at *
          obtain ⟨q0, q1, q2, q3⟩ := HE.out
          refine bodyPost_ret (v := .agg #[.int .i64 (st : Int), .slice ao9 n9 cap9, .slice none 0 0]) (by simp [results, Tryz.results28, go_sem, q0, q1, q2]) rfl ?_
          rw [HD.out]
          exact TuEnd.of q3
      | false =>
      rw [if_neg (fun e => by have := eD.1 e; cases this), if_neg (fun e => by have := eT.1 e; cases this)] at HD
      have HAn := Hid.mk' (answerT_lit 405 405 rfl [] none 0 0 w7 (IsV.nil w7) rfl (by decide))
      clear eT eD
      go_wp2_with fail
      refine HAn.out.mono ?_
      rintro e w9 ⟨ao9, cap9, n9, rfl, hn9, hO9, hB9⟩
      obtain ⟨⟨z0, z1, z2, y0, y1, y2⟩, HE⟩ := H6.out.ends stLaw (i := 1) rfl (b := w.heap.size + 1) (by first | rfl | omega) (st := 405) (sti := 405) rfl hn9 (Nat.le_trans (Nat.le_add_right _ _) H6.out.sz) hO9 hB9
      clear hn9 hO9 hB9
      go_wp2
      generalize (((w9.setCell ⟨w.heap.size + 1, 0, none⟩ (.int .i64 405)).setCell ⟨w.heap.size + 1, 1, none⟩ (.slice ao9 n9 cap9)).setCell ⟨w.heap.size + 1, 2, none⟩ (.slice none 0 0)) = wf at *
      obtain ⟨q0, q1, q2, q3⟩ := HE.out
      refine bodyPost_ret (v := .agg #[.int .i64 405, .slice ao9 n9 cap9, .slice none 0 0]) (by simp [results, Tryz.results28, go_sem, q0, q1, q2]) rfl ?_
      rw [HD.out]
      exact TuEnd.of q3
end
end Go.Proofs.YtdclmpdjjkjfjaaGreatDoor

/- Package tus, walked: caught, Do. -/
namespace Go.Proofs.YtdclmpdjjkjfjaaGreatDoor
open Go.RowKit

set_option maxRecDepth 100000 in
theorem catchT_panicking (b : Nat) (st : Int) (ao : Option Addr) (n cap : Nat) (older : List PanicEntry) (w : World) (hr : w.cell? ⟨b, 0, none⟩ = some (.int .i64 0) ∧ w.cell? ⟨b, 1, none⟩ = some (.slice none 0 0) ∧ w.cell? ⟨b, 2, none⟩ = some (.slice none 0 0) ∧ w.frozen? ⟨b, 0, none⟩ = false ∧ w.frozen? ⟨b, 1, none⟩ = false ∧ w.frozen? ⟨b, 2, none⟩ = false) :
    CallsD Tryz.prog 49 #[.pointer (some ⟨b, 0, none⟩)] (.panicking ({ v := .iface 100 (.agg #[.int .i64 st, .slice ao n cap, .slice none 0 0]), recovered := false } :: older)) w fun e u' w' =>
      e = .returned (.tuple #[]) ∧ u' = .panicking ({ v := .iface 100 (.agg #[.int .i64 st, .slice ao n cap, .slice none 0 0]), recovered := true } :: older) ∧ w' = (((w.setCell ⟨b, 0, none⟩ (.int .i64 st)).setCell ⟨b, 1, none⟩ (.slice ao n cap)).setCell ⟨b, 2, none⟩ (.slice none 0 0)) := by
  obtain ⟨c0, c1, c2, f0, f1, f2⟩ := hr
  refine callsD_of_wpS Tryz.func49 rfl fun c₀ cs hu => ?_
  apply wpS_seq
  apply wpS_region
  simp [wpOpsS, go_sem, recoverD, hu, Tryz.ntmps49, Exit.thenS]
  change Code.wpS _ _ _ { tmps := #[.pointer (some ⟨b, 0, none⟩), .iface 100 (.agg #[.int .i64 st, .slice ao n cap, .slice none 0 0]), .iface 100 (.agg #[.int .i64 st, .slice ao n cap, .slice none 0 0]), undef, undef, undef, undef, undef], defers := [] } _ _
  refine wpS_of_wp ?_
  have hta : ∀ w : World, (Instr.typeAssert (.iface 100 (.agg #[.int .i64 st, .slice ao n cap, .slice none 0 0])) 20 100 false).run Tryz.prog w = .ok (.agg #[.int .i64 st, .slice ao n cap, .slice none 0 0]) w := fun _ => by kernel_rfl
  have hfl : ∀ w : World, (Instr.field 100 (.agg #[.int .i64 st, .slice ao n cap, .slice none 0 0]) 0).run Tryz.prog w = .ok (.agg #[.int .i64 st, .slice ao n cap, .slice none 0 0]) w := fun _ => by kernel_rfl
  go_wp2
  simp [bodyPostS, results, Tryz.results49]

set_option maxRecDepth 100000 in
theorem catchT_idle (b : Nat) (w : World) :
    CallsD Tryz.prog 49 #[.pointer (some ⟨b, 0, none⟩)] .returning w fun e u' w' => e = .returned (.tuple #[]) ∧ u' = .returning ∧ w' = w := by
  refine callsD_of_wpS Tryz.func49 rfl fun c₀ cs hu => ?_
  apply wpS_seq
  apply wpS_region
  simp [wpOpsS, go_sem, recoverD, hu, Tryz.ntmps49, Exit.thenS]
  change Code.wpS _ _ _ { tmps := #[.pointer (some ⟨b, 0, none⟩), .nilIface, .nilIface, undef, undef, undef, undef, undef], defers := [] } _ _
  refine wpS_of_wp ?_
  go_wp2
  cases c₀
  simp_all [bodyPostS, results, Tryz.results49]
section
variable {g : Nat} {m t : ByteArray} {mi ln : Int} {l : List (ByteArray × ByteArray)} {fo : Option Addr} {fcap nf : Nat} {bo : Option Addr} {bcap nb : Nat} {w w0 : World} {S : Nat → Prop} {s : Sr.Sh}
theorem exRB (h : StAt w S g s) : TbAt StAt S w g [.cells #[.int .i64 0, .slice none 0 0, .slice none 0 0] 32 (0, 0)] s (fun k => S k ∧ k < w.heap.size) (w.alloc (.cells #[.int .i64 0, .slice none 0 0, .slice none 0 0] 32)) := (TbAt.start stLaw h).box stLaw rfl (fun _ e => e.2) _
set_option maxRecDepth 100000 in
set_option maxHeartbeats 3200000 in
theorem caughtT_any (p : PwIn w0 w S) (h : StAt w S g s) (ok : Sr.Ok s) (hlg : s.log.length ≤ 99000) (hF : FlIn w l fo fcap nf) (body : List UInt8) (hb : body.length = nb) (hB : IsB w bo bcap body) (hnb : nb ≤ 100000) (ht : t.size ≤ 100000) :
    Calls Tryz.prog 27 #[.func (.func 28) #[.agg #[.pointer (some ⟨g, 0, none⟩), .string m, .string t, .int .i64 mi, .slice fo nf fcap, .int .i64 ln, .slice bo nb bcap]] #[]] w fun e w' => TuDid StAt S w g (Tu.tus s m t l body) e w' := by
  have hmf : ∀ (fn : Fn) (first cap : Array Value) (w : World), (Instr.makeFunc fn first cap).run Tryz.prog w = .ok (.func fn first cap) w := fun _ _ _ _ => rfl
  have T1 := exRB h
  have hb1 := (Below.refl _ w).alloc (Nat.le_refl _) (.cells #[.int .i64 0, .slice none 0 0, .slice none 0 0] 32)
  have HRp := Hid.mk' (replyT_any (m := m) (t := t) (mi := mi) (ln := ln) (bo := bo) (bcap := bcap) (nb := nb) (T1.pw p) T1.sh ok hlg (hF.stay hb1) body hb (hB.stay hb1) hnb ht)
  have H1 := Hid.mk' T1
  clear T1 hb1 p h ok hlg hF hb hB
  obtain ⟨R, hR⟩ : ∃ R, R = Tu.tus s m t l body := ⟨_, rfl⟩
  rw [← hR] at HRp ⊢
  clear hR
  obtain ⟨sr, st, lr⟩ := R
  go_enter_defers Tryz.func27, Tryz.ntmps27
  go_wp2_with fail
  refine HRp.out.mono ?_
  rintro e w9 hE
  cases hE with
  | @gave ao9 cap9 n9 _ hn9 hO9 hat9 hT9 =>
    have hH9 := H1.out.did hat9 hT9
    replace hO9 := hO9.mono (Nat.le_trans (Nat.le_add_right _ _) H1.out.sz)
    obtain ⟨hz, HE⟩ := hH9.ends stLaw (i := 0) rfl (b := w.heap.size) (by first | rfl | omega) (st := st) (sti := (st : Int)) rfl hn9 (Nat.le_refl _) hO9 (Below.refl w9.heap.size w9)
    have HZ := Hid.mk' hz
    clear hn9 hO9 hat9 hT9 hH9 hz
    unfold tgave
    go_wp2
    refine leaves_cons (f := 49) (args := #[.pointer (some ⟨w.heap.size, 0, none⟩)]) (by simp) (by simp [go_sem]) ?_
    refine (catchT_panicking w.heap.size st ao9 n9 cap9 [] w9 HZ.out).mono ?_
    rintro e u' w'' ⟨rfl, rfl, hw⟩
    rw [hw]
    clear hw HZ
    generalize (((w9.setCell ⟨w.heap.size, 0, none⟩ (.int .i64 (st : Int))).setCell ⟨w.heap.size, 1, none⟩ (.slice ao9 n9 cap9)).setCell ⟨w.heap.size, 2, none⟩ (.slice none 0 0)) = wf at *
    obtain ⟨q0, q1, q2, q3⟩ := HE.out
    simp [Leaves, settle, results, Tryz.results27, go_sem, q0, q1, q2]
    exact q3
  | @ret ao9 cap9 n9 _ hn9 hO9 hat9 hT9 =>
    have hH9 := H1.out.did hat9 hT9
    replace hO9 := hO9.mono (Nat.le_trans (Nat.le_add_right _ _) H1.out.sz)
    obtain ⟨⟨z0, z1, z2, y0, y1, y2⟩, HE⟩ := hH9.ends stLaw (i := 0) rfl (b := w.heap.size) (by first | rfl | omega) (st := st) (sti := (st : Int)) rfl hn9 (Nat.le_refl _) hO9 (Below.refl w9.heap.size w9)
    clear hn9 hO9 hat9 hT9 hH9
    go_wp2
    refine leaves_cons (f := 49) (args := #[.pointer (some ⟨w.heap.size, 0, none⟩)]) (by simp) (by simp [go_sem]) ?_
    refine (catchT_idle w.heap.size _).mono ?_
    rintro e u' w'' ⟨rfl, rfl, hw⟩
    rw [hw]
    clear hw
    generalize (((w9.setCell ⟨w.heap.size, 0, none⟩ (.int .i64 (st : Int))).setCell ⟨w.heap.size, 1, none⟩ (.slice ao9 n9 cap9)).setCell ⟨w.heap.size, 2, none⟩ (.slice none 0 0)) = wf at *
    obtain ⟨q0, q1, q2, q3⟩ := HE.out
    simp [Leaves, settle, results, Tryz.results27, go_sem, q0, q1, q2]
    exact q3
set_option maxRecDepth 100000 in
set_option maxHeartbeats 3200000 in
theorem doT_any (p : PwIn w0 w S) (h : StAt w S g s) (ok : Sr.Ok s) (hlg : s.log.length ≤ 99000) (hF : FlIn w l fo fcap nf) (body : List UInt8) (hb : body.length = nb) (hB : IsB w bo bcap body) (hnb : nb ≤ 100000) (ht : t.size ≤ 100000) :
    Calls Tryz.prog 10 #[.pointer (some ⟨g, 0, none⟩), .agg #[.string m, .string t, .int .i64 mi, .slice fo nf fcap, .int .i64 ln], .slice bo nb bcap] w fun e w' => TuDid StAt S w g (Tu.tus s m t l body) e w' := by
  have hmf : ∀ (fn : Fn) (first cap : Array Value) (w : World), (Instr.makeFunc fn first cap).run Tryz.prog w = .ok (.func fn first cap) w := fun _ _ _ _ => rfl
  have hz1 : (w.alloc (.cells #[.string m, .string t, .int .i64 mi, .slice fo nf fcap, .int .i64 ln] 35)).heap.size = w.heap.size + 1 := World.size_alloc ..
  have hz2 : ((w.alloc (.cells #[.string m, .string t, .int .i64 mi, .slice fo nf fcap, .int .i64 ln] 35)).alloc (.cells #[.int .i64 0, .slice none 0 0, .slice none 0 0] 32)).heap.size = w.heap.size + 2 := by rw [World.size_alloc, hz1]
  have T3 : TbAt StAt S w g [.cells #[.string m, .string t, .int .i64 mi, .slice fo nf fcap, .int .i64 ln] 35 (0, 0), .cells #[.int .i64 0, .slice none 0 0, .slice none 0 0] 32 (0, 0), .cells #[.pointer (some ⟨g, 0, none⟩), .string m, .string t, .int .i64 mi, .slice fo nf fcap, .int .i64 ln, .slice bo nb bcap] 74 (0, 0)] s (fun k => S k ∧ k < w.heap.size) (((w.alloc (.cells #[.string m, .string t, .int .i64 mi, .slice fo nf fcap, .int .i64 ln] 35)).alloc (.cells #[.int .i64 0, .slice none 0 0, .slice none 0 0] 32)).alloc (.cells #[.pointer (some ⟨g, 0, none⟩), .string m, .string t, .int .i64 mi, .slice fo nf fcap, .int .i64 ln, .slice bo nb bcap] 74)) :=
    (((TbAt.start stLaw h).box stLaw rfl (fun k e => e.2) _).box stLaw hz1 (fun k e => by rw [hz1]; have := e.2; omega) _).box stLaw hz2 (fun k e => by rw [hz2]; have := e.2; omega) _
  have hb3 : Below w.heap.size w (((w.alloc (.cells #[.string m, .string t, .int .i64 mi, .slice fo nf fcap, .int .i64 ln] 35)).alloc (.cells #[.int .i64 0, .slice none 0 0, .slice none 0 0] 32)).alloc (.cells #[.pointer (some ⟨g, 0, none⟩), .string m, .string t, .int .i64 mi, .slice fo nf fcap, .int .i64 ln, .slice bo nb bcap] 74)) := then_ (then_ ((Below.refl _ w).alloc (Nat.le_refl _) _) ((Below.refl _ _).alloc (Nat.le_refl _) _)) ((Below.refl _ _).alloc (Nat.le_refl _) _)
  have HCa := Hid.mk' (caughtT_any (m := m) (t := t) (mi := mi) (ln := ln) (bo := bo) (bcap := bcap) (nb := nb) (T3.pw p) T3.sh ok hlg (hF.stay hb3) body hb (hB.stay hb3) hnb ht)
  have H3 := Hid.mk' T3
  clear T3 hb3 p h ok hlg hF hb hB hz1 hz2
  obtain ⟨R, hR⟩ : ∃ R, R = Tu.tus s m t l body := ⟨_, rfl⟩
  rw [← hR] at HCa ⊢
  clear hR
  obtain ⟨sr, st, lr⟩ := R
  go_enter Tryz.func10, Tryz.ntmps10
  go_wp2_with fail
  refine HCa.out.mono ?_
  rintro e w9 ⟨⟨ao9, cap9, n9, rfl, hn9, hO9⟩, hat9, hT9⟩
  have hH9 := H3.out.did hat9 hT9
  replace hO9 := hO9.mono (Nat.le_trans (Nat.le_add_right _ _) H3.out.sz)
  obtain ⟨⟨z0, z1, z2, y0, y1, y2⟩, HE⟩ := hH9.ends stLaw (i := 1) rfl (b := w.heap.size + 1) (by first | rfl | omega) (st := st) (sti := (st : Int)) rfl hn9 (Nat.le_refl _) hO9 (Below.refl w9.heap.size w9)
  clear hn9 hO9 hat9 hT9 hH9
  go_wp2
  generalize (((w9.setCell ⟨w.heap.size + 1, 0, none⟩ (.int .i64 (st : Int))).setCell ⟨w.heap.size + 1, 1, none⟩ (.slice ao9 n9 cap9)).setCell ⟨w.heap.size + 1, 2, none⟩ (.slice none 0 0)) = wf at *
  obtain ⟨q0, q1, q2, q3⟩ := HE.out
  refine bodyPost_ret (v := .agg #[.int .i64 (st : Int), .slice ao9 n9 cap9, .slice none 0 0]) (by simp [results, Tryz.results10, go_sem, q0, q1, q2]) rfl ?_
  exact q3
end
theorem doIs {w0 : World} (hP : PowAt w0) : DoIs w0 := fun hb hS h ok hlg _ _ _ _ _ _ _ hl hN hs _ _ body hB hnb _ ht =>
  doT_any ⟨hP, hb, hS⟩ h ok hlg ⟨hl, rfl, hN, hs⟩ body rfl hB hnb ht
end Go.Proofs.YtdclmpdjjkjfjaaGreatDoor
