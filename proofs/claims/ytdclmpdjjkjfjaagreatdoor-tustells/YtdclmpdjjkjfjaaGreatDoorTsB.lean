/- Package tus, walked: count, statusOf, needDone; an exchange's text. -/
import Derived.Test.YtdclmpdjjkjfjaaGreatDoorPk17
import Derived.Test.YtdclmpdjjkjfjaaGreatDoorTuNu
import Derived.Test.YtdclmpdjjkjfjaaGreatDoorFbPow
import Derived.Test.YtdclmpdjjkjfjaaGreatDoorPk24
import Derived.Test.YtdclmpdjjkjfjaaGreatDoorPk14
namespace Go.Proofs.YtdclmpdjjkjfjaaGreatDoor
open Go.RowKit

theorem countT_of (nm v : ByteArray) (x : Int) (w : World) (hI : ∀ W, Below w.heap.size w W → Calls Tryz.prog 77 #[.int .i64 x] W fun e w' => e = .returned (.string v) ∧ Below W.heap.size W w') :
    Calls Tryz.prog 71 #[.string nm, .int .i64 x] w fun e w' => e = .returned (.agg #[.string nm, .string v]) ∧ Below w.heap.size w w' := by
  have hbA := (Below.refl _ w).alloc (Nat.le_refl _) (.cells #[.string ⟨#[]⟩, .string ⟨#[]⟩] 58)
  have HI := Hid.mk' (hI _ hbA)
  have HBA := Hid.mk' hbA
  clear hI hbA
  go_enter Tryz.func71, Tryz.ntmps71
  go_wp2_with fail
  refine HI.out.mono ?_
  rintro e w1 ⟨rfl, hb1⟩
  have HB1 := Hid.mk' hb1
  clear hb1
  go_wp2_with fail
  refine (fieldT_any nm v w1).mono ?_
  rintro e w2 ⟨rfl, hb2⟩
  have hb12 := then_ HB1.out hb2
  have hr : w2.heap[w.heap.size]? = some (.cells #[.string ⟨#[]⟩, .string ⟨#[]⟩] 58 (0, 0)) := (hb12.block w.heap.size (by simp)).trans (heap_alloc_new w _)
  have c0 : w2.cell? ⟨w.heap.size, 0, none⟩ = some (.string ⟨#[]⟩) := cell_of_row w2 _ 0 _ _ _ hr
  have c1 : w2.cell? ⟨w.heap.size, 1, none⟩ = some (.string ⟨#[]⟩) := cell_of_row w2 _ 1 _ _ _ hr
  have y0 : w2.frozen? ⟨w.heap.size, 0, none⟩ = false := frozen_of_row w2 _ 0 _ _ hr
  have y1 : w2.frozen? ⟨w.heap.size, 1, none⟩ = false := frozen_of_row w2 _ 1 _ _ hr
  have HB := Hid.mk' (((then_ HBA.out hb12).setCell (p := ⟨w.heap.size, 0, none⟩) (Nat.le_refl _) (.string nm)).setCell (p := ⟨w.heap.size, 1, none⟩) (Nat.le_refl _) (.string v))
  have HR := Hid.mk' (heap_setCell_same _ _ 1 _ _ (.string v) (heap_setCell_same _ _ 0 _ _ (.string nm) hr))
  clear hb2 hb12 hr HB1 HBA HI
  go_wp2
  generalize ((w2.setCell ⟨w.heap.size, 0, none⟩ (.string nm)).setCell ⟨w.heap.size, 1, none⟩ (.string v)) = wf at *
  have q0 : wf.cell? ⟨w.heap.size, 0, none⟩ = some (.string nm) := cell_of_row wf _ 0 _ _ _ HR.out
  have q1 : wf.cell? ⟨w.heap.size, 1, none⟩ = some (.string v) := cell_of_row wf _ 1 _ _ _ HR.out
  exact bodyPost_ret (v := .agg #[.string nm, .string v]) (by simp [results, Tryz.results71, go_sem, q0, q1]) rfl ⟨rfl, HB.out⟩
theorem countT_any (nm : ByteArray) (n : Nat) (x : Int) (hx : (n : Int) = x) (hn : n < 1000000000) (w : World) (hP : PowAt w) : Calls Tryz.prog 71 #[.string nm, .int .i64 x] w fun e w' => e = .returned (.agg #[.string nm, .string (Tu.dec n)]) ∧ Below w.heap.size w w' := by
  subst hx
  exact countT_of nm (Tu.dec n) n w (fun W hW => itoa_any n hn W (hP.stay hW))
theorem countT_neg (nm : ByteArray) (w : World) (hP : PowAt w) : ∃ v : ByteArray, Calls Tryz.prog 71 #[.string nm, .int .i64 (-1)] w fun e w' => e = .returned (.agg #[.string nm, .string v]) ∧ Below w.heap.size w w' := by
  refine ⟨⟨(Lib.itoa (-1)).toArray⟩, countT_of nm _ (-1) w (fun W hW => ?_)⟩
  refine (Any.strconv_Itoa Tryz.lays171 (-1) (by decide) (by decide) W (hP.stay hW)).mono ?_
  rintro e w' ⟨he, k, os, rfl⟩
  exact ⟨he, Lib.below_grow _ W (Nat.le_refl _) k os⟩
theorem statusT_any (c : Nat) (w : World) :
    Calls Tryz.prog 108 #[.int .i64 (c : Int)] w fun e w' => e = .returned (.int .i64 (Tu.status c : Nat)) ∧ w' = w := by
  by_cases h10 : c = 10
  · subst h10
    go_enter Tryz.func108, Tryz.ntmps108
    go_wp2
    go_ret
    exact ⟨rfl, rfl⟩
  by_cases h17 : c = 17
  · subst h17
    go_enter Tryz.func108, Tryz.ntmps108
    go_wp2
    go_ret
    exact ⟨rfl, rfl⟩
  by_cases h19 : c = 19
  · subst h19
    go_enter Tryz.func108, Tryz.ntmps108
    go_wp2
    go_ret
    exact ⟨rfl, rfl⟩
  by_cases h4 : c = 4
  · subst h4
    go_enter Tryz.func108, Tryz.ntmps108
    go_wp2
    go_ret
    exact ⟨rfl, rfl⟩
  by_cases h8 : c = 8
  · subst h8
    go_enter Tryz.func108, Tryz.ntmps108
    go_wp2
    go_ret
    exact ⟨rfl, rfl⟩
  by_cases h16 : c = 16
  · subst h16
    go_enter Tryz.func108, Tryz.ntmps108
    go_wp2
    go_ret
    exact ⟨rfl, rfl⟩
  have HS : Hid (Tu.status c = 400) := by
    unfold Hid Tu.status
    rw [if_neg h10, if_neg (by omega), if_neg h4, if_neg (by omega)]
  have t10 : ((c : Int) == 10) = false := by rw [beq_eq_false_iff_ne]; omega
  have t17 : ((c : Int) == 17) = false := by rw [beq_eq_false_iff_ne]; omega
  have t19 : ((c : Int) == 19) = false := by rw [beq_eq_false_iff_ne]; omega
  have t4 : ((c : Int) == 4) = false := by rw [beq_eq_false_iff_ne]; omega
  have t8 : ((c : Int) == 8) = false := by rw [beq_eq_false_iff_ne]; omega
  have t16 : ((c : Int) == 16) = false := by rw [beq_eq_false_iff_ne]; omega
  clear h10 h17 h19 h4 h8 h16
  go_enter Tryz.func108, Tryz.ntmps108
  go_wp2
  go_ret
  exact ⟨by rw [HS.out]; rfl, rfl⟩
theorem needDone_yes (w : World) : Calls Tryz.prog 75 #[.int .i64 0] w fun e w' => e = .returned (.tuple #[]) ∧ w' = w := by
  have HS := Hid.mk' (statusT_any 0 w)
  go_enter Tryz.func75, Tryz.ntmps75
  go_wp2_with fail
  refine HS.out.mono ?_
  rintro e w1 ⟨rfl, hw⟩
  rw [hw]
  clear hw
  go_wp2_with fail
  refine (needT_yes _ none 0 0 w).mono ?_
  rintro e w2 ⟨rfl, hw⟩
  rw [hw]
  clear hw
  go_wp2
  go_end0
  exact ⟨rfl, rfl⟩
theorem needDone_no (c : Nat) (hc : c ≠ 0) (w : World) : Calls Tryz.prog 75 #[.int .i64 (c : Int)] w fun e w' => Gave w (Tu.said (Tu.status c) []) e w' := by
  have HS := Hid.mk' (statusT_any c w)
  have t0 : ((c : Int) == 0) = false := by rw [beq_eq_false_iff_ne]; omega
  have HN := Hid.mk' (needT_none (Tu.status c) (Tu.status c : Nat) rfl w)
  clear hc
  go_enter Tryz.func75, Tryz.ntmps75
  go_wp2_with fail
  refine HS.out.mono ?_
  rintro e w1 ⟨rfl, hw⟩
  rw [hw]
  clear hw HS
  go_wp2_with fail
  refine HN.out.mono ?_
  rintro e w2 hG
  have HG := Hid.mk' hG
  obtain ⟨ao, cap, n, he, _, _, _⟩ := hG
  unfold tgave at he
  subst he
  go_wp2
  exact ⟨rfl, HG.out⟩

/-- fields as a request brings them -/
structure FlIn (w : World) (l : List (ByteArray × ByteArray)) (fo : Option Addr) (fcap nf : Nat) : Prop where
  is : IsV w fo fcap nf (pairV l)
  len : l.length = nf
  few : nf ≤ 1000
  small : ∀ p ∈ l, p.1.size ≤ 2000 ∧ p.2.size ≤ 2000
theorem FlIn.stay {w w' : World} {l : List (ByteArray × ByteArray)} {fo : Option Addr} {fcap nf : Nat} (h : FlIn w l fo fcap nf) (hb : Below w.heap.size w w') : FlIn w' l fo fcap nf := ⟨h.is.stay hb, h.len, h.few, h.small⟩
section
variable {g : Nat} {m t : ByteArray} {mi ln : Int} {l : List (ByteArray × ByteArray)} {fo : Option Addr} {fcap nf : Nat} {bo : Option Addr} {bcap nb : Nat} {w : World}
set_option maxHeartbeats 800000 in
theorem textT_yes (name : ByteArray) (hN : name.size ≤ 2000) (h : FlIn w l fo fcap nf) {v : List UInt8} {c : Nat} (hv : Tu.one (Tu.vals name l) = (v, c)) (hc : c ≠ 9) :
    Calls Tryz.prog 51 #[.agg #[.pointer (some ⟨g, 0, none⟩), .string m, .string t, .int .i64 mi, .slice fo nf fcap, .int .i64 ln, .slice bo nb bcap], .string name] w fun e w' => e = .returned (.tuple #[.string ⟨v.toArray⟩, .bool (decide (c = 0))]) ∧ Below w.heap.size w w' := by
  have hbA := (Below.refl _ w).alloc (Nat.le_refl _) (.cells #[.pointer (some ⟨g, 0, none⟩), .string m, .string t, .int .i64 mi, .slice fo nf fcap, .int .i64 ln, .slice bo nb bcap] 74)
  have HO := Hid.mk' (fdOne_any l name fo fcap nf _ (h.stay hbA).is h.len (by have := h.few; omega) h.small hN)
  rw [Tu.one_eq, Tu.vals_eq, hv] at HO
  unfold txVal at HO
  have t9 : ((c : Int) != 9) = true := by rw [bne_iff_ne]; omega
  have c4 : (w.alloc (.cells #[.pointer (some ⟨g, 0, none⟩), .string m, .string t, .int .i64 mi, .slice fo nf fcap, .int .i64 ln, .slice bo nb bcap] 74)).cell? ⟨w.heap.size, 4, none⟩ = some (.slice fo nf fcap) := World.cell?_alloc_mark w _ _ _ 4
  have HBA := Hid.mk' hbA
  clear h hbA hv
  generalize (⟨v.toArray⟩ : ByteArray) = vb at *
  have HT : Hid (∃ b : Bool, ((c : Int) == 0) = b ∧ decide (c = 0) = b) := by
    by_cases h0 : c = 0
    · subst h0; exact ⟨true, rfl, rfl⟩
    · exact ⟨false, by rw [beq_eq_false_iff_ne]; omega, decide_eq_false h0⟩
  obtain ⟨b, hb, hd⟩ := HT.out
  rw [hd]
  clear hd HT hc
  go_enter Tryz.func51, Tryz.ntmps51
  go_wp2_with fail
  refine HO.out.mono ?_
  rintro e w1 ⟨rfl, hb1⟩
  have HB1 := Hid.mk' (then_ HBA.out hb1)
  clear hb1 HO HBA
  go_wp2_with fail
  refine (needT_yes 400 none 0 0 w1).mono ?_
  rintro e w2 ⟨rfl, hw⟩
  rw [hw]
  clear hw
  go_wp2
  go_ret2
  exact ⟨rfl, HB1.out⟩
theorem textT_here (name : ByteArray) (hN : name.size ≤ 2000) (h : FlIn w l fo fcap nf) {v : List UInt8} (hv : Tu.one (Tu.vals name l) = (v, 0)) :
    Calls Tryz.prog 51 #[.agg #[.pointer (some ⟨g, 0, none⟩), .string m, .string t, .int .i64 mi, .slice fo nf fcap, .int .i64 ln, .slice bo nb bcap], .string name] w fun e w' => e = .returned (.tuple #[.string ⟨v.toArray⟩, .bool true]) ∧ Below w.heap.size w w' := textT_yes name hN h hv (by decide)
theorem textT_not (name : ByteArray) (hN : name.size ≤ 2000) (h : FlIn w l fo fcap nf) {v : List UInt8} (hv : Tu.one (Tu.vals name l) = (v, 10)) :
    Calls Tryz.prog 51 #[.agg #[.pointer (some ⟨g, 0, none⟩), .string m, .string t, .int .i64 mi, .slice fo nf fcap, .int .i64 ln, .slice bo nb bcap], .string name] w fun e w' => e = .returned (.tuple #[.string ⟨v.toArray⟩, .bool false]) ∧ Below w.heap.size w w' := textT_yes name hN h hv (by decide)
set_option maxHeartbeats 800000 in
theorem textT_no (name : ByteArray) (hN : name.size ≤ 2000) (h : FlIn w l fo fcap nf) {v : List UInt8} (hv : Tu.one (Tu.vals name l) = (v, 9)) :
    Calls Tryz.prog 51 #[.agg #[.pointer (some ⟨g, 0, none⟩), .string m, .string t, .int .i64 mi, .slice fo nf fcap, .int .i64 ln, .slice bo nb bcap], .string name] w fun e w' => Gave w (Tu.said 400 []) e w' := by
  have hbA := (Below.refl _ w).alloc (Nat.le_refl _) (.cells #[.pointer (some ⟨g, 0, none⟩), .string m, .string t, .int .i64 mi, .slice fo nf fcap, .int .i64 ln, .slice bo nb bcap] 74)
  have HO := Hid.mk' (fdOne_any l name fo fcap nf _ (h.stay hbA).is h.len (by have := h.few; omega) h.small hN)
  rw [Tu.one_eq, Tu.vals_eq, hv] at HO
  unfold txVal at HO
  have c4 : (w.alloc (.cells #[.pointer (some ⟨g, 0, none⟩), .string m, .string t, .int .i64 mi, .slice fo nf fcap, .int .i64 ln, .slice bo nb bcap] 74)).cell? ⟨w.heap.size, 4, none⟩ = some (.slice fo nf fcap) := World.cell?_alloc_mark w _ _ _ 4
  have HBA := Hid.mk' hbA
  clear h hbA hv
  generalize (⟨v.toArray⟩ : ByteArray) = vb at *
  go_enter Tryz.func51, Tryz.ntmps51
  go_wp2_with fail
  refine HO.out.mono ?_
  rintro e w1 ⟨rfl, hb1⟩
  have HB1 := Hid.mk' (then_ HBA.out hb1)
  clear hb1 HO HBA
  go_wp2_with fail
  refine (needT_none 400 400 rfl w1).mono ?_
  rintro e w2 hG
  have HG := Hid.mk' (hG.from_ HB1.out)
  obtain ⟨ao, cap, n, he, _, _, _⟩ := hG
  unfold tgave at he
  subst he
  go_wp2
  exact ⟨rfl, HG.out⟩
end
end Go.Proofs.YtdclmpdjjkjfjaaGreatDoor
