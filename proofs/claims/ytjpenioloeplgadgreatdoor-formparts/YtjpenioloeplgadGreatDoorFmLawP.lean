/- FormParts, walked: every Part and Safe is as the document says. -/
import Derived.Test.YtjpenioloeplgadGreatDoorFmK
import Derived.Test.YtjpenioloeplgadGreatDoorPk22
import Derived.Test.YtjpenioloeplgadGreatDoorRfPartB
import Derived.Test.YtjpenioloeplgadGreatDoorPk9
import Derived.Test.YtjpenioloeplgadGreatDoorPk12
import Derived.Deep.DeepCutAuto
namespace Go.Proofs.YtjpenioloeplgadGreatDoor
open Go.RowKit

/-- what Part answers, its letters -/
theorem partV_form (x : Nat ⊕ Fm.Prt) : ∃ (a b c : ByteArray) (d : Int), Fm.partV x = .tuple #[.agg #[.string a, .string b, .string c, .slice none 0 0], .int .i64 d] := by
  cases x with
  | inl c => exact ⟨_, _, _, _, rfl⟩
  | inr p => exact ⟨_, _, _, _, rfl⟩

set_option maxRecDepth 100000 in
set_option maxHeartbeats 4000000 in
theorem formParts_any (l : List (ByteArray × ByteArray)) (s : ByteArray) (al : Option Addr) (cap : Nat) (w : World) (hl : IsV w al cap l.length (pairV l)) (zl : ∀ q ∈ l, q.1.size ≤ reachBytes ∧ q.2.size ≤ reachBytes) :
    Calls Tryz.prog 3 #[.slice al l.length cap, .string s] w fun e w' => e = .returned (.bool true) ∧ Below w.heap.size w w' := by
  have HGl : Hid (∀ W : World, Below w.heap.size w W → Calls Tryz.prog 7 #[.slice al l.length cap] W fun e w' => ∃ b : Bool, e = .returned (.bool b) ∧ (b = false → SmallF l) ∧ ∃ q, w' = W.drewN q) := fun W hb =>
    greatFields_any l al cap l.length W (hl.stay hb) rfl (fun p hp => by have := zl p hp; unfold reachBytes at this; unfold maxLen; omega)
  have HL := Hid.mk' hl
  clear hl zl
  go_enter Tryz.func3, Tryz.ntmps3
  go_wp2_with fail
  refine (formBegun_any _).mono ?_
  rintro e w1 ⟨rfl, hb1⟩
  have HB1 := Hid.mk' hb1
  clear hb1
  go_wp2_with fail
  refine (HGl.out _ HB1.out).mono ?_
  rintro e w2 ⟨b, rfl, hsm, q, hw⟩
  have HB2 : Hid (Below w.heap.size w w2) := by rw [hw]; exact then_ HB1.out (drewN_below ⟨q, rfl⟩)
  clear hw HGl HB1
  cases b
  case true =>
    go_wp2
    go_ret
    exact ⟨rfl, HB2.out⟩
  have hS := hsm rfl
  clear hsm
  by_cases h1 : 2000 < s.size
  · have t1 : decide ((s.size : Int) > 2000) = true := by rw [decide_eq_true_eq]; omega
    go_wp2
    go_ret
    exact ⟨rfl, HB2.out⟩
  have t1 : decide ((s.size : Int) > 2000) = false := by rw [decide_eq_false_iff_not]; omega
  have hN : l.length ≤ 1000 := by have := hS.1; omega
  have hz : ∀ p ∈ l, p.1.size ≤ 2000 ∧ p.2.size ≤ 2000 := fun p hp => by have := hS.2 p hp; omega
  have HP := Hid.mk' (part_any l al cap l.length w2 (HL.out.stay HB2.out) rfl hN hz)
  have HQ : Hid (∀ W, Below w.heap.size w W → Calls Tryz.prog 9 #[.slice al l.length cap] W fun e w' => e = .returned (Fm.partV (Fm.part (Rq.flB l))) ∧ Below W.heap.size W w') := fun W hW => partOf_any l al cap l.length W (HL.out.stay hW) rfl hN hz
  obtain ⟨a, f, c, d, hv⟩ := partV_form (Fm.part (Rq.flB l))
  rw [hv] at HP HQ
  clear hS hv HL hN hz
  go_wp2_with fail
  refine HP.out.mono ?_
  rintro e w3 ⟨rfl, hb3⟩
  have HB3 := Hid.mk' (then_ HB2.out hb3)
  clear hb3 HP HB2
  have hb4 : Below w3.heap.size w3 (w3.alloc (.cells #[.string a, .string f, .string c, .slice none 0 0] 27)) := (Below.refl _ _).alloc (Nat.le_refl _) _
  have HX : Hid ((w3.alloc (.cells #[.string a, .string f, .string c, .slice none 0 0] 27)).heap[w3.heap.size]? = some (.cells #[.string a, .string f, .string c, .slice none 0 0] 27 (0, 0))) := heap_alloc_new w3 _
  have HB4 := Hid.mk' (then_ HB3.out hb4)
  clear hb4
  go_wp2_with fail
  refine (HQ.out _ HB4.out).mono ?_
  rintro e w5 ⟨rfl, hb5⟩
  have hb6 : Below w5.heap.size w5 (w5.alloc (.cells #[.string a, .string f, .string c, .slice none 0 0] 27)) := (Below.refl _ _).alloc (Nat.le_refl _) _
  have hX6 := row_stay (row_stay HX.out hb5) hb6
  have hY6 := heap_alloc_new w5 (.cells #[.string a, .string f, .string c, .slice none 0 0] 27)
  have HB6 := Hid.mk' (then_ (then_ HB4.out hb5) hb6)
  have x0 := cell_of_row _ _ 0 _ _ _ hX6
  have x1 := cell_of_row _ _ 1 _ _ _ hX6
  have x2 := cell_of_row _ _ 2 _ _ _ hX6
  have x3 := cell_of_row _ _ 3 _ _ _ hX6
  have y0 := cell_of_row _ _ 0 _ _ _ hY6
  have y1 := cell_of_row _ _ 1 _ _ _ hY6
  have y2 := cell_of_row _ _ 2 _ _ _ hY6
  have y3 := cell_of_row _ _ 3 _ _ _ hY6
  have HSp : Hid (∀ W, Calls Tryz.prog 10 #[.agg #[.string a, .string f, .string c, .slice none 0 0], .agg #[.string a, .string f, .string c, .slice none 0 0]] W fun e w' => e = .returned (.bool true) ∧ Below W.heap.size W w') := fun W => samePart_yes a f c [] none none 0 0 W (IsB.nil W) (IsB.nil W)
  have HSf : Hid (∀ W, Calls Tryz.prog 11 #[.string s] W fun e w' => e = .returned (.string ⟨(Fm.safe s.data.toList).toArray⟩) ∧ Below W.heap.size W w') := fun W => safe_any s W (by omega)
  have HSn : Hid (∀ W, Calls Tryz.prog 12 #[.string s] W fun e w' => e = .returned (.string ⟨(Fm.safe s.data.toList).toArray⟩) ∧ w' = W) := fun W => safeName_any s W (by omega)
  generalize (⟨(Fm.safe s.data.toList).toArray⟩ : ByteArray) = n0 at *
  have hne : (n0.toList == n0.toList) = true := by rw [beq_iff_eq]
  have hde : (d == d) = true := by rw [beq_iff_eq]
  clear hb5 hb6 hX6 hY6 HX HB3 HB4 HQ
  go_wp2_with fail
  refine (HSp.out _).mono ?_
  rintro e w7 ⟨rfl, hb7⟩
  have HB7 := Hid.mk' (then_ HB6.out hb7)
  clear hb7 x0 x1 x2 x3 y0 y1 y2 y3 HB6
  go_wp2_with fail
  refine (HSf.out _).mono ?_
  rintro e w8 ⟨rfl, hb8⟩
  have HB8 := Hid.mk' (then_ HB7.out hb8)
  clear hb8 HB7
  go_wp2_with fail
  refine (HSn.out _).mono ?_
  rintro e w9 ⟨rfl, hw⟩
  subst hw
  go_wp2
  go_ret
  exact ⟨rfl, HB8.out⟩
end Go.Proofs.YtjpenioloeplgadGreatDoor
