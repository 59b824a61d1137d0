/- The one input that the statements try first, walked. -/
import Derived.Test.YtkncgfknmccfeaaSeekG
import Derived.Lib.SlBytesConst
namespace Go.Proofs.Ytkncgfknmccfeaa
open Go.RowKit

/-- one byte more, all that it comes to said -/
theorem feed_c (w : World) (lo hi g : Nat) (m : List UInt8) (h : Nat) (c : UInt8) (ci : Int) (o : List UInt8) (b : Bool) (h' : Nat) (hci : (c.toNat : Int) = ci) (ho : Sk.out m h c = o) (hb : Sk.found m h c = b) (ha : Sk.after m h c = h')
    (hS : SeekAt w lo hi g m h) (hh : h ≤ m.length - 1) (hL : m.length ≤ 1000000) (hhi : hi ≤ w.heap.size) :
    Calls Try.prog 10 #[.pointer (some ⟨g, 0, none⟩), .int .u8 ci] w fun e w' => ∃ ao cap, e = .returned (.tuple #[.slice ao o.length cap, .bool b]) ∧ OwnB w' w.heap.size 5 ao cap o ∧ SeekAt w' lo hi g m h' ∧ w.grownBy w' (some g) := by
  subst hci; subst ho; subst hb; subst ha
  exact feed_any w lo hi g m h c hS hh hL hhi

theorem IsB.three (w : World) (t : Nat) (fr : Nat × Nat) : IsB (w.alloc (.cells #[.int .u8 97, .int .u8 97, .int .u8 98] t fr)) (Option.some ⟨w.heap.size, 0, Option.none⟩) 3 [97, 97, 98] := by
  refine ⟨Nat.le_refl _, fun e => by simp at e, fun j hj => ⟨_, rfl, ?_⟩⟩
  rw [Addr.add_lit, World.cell?_alloc_mark]
  match j, hj with
  | 0, _ => rfl
  | 1, _ => rfl
  | 2, _ => rfl

set_option maxHeartbeats 1600000 in
theorem begun_any (w : World) :
    Calls Try.prog 5 #[] w fun e w' => e = .returned (.bool true) ∧ Below w.heap.size w w' := by
  have kc := fun (w : World) (C : Array Value) (n c : Nat) => Lib.run_convert_bytes_const (P := Try.prog) w 22 5 C n c Try.underlying22 Try.underlying5
  have HN : Hid (Calls Try.prog 6 #[.slice (some ⟨w.heap.size, 0, none⟩) 3 3] (w.alloc (.cells #[.int .u8 97, .int .u8 97, .int .u8 98] 5 (3, 4))) fun e w' => ∃ g, e = .returned (.pointer (some ⟨g, 0, none⟩)) ∧ SeekAt w' (w.heap.size + 1) w'.heap.size g [97, 97, 98] 0 ∧ Below w.heap.size w w') := by
    refine (new_any [97, 97, 98] (some ⟨w.heap.size, 0, none⟩) 3 _ (IsB.three w 5 (3, 4)) (by decide)).mono ?_
    rintro e w' ⟨g, rfl, hS, hb⟩
    have e : (w.alloc (.cells #[.int .u8 97, .int .u8 97, .int .u8 98] 5 (3, 4))).heap.size = w.heap.size + 1 := by simp
    rw [e] at hS hb
    exact ⟨g, rfl, hS, ((Below.refl _ _).alloc (Nat.le_refl _) _).trans (hb.mono (by omega))⟩
  go_enter Try.func5, Try.ntmps5
  go_wp2_with fail
  refine HN.out.mono ?_
  rintro e w1 ⟨g, rfl, hS1, hb1⟩
  have hg1 : w.heap.size ≤ g := by have := hS1.bounds; omega
  have F1 := Hid.mk' (feed_c w1 _ _ g [97, 97, 98] 0 97 97 [] false 1 rfl (by decide) (by decide) (by decide) hS1 (by decide) (by decide) (Nat.le_refl _))
  have B1 := Hid.mk' hb1
  clear kc HN hS1 hb1
  go_wp2_with fail
  refine F1.out.mono ?_
  rintro e w2 ⟨ao2, cap2, rfl, hO2, hS2, hG2⟩
  have F2 := Hid.mk' (feed_c w2 _ _ g [97, 97, 98] 1 97 97 [] false 2 rfl (by decide) (by decide) (by decide) hS2 (by decide) (by decide) hG2.size)
  have B2 := Hid.mk' (B1.out.grown hG2 B1.out.size (fun k e => by injection e with e; omega))
  clear F1 hO2 hS2
  go_wp2_with fail
  refine F2.out.mono ?_
  rintro e w3 ⟨ao3, cap3, rfl, hO3, hS3, hG3⟩
  have F3 := Hid.mk' (feed_c w3 _ _ g [97, 97, 98] 2 97 97 [97] false 2 rfl (by decide) (by decide) (by decide) hS3 (by decide) (by decide) (Nat.le_trans hG2.size hG3.size))
  have B3 := Hid.mk' (B2.out.grown hG3 B2.out.size (fun k e => by injection e with e; omega))
  clear F2 hO3 hS3
  go_wp2_with fail
  refine F3.out.mono ?_
  rintro e w4 ⟨ao4, cap4, rfl, hO4, hS4, hG4⟩
  have F4 := Hid.mk' (feed_c w4 _ _ g [97, 97, 98] 2 98 98 [] true 0 rfl (by decide) (by decide) (by decide) hS4 (by decide) (by decide) (Nat.le_trans (Nat.le_trans hG2.size hG3.size) hG4.size))
  have B4 := Hid.mk' (B3.out.grown hG4 B3.out.size (fun k e => by injection e with e; omega))
  have HI := Hid.mk' hO4
  have hglt : g < w3.heap.size := by have := hS4.bounds; have := hG2.size; have := hG3.size; omega
  clear F3 hO4 hS4
  go_wp2_with fail
  refine F4.out.mono ?_
  rintro e w5 ⟨ao5, cap5, rfl, hO5, hS5, hG5⟩
  have B5 := Hid.mk' (B4.out.grown hG5 B4.out.size (fun k e => by injection e with e; omega))
  have FF := Hid.mk' (fits_any w5 _ _ g _ _ hS5)
  have hq := (HI.out.isB.grown hG5 (fun a e => by
    have := (HI.out.block a e).1
    intro h; injection h with h; omega)).str (P := Try.prog) 22 9 5 Try.underlying22 Try.underlying5 Try.underlying9
  simp only [List.length_cons, List.length_nil, Nat.zero_add] at hq
  have hq1 : (⟨[97].toArray⟩ : ByteArray) = ⟨#[97]⟩ := rfl
  rw [hq1] at hq
  clear F4 hO5 hS5 HI B1 B2 B3 B4 hG2 hG3 hG4 hG5
  go_wp2_with fail
  refine FF.out.mono ?_
  rintro e w6 ⟨rfl, hw⟩
  subst hw
  go_wp2
  go_ret
  exact ⟨rfl, B5.out⟩
end Go.Proofs.Ytkncgfknmccfeaa
