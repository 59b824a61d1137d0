/- Package pack, walked: clashes. -/
import Derived.Test.YtjpenioloeplgadGreatDoorSlGrow
import Derived.Test.YtjpenioloeplgadGreatDoorPlainKC
import Derived.Test.YtjpenioloeplgadGreatDoorPk8
import Derived.Test.YtjpenioloeplgadGreatDoorShelf
import Derived.Lib.SlBytesConst
namespace Go.Proofs.YtjpenioloeplgadGreatDoor
open Go.RowKit

/-- bytes as the library's contract tells them -/
def numsB (l : List UInt8) : List Int := l.map fun c => (c.toNat : Int)
theorem bytesOf_numsB (l : List UInt8) : Lib.bytesOf (numsB l) = l := by
  unfold numsB Lib.bytesOf
  rw [List.map_map]
  conv => rhs; rw [← List.map_id l]
  apply List.map_congr_left
  intro c _
  simp
theorem numsB_range (l : List UInt8) : ∀ x ∈ numsB l, 0 ≤ x ∧ x < 256 := fun x hx => by
  unfold numsB at hx
  obtain ⟨c, _, rfl⟩ := List.mem_map.1 hx
  have := c.toNat_lt
  omega
theorem numsB_at (l : List UInt8) (i : Nat) (h : i < l.length) : (numsB l).getD i 0 = (l[i].toNat : Int) := by
  unfold numsB
  rw [List.getD_eq_getElem?_getD, List.getElem?_map, List.getElem?_eq_getElem h]
  rfl
/-- bytes.Contains, by plain bytes -/
theorem containsB_any (x y : List UInt8) (a1 a2 : Addr) (c1 c2 n k : Nat) (w : World) (hx : IsB w (some a1) c1 x) (hy : IsB w (some a2) c2 y) (hn : x.length = n) (hk : y.length = k) (h1 : n ≤ 1000000) (h2 : k ≤ 1000000) (h0 : y ≠ []) (mx : Int) (hm : w.cell? ⟨0, 0, none⟩ = some (.int .i64 mx)) :
    Calls Tryz.prog 86 #[.slice (some a1) n c1, .slice (some a2) k c2] w fun e w' => e = .returned (.bool (Fm.find y x).isSome) ∧ Below w.heap.size w w' := by
  subst hn; subst hk
  have h := Any.bytes_Contains_at (P := Tryz.prog) { Tryz.laysM186 with } a1 a2 x.length c1 y.length c2 (numsB x) (numsB y) mx w (by unfold numsB; rw [List.length_map]) (by unfold numsB; rw [List.length_map]) (numsB_range x) (numsB_range y) (fun i hi => by rw [numsB_at x i hi]; exact hx.cell i hi) (fun i hi => by rw [numsB_at y i hi]; exact hy.cell i hi) hx.1 (by omega) (by omega) hm
  rw [bytesOf_numsB, bytesOf_numsB, Pk.contains_find h0] at h
  refine h.mono ?_
  rintro e w' ⟨he, q, hw⟩
  exact ⟨he, drewN_below ⟨q, hw⟩⟩
/-- two pieces of bytes, just made -/
theorem two_lists (W : World) (g : Nat) (bo : Option Addr) (bcap : Nat) (b : List UInt8) (t : Nat) {k : Nat} (hk : W.heap.size = k) (h1 : IsB W (some ⟨g, 0, none⟩) 2 [13, 10]) (h2 : IsB W bo bcap b) : IsL (W.alloc (.cells #[.slice (some ⟨g, 0, none⟩) 2 2, .slice bo b.length bcap] t)) (some ⟨k, 0, none⟩) 2 [[13, 10], b] := by
  subst hk
  have hb : Below W.heap.size W (W.alloc (.cells #[.slice (some ⟨g, 0, none⟩) 2 2, .slice bo b.length bcap] t)) := (Below.refl _ _).alloc (Nat.le_refl _) _
  refine ⟨Nat.le_refl _, (fun e => by cases e), fun j hj => ?_⟩
  rcases (show j = 0 ∨ j = 1 by simp at hj; omega) with rfl | rfl
  · exact ⟨_, _, _, rfl, by rw [Addr.add_lit]; exact World.cell?_alloc_mark W _ _ _ 0, h1.stay hb⟩
  · exact ⟨_, _, _, rfl, by rw [Addr.add_lit]; exact World.cell?_alloc_mark W _ _ _ 1, h2.stay hb⟩
theorem two_isB (W : World) (t : Nat) (fr : Nat × Nat) {k : Nat} (hk : W.heap.size = k) : IsB (W.alloc (.cells #[.int .u8 13, .int .u8 10] t fr)) (some ⟨k, 0, none⟩) 2 [13, 10] := by
  subst hk
  refine ⟨Nat.le_refl _, (fun e => by cases e), fun j hj => ⟨_, rfl, ?_⟩⟩
  rw [Addr.add_lit, World.cell?_alloc_mark]
  rcases (show j = 0 ∨ j = 1 by simp at hj; omega) with rfl | rfl <;> rfl

set_option maxHeartbeats 2000000 in
set_option maxRecDepth 100000 in
theorem clashes_any (b : List UInt8) (bo : Option Addr) (bcap n : Nat) (mk : ByteArray) (w : World) (hB : IsB w bo bcap b) (hn : b.length = n) (hn2 : n ≤ 100000) (h0 : 0 < mk.size) (h1 : mk.size ≤ 100000) (mx : Int) (hm : w.cell? ⟨0, 0, none⟩ = some (.int .i64 mx)) :
    Calls Tryz.prog 62 #[.slice bo n bcap, .string mk] w fun e w' => e = .returned (.bool (Fm.find mk.data.toList (13 :: 10 :: b)).isSome) ∧ Below w.heap.size w w' := by
  subst hn
  have kc := fun (w : World) (C : Array Value) (n c : Nat) => Lib.run_convert_bytes_const (P := Tryz.prog) w 25 5 C n c Tryz.underlying25 Tryz.underlying5
  have hb1 : Below w.heap.size w (w.alloc (.cells #[.int .u8 13, .int .u8 10] 5 (2, 3))) := (Below.refl _ _).alloc (Nat.le_refl _) _
  have hL := two_lists (w.alloc (.cells #[.int .u8 13, .int .u8 10] 5 (2, 3))) w.heap.size bo bcap b 25 (k := w.heap.size + 1) (by simp) (two_isB w _ _ rfl) (hB.stay hb1)
  have hlen : lens [[13, 10], b] = b.length + 2 := by simp [lens]; omega
  have hfl : ([[13, 10], b] : List (List UInt8)).flatten = 13 :: 10 :: b := by simp
  have HC := Hid.mk' (concat_any [[13, 10], b] (w.heap.size + 1) 0 2 2 _ hL rfl (by rw [hlen]; omega) (by rw [hlen]; omega) (by decide))
  rw [hfl] at HC
  have HB2 : Hid (Below w.heap.size w ((w.alloc (.cells #[.int .u8 13, .int .u8 10] 5 (2, 3))).alloc (.cells #[.slice (some ⟨w.heap.size, 0, none⟩) 2 2, .slice bo b.length bcap] 25))) := then_ hb1 ((Below.refl _ _).alloc (Nat.le_refl _) _)
  have HM := Hid.mk' hm
  have hxl : (13 :: 10 :: b : List UInt8).length = b.length + 2 := rfl
  clear hL hlen hfl hb1 hm
  go_enter Tryz.func62, Tryz.ntmps62
  go_wp2_with fail
  refine HC.out.mono ?_
  rintro e w3 ⟨ao, c, rfl, hO3, hb3⟩
  obtain ⟨g, rfl, _, _⟩ := hO3.head (by rw [hxl]; omega)
  obtain ⟨cap4, w4, hconv, hb4, hbuf⟩ := buf_of (P := Tryz.prog) w3 mk 9 25 5 (by unfold maxLen; omega) Tryz.underlying9 Tryz.underlying25 Tryz.underlying5
  have hB4 : Below w.heap.size w w4 := then_ (then_ HB2.out hb3) hb4
  have hml := Ch.len_list mk
  have hCn := containsB_any (13 :: 10 :: b) mk.data.toList _ _ c cap4 (b.length + 2) mk.size w4 (hO3.isB.stay hb4) hbuf.isB rfl hml (by omega) (by omega) (fun e => by rw [e] at hml; simp at hml; omega) mx ((hB4.cell (World.block_lt_of_cell? w _ HM.out)).trans HM.out)
  have HCn := Hid.mk' hCn
  have HB4 := Hid.mk' hB4
  rw [hxl]
  clear hO3 hb3 hb4 hbuf hB4 hml hCn HC HB2 kc hxl
  obtain ⟨r, hr⟩ : ∃ r, (Fm.find mk.data.toList (13 :: 10 :: b)).isSome = r := ⟨_, rfl⟩
  rw [hr] at HCn
  have HR := Hid.mk' hr
  clear hr
  go_wp2_with fail
  refine HCn.out.mono ?_
  rintro e w5 ⟨rfl, hb5⟩
  have HB5 := Hid.mk' (then_ HB4.out hb5)
  clear hb5 hconv
  go_wp2
  go_ret
  exact ⟨by rw [HR.out]; rfl, HB5.out⟩
end Go.Proofs.YtjpenioloeplgadGreatDoor
