/- The library's slices.Grow and slices.Concat at bytes, walked. -/
import Derived.Test.YtjpenioloeplgadGreatDoorPk4
import Derived.Test.YtjpenioloeplgadGreatDoorPk10
import Derived.Test.YtjpenioloeplgadGreatDoorBase
import Derived.Lib.AppendZerosOnto
import Derived.Lib.SliceRun
namespace Go.Proofs.YtjpenioloeplgadGreatDoor
open Go.RowKit

set_option maxHeartbeats 2000000 in
set_option maxRecDepth 100000 in
/-- Grow of nil -/
theorem grow_any (n : Nat) (w : World) (h0 : 0 < n) (hn : n ≤ 1000000) :
    Calls Tryz.prog 118 #[.slice none 0 0, .int .i64 n] w fun e w' => ∃ g cap, e = .returned (.slice (some ⟨g, 0, none⟩) 0 cap) ∧ OwnB w' w.heap.size 5 (some ⟨g, 0, none⟩) cap [] ∧ Below w.heap.size w w' := by
  obtain ⟨i0, hi0, hz0, hz1, hz2⟩ := info_parts info_u8
  have hrz : ∀ ty, (Builtin.append_ #[25, 3] ty #[.slice none 0 0, .int .i64 (n : Int)]).run Tryz.prog w =
      .ok (.slice (some ⟨w.heap.size, 0, none⟩) n (grownCap w n 0 5)) (w.drew.alloc (.cells (#[] ++ Builtin.zeroCells (Value.int .u8 0).cells n ++ Builtin.zeroCells (Value.int .u8 0).cells (grownCap w n 0 5 - n)) 5)) := fun ty => by
    have h := Lib.run_append_grow_zeros (P := Tryz.prog) w 25 3 ty 5 i0 (.int .u8 0) .i64 .i64 Tryz.underlying25 Tryz.underlying3 hi0 hz0 none 0 0 [] (run_firstCells_none w.drew i0.size 0 0 0) n (by omega) (by omega) (by omega) (by omega) (by rw [hz2]; omega) (by rw [hz2]; exact growslice_fits (by omega) (by omega))
    simpa using h
  have hge := grownCap_ge w n 0 5
  have hle := grownCap_le_maxLen w n 0 5 (by unfold maxLen; omega)
  generalize grownCap w n 0 5 = G at *
  have HO : Hid (OwnB (w.drew.alloc (.cells (#[] ++ Builtin.zeroCells (Value.int .u8 0).cells n ++ Builtin.zeroCells (Value.int .u8 0).cells (G - n)) 5)) w.heap.size 5 (some ⟨w.heap.size, 0, none⟩) G []) := by
    have hz1' : (Value.int IntKind.u8 0).cells.size = 1 := rfl
    refine ⟨rfl, .inr ⟨w.heap.size, G, _, rfl, Nat.le_refl _, heap_alloc_new w.drew _, Nat.zero_le _, hle, ?_, rfl⟩⟩
    simp only [Array.size_append, size_zeroCells, hz1']
    simp; omega
  have HB : Hid (Below w.heap.size w (w.drew.alloc (.cells (#[] ++ Builtin.zeroCells (Value.int .u8 0).cells n ++ Builtin.zeroCells (Value.int .u8 0).cells (G - n)) 5))) := (below_drew w.heap.size w).trans ((Below.refl w.heap.size w.drew).alloc (Nat.le_refl _) _)
  have HG := Hid.mk' hge
  have h1 : ¬ ((n : Int) < 0) := by omega
  have h4 : (n : Int) > 0 := by omega
  unfold maxLen at hle
  clear hi0 hz0 hz1 hz2
  generalize (w.drew.alloc (.cells (#[] ++ Builtin.zeroCells (Value.int .u8 0).cells n ++ Builtin.zeroCells (Value.int .u8 0).cells (G - n)) 5)) = W1 at *
  go_enter Tryz.func118, Tryz.ntmps118
  go_wp2_with (at_builtin; refine Lib.wpList_append_run _ rfl _ _ _ _ rfl _ _ rfl rfl _ _ (hrz _) ?_)
  go_ret
  exact ⟨_, _, rfl, HO.out, HB.out⟩
/-- how many bytes -/
def lens (ls : List (List UInt8)) : Nat := (ls.map List.length).sum
theorem lens_take (ls : List (List UInt8)) (k : Nat) (h : k < ls.length) : lens (ls.take (k + 1)) = lens (ls.take k) + ls[k].length := by
  unfold lens
  rw [List.take_succ_eq_append_getElem h, List.map_append, List.sum_append]
  simp
theorem lens_le (ls : List (List UInt8)) (k : Nat) : lens (ls.take k) ≤ lens ls := by
  unfold lens
  conv => rhs; rw [← List.take_append_drop k ls, List.map_append, List.sum_append]
  omega
theorem lens_flat (ls : List (List UInt8)) : ls.flatten.length = lens ls := by unfold lens; rw [List.length_flatten]

set_option maxHeartbeats 2000000 in
set_option maxRecDepth 100000 in
theorem concat_any (ls : List (List UInt8)) (b o cap n : Nat) (w : World) (hI : IsL w (some ⟨b, o, none⟩) cap ls) (hn : ls.length = n) (hz : lens ls ≤ 1000000) (hp : 0 < lens ls) (hn2 : n ≤ 1000) :
    Calls Tryz.prog 87 #[.slice (some ⟨b, o, none⟩) n cap] w fun e w' => ∃ ao c, e = .returned (.slice ao ls.flatten.length c) ∧ OwnB w' w.heap.size 5 ao c ls.flatten ∧ Below w.heap.size w w' := by
  subst hn
  have HI := Hid.mk' hI
  have hcap := hI.1
  obtain ⟨i0, hi0, hz0, hz1, hz2⟩ := info_parts info_u8
  have Hi := Hid.mk' hi0; have Hz0 := Hid.mk' hz0; have Hz1 := Hid.mk' hz1; have Hz2 := Hid.mk' hz2
  clear hi0 hz0 hz1 hz2 hI
  go_enter Tryz.func87, Tryz.ntmps87
  go_wp2
  go_loop [3, 11] (fun vs vi => ∃ k : Nat, k ≤ ls.length ∧ vi = .int .i64 k ∧ vs = .int .i64 (lens (ls.take k) : Int)) (fun _ vi => ls.length - (intOf vi).toNat)
  case atStart => exact ⟨0, Nat.zero_le _, rfl, rfl⟩
  case round =>
    obtain ⟨k, hk, rfl, rfl⟩ := hrel
    by_cases hlt : k < ls.length
    · have hlt' : (k : Int) < ls.length := by omega
      obtain ⟨bo, c, _, hat⟩ := HI.out.at_ k hlt
      have hc := (hat w (Below.refl _ _)).1
      have hs := lens_take ls k hlt
      have hl1 := lens_le ls (k + 1)
      have HS := Hid.mk' hs
      generalize lens (ls.take k) = a at *
      generalize ls[k].length = d at *
      have tn : decide ((a : Int) + d < 0) = false := decide_eq_false (by omega)
      have had : (a : Int) + d ≤ 1000000 := by omega
      clear hat hs
      go_wp2
      go_round
      case rel => exact ⟨k + 1, by omega, by go_num, by rw [HS.out]; go_num⟩
      case measure => simp [intOf]; omega
    · obtain rfl : k = ls.length := by omega
      rw [List.take_length]
      have HGr := Hid.mk' (grow_any (lens ls) w hp hz)
      generalize hz' : lens ls = N at *
      have HN := Hid.mk' hz'
      clear hz'
      go_wp2_with fail
      refine HGr.out.mono ?_
      rintro e w1 ⟨g, cp, rfl, hO1, hb1⟩
      have HO1 := Hid.mk' hO1; have HB1 := Hid.mk' hb1
      clear hO1 hb1 HGr
      go_wp2
      go_loopw [6, 27] (fun vn vi wr => ∃ (k m : Nat) (ao : Option Addr) (c : Nat), k ≤ ls.length ∧ vi = .int .i64 k ∧ vn = .slice ao m c ∧ m = (ls.take k).flatten.length ∧ OwnB wr w.heap.size 5 ao c (ls.take k).flatten ∧ Below w.heap.size w wr) (fun _ vi _ => ls.length - (intOf vi).toNat)
      case atStart => exact ⟨0, 0, some ⟨g, 0, none⟩, cp, Nat.zero_le _, rfl, rfl, rfl, HO1.out, HB1.out⟩
      case round =>
        clear HO1 HB1
        obtain ⟨k, m, ao, c, hk, rfl, rfl, hm, hO, hB⟩ := hrel
        have HO := Hid.mk' hO; have HB := Hid.mk' hB; have HM := Hid.mk' hm
        clear hO hB hm
        by_cases hlt : k < ls.length
        · have hlt' : (k : Int) < ls.length := by omega
          obtain ⟨bo, bc, _, hat⟩ := HI.out.at_ k hlt
          obtain ⟨hc, hIb⟩ := hat wr HB.out
          have HIb := Hid.mk' hIb
          have HT : Hid ((ls.take (k + 1)).flatten = (ls.take k).flatten ++ ls[k]) := by
            unfold Hid; rw [List.take_succ_eq_append_getElem hlt, List.flatten_append]; simp
          have hl1 := lens_le ls (k + 1)
          have hmb : m + ls[k].length ≤ 1000000 := by
            rw [← lens_flat, HT.out, List.length_append, HN.out, ← HM.out] at hl1
            omega
          have HSz : Hid (w.heap.size ≤ wr.heap.size) := HB.out.size
          clear hat hIb hl1
          generalize ls[k] = d at *
          obtain ⟨dn, hdn⟩ : ∃ dn, d.length = dn := ⟨_, rfl⟩
          rw [hdn] at hc hmb
          have HDn := Hid.mk' hdn
          clear hdn
          go_wp2_with (at_builtin; refine wpList_append_b rfl (.tmp 31) (.tmp 32) 25 rfl w.heap.size 5 i0 Tryz.underlying25 Hi.out Hz0.out Hz1.out Hz2.out rfl HM.out.symm HO.out rfl HDn.out HIb.out (by omega) HSz.out ?_; intro ao3 cap3 w3 hO3 hG3; have HO3 := Hid.mk' hO3; have HB3 := Hid.mk' (HB.out.grown hG3 HSz.out (fun q e => by
            cases ao with
            | none => cases e
            | some a => injection e with e; subst e; exact (HO.out.block a rfl).1)); clear hO3 hG3)
          go_roundw
          case rel => exact ⟨k + 1, m + dn, ao3, cap3, by omega, by go_num, rfl, by rw [HT.out, List.length_append, ← HM.out, HDn.out], by rw [HT.out]; exact HO3.out, HB3.out⟩
          case measure => simp [intOf]; omega
        · obtain rfl : k = ls.length := by omega
          rw [List.take_length] at HO HM
          go_wp2
          go_ret
          exact ⟨ao, c, by rw [← HM.out]; rfl, HO.out, HB.out⟩
end Go.Proofs.YtjpenioloeplgadGreatDoor
