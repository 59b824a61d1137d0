/- A looker for a mark, by where it lies in memory: one byte more, walked. -/
import Derived.Test.YtjpenioloeplgadGreatDoorPk10
import Derived.Test.YtjpenioloeplgadGreatDoorPk5
import Derived.Test.YtjpenioloeplgadGreatDoorPk11
import Derived.Deep.RegionWith
import Derived.Deep.OwnRows
import Derived.Deep.RegionHeld3
namespace Go.Proofs.YtjpenioloeplgadGreatDoor
open Go.RowKit

/-- a way back, as a cell -/
def bkR (m : List UInt8) (j : Nat) : Value := .int .i64 (Sk.bk m j : Int)
/-- where a looker's mark and ways back lie -/
structure SkP where
  mo : Option Addr
  cap : Nat
  gb : Nat
/-- block g is a looker for the mark m that holds h bytes -/
def SkAt (w : World) (g : Nat) (m : List UInt8) (h : Nat) (p : SkP) : Prop :=
  w.heap[g]? = some (.cells #[.slice p.mo m.length p.cap, .slice (some ⟨p.gb, 0, none⟩) m.length m.length, .int .i64 (h : Int)] 113 (0, 0)) ∧
    OwnB w 0 5 p.mo p.cap m ∧ w.rowIs p.gb 3 m.length (bkR m)
section
variable {w w' : World} {g : Nat} {m : List UInt8} {h : Nat} {p : SkP}
theorem SkAt.lt (hS : SkAt w g m h p) : g < w.heap.size := (Array.getElem?_eq_some_iff.1 hS.1).1
theorem SkAt.turns {S : Nat → Prop} (hS : SkAt w g m h p) (ht : Turns S w w') (h1 : ¬ S g) (h2 : ¬ S p.gb) (h3 : ∀ a, p.mo = some a → ¬ S a.block) : SkAt w' g m h p :=
  ⟨ht.row hS.1 h1, hS.2.1.turns ht h3, hS.2.2.of_block (ht.block _ hS.2.2.lt h2)⟩
theorem SkAt.stay (hS : SkAt w g m h p) (hb : Below w.heap.size w w') : SkAt w' g m h p := hS.turns (Turns.of_below (S := fun _ => False) hb) (fun e => e) (fun e => e) (fun _ _ e => e)
/-- a store of how many bytes are held -/
theorem SkAt.put (hS : SkAt w g m h p) (h' : Nat) : SkAt (w.setCell ⟨g, 2, none⟩ (.int .i64 (h' : Int))) g m h' p ∧ w.grownBy (w.setCell ⟨g, 2, none⟩ (.int .i64 (h' : Int))) (some g) := by
  obtain ⟨hg, hm, hk⟩ := hS
  have hgr : w.grownBy (w.setCell ⟨g, 2, none⟩ (.int .i64 (h' : Int))) (some g) := ⟨rfl, rfl, rfl, by simp [World.setCell], fun k _ hne => heap_setCell_other w _ k _ (fun e => hne (by rw [e]))⟩
  refine ⟨⟨?_, hm.kept hgr ?_, hk.setOther (row_is_ne hg hk (by decide)) _⟩, hgr⟩
  · rw [heap_setCell_same w g 2 _ _ _ hg]; rfl
  · intro a e
    have := row_ne hg hm (by decide)
    rw [ownBlock_slice, e] at this
    exact this
end
/-- the going back -/
theorem fitR (w : World) (g : Nat) (m : List UInt8) (h h' : Nat) (c : UInt8) (p : SkP) (hS : SkAt w g m h' p) (hh : h ≤ m.length - 1) (hL : m.length ≤ 140737488355328) :
    Calls Tryz.prog 67 #[.pointer (some ⟨g, 0, none⟩), .int .i64 h, .int .u8 c.toNat] w fun e w' => e = .returned (.int .i64 (Sk.fit m h c)) ∧ w' = w := by
  obtain ⟨mo, cap, gb⟩ := p
  obtain ⟨hg, hm, hk⟩ := hS
  have c0 : w.cell? ⟨g, 0, none⟩ = some (.slice mo m.length cap) := cell_of_row w g 0 _ _ _ hg
  have c1 : w.cell? ⟨g, 1, none⟩ = some (.slice (some ⟨gb, 0, none⟩) m.length m.length) := cell_of_row w g 1 _ _ _ hg
  by_cases h0 : m.length = 0
  · have e : m = [] := List.eq_nil_of_length_eq_zero h0
    subst e
    have e : h = 0 := by simp at hh; exact hh
    subst e
    exact fit_none g mo cap c w c0
  · obtain ⟨gm, e, _, hmc⟩ := hm.head (by omega)
    have e : mo = some ⟨gm, 0, none⟩ := e
    subst e
    refine fit_any m h c g gm gb cap w (by omega) hL c0 c1 hmc (fun j hj0 hjn => ?_)
    exact hk.cell (by omega)

set_option maxHeartbeats 1600000 in
theorem feedR_none (w : World) (g : Nat) (m : List UInt8) (h : Nat) (c : UInt8) (p : SkP) (hS : SkAt w g m h p) (hh : h ≤ m.length - 1) (hL : m.length ≤ 1000000) (hr : Sk.fit m h c = 0) :
    Calls Tryz.prog 68 #[.pointer (some ⟨g, 0, none⟩), .int .u8 c.toNat] w fun e w' => ∃ ao cap, e = .returned (.tuple #[.slice ao (h + 1) cap, .bool false]) ∧ OwnB w' w.heap.size 5 ao cap (m.take h ++ [c]) ∧ SkAt w' g m 0 p ∧ w.grownBy w' (some g) := by
  have HS := Hid.mk' hS
  have HF := Hid.mk' (fitR w g m h h c p hS hh (by omega))
  rw [hr] at HF
  clear hr
  obtain ⟨mo, cap, gb⟩ := p
  obtain ⟨hg, hm, _⟩ := hS
  have c0 : w.cell? ⟨g, 0, none⟩ = some (.slice mo m.length cap) := cell_of_row w g 0 _ _ _ hg
  have c2 : w.cell? ⟨g, 2, none⟩ = some (.int .i64 (h : Int)) := cell_of_row w g 2 _ _ _ hg
  have f2 : w.frozen? ⟨g, 2, none⟩ = false := frozen_of_row w g 2 _ _ hg
  have hmc : m.length ≤ cap := hm.isB.1
  obtain ⟨i0, hi0, hz0, hz1, hz2⟩ := info_parts info_u8
  have Hi := Hid.mk' hi0; have Hz0 := Hid.mk' hz0; have Hz1 := Hid.mk' hz1; have Hz2 := Hid.mk' hz2
  have HP := Hid.mk' (HS.out.put 0)
  have HC := Hid.mk' (clone_n (m.take h) h mo cap (w.setCell ⟨g, 2, none⟩ (.int .i64 0)) (by rw [List.length_take]; omega) ((hm.isB.first h (by omega)).grown HP.out.2 (fun a e => by
      have := row_ne hg hm (by decide)
      rwa [ownBlock_slice, e] at this)) (by omega))
  clear hg hm hi0 hz0 hz1 hz2
  go_enter Tryz.func68, Tryz.ntmps68
  go_wp2_with fail
  refine HF.out.mono ?_
  rintro e w1 ⟨rfl, hw⟩
  subst hw
  go_wp2_with fail
  refine HC.out.mono ?_
  rintro e w2 ⟨ao', cap', rfl, hO, hB⟩
  have HO := Hid.mk' hO; have HB := Hid.mk' hB
  clear hO hB HC HF
  have hsz : (w1.setCell ⟨g, 2, none⟩ (.int .i64 0)).heap.size = w1.heap.size := by simp
  go_wp2_with (at_builtin; refine wpList_append_b rfl (.tmp 30) (.tmp 32) 25 rfl w1.heap.size 5 i0 Tryz.underlying25 Hi.out Hz0.out Hz1.out Hz2.out (l := m.take h) (l2 := [c]) rfl (by rw [List.length_take]; omega) ((HO.out.mono (by omega)).alloc _) rfl rfl (IsB.one _ _ _ _) (by omega) (by have := HB.out.size; simp at this ⊢; omega) ?_; intro ao2 cap2 w3 hO3 hG3)
  go_ret2
  have hb := HB.out
  rw [hsz] at hb
  have hb3 : Below w1.heap.size (w1.setCell ⟨g, 2, none⟩ (.int .i64 0)) w3 := (hb.alloc (by have := hb.size; rw [hsz] at this; exact this) _).grown hG3 (by have := hb.size; simp at this ⊢; omega) (fun k e => by
    cases ao' with
    | none => simp [blockOf] at e
    | some a => simp [blockOf] at e; have := (HO.out.block a rfl).1; omega)
  refine ⟨ao2, cap2, rfl, hO3, HP.out.1.stay (show Below (w1.setCell ⟨g, 2, none⟩ (.int .i64 0)).heap.size (w1.setCell ⟨g, 2, none⟩ (.int .i64 0)) w3 by rw [hsz]; exact hb3), grown_trans HP.out.2 (grown_below _ (hsz ▸ hb3))⟩

set_option maxHeartbeats 800000 in
theorem feedR_found (w : World) (g : Nat) (m : List UInt8) (h : Nat) (c : UInt8) (p : SkP) (hS : SkAt w g m h p) (hh : h ≤ m.length - 1) (hL : m.length ≤ 1000000) (hm0 : 0 < m.length) (hr : Sk.fit m h c = m.length) :
    Calls Tryz.prog 68 #[.pointer (some ⟨g, 0, none⟩), .int .u8 c.toNat] w fun e w' => e = .returned (.tuple #[.slice none 0 0, .bool true]) ∧ SkAt w' g m 0 p ∧ w.grownBy w' (some g) := by
  have HS := Hid.mk' hS
  have HF := Hid.mk' (fitR w g m h h c p hS hh (by omega))
  rw [hr] at HF
  clear hr
  obtain ⟨mo, cap, gb⟩ := p
  obtain ⟨hg, hm, _⟩ := hS
  have c0 : w.cell? ⟨g, 0, none⟩ = some (.slice mo m.length cap) := cell_of_row w g 0 _ _ _ hg
  have c2 : w.cell? ⟨g, 2, none⟩ = some (.int .i64 (h : Int)) := cell_of_row w g 2 _ _ _ hg
  have f2 : w.frozen? ⟨g, 2, none⟩ = false := frozen_of_row w g 2 _ _ hg
  have HP := Hid.mk' (HS.out.put m.length)
  have HQ := Hid.mk' (HP.out.1.put 0)
  clear hg hm
  have t0 : ((m.length : Int) == 0) = false := by rw [beq_eq_false_iff_ne]; omega
  go_enter Tryz.func68, Tryz.ntmps68
  go_wp2_with fail
  refine HF.out.mono ?_
  rintro e w1 ⟨rfl, hw⟩
  subst hw
  go_wp2
  go_ret2
  exact ⟨rfl, HQ.out.1, grown_trans HP.out.2 HQ.out.2⟩

set_option maxHeartbeats 1600000 in
theorem feedR_some (w : World) (g : Nat) (m : List UInt8) (h r : Nat) (c : UInt8) (p : SkP) (hS : SkAt w g m h p) (hh : h ≤ m.length - 1) (hL : m.length ≤ 1000000) (hr : Sk.fit m h c = r) (hr0 : 0 < r) (hr1 : r < m.length) (hr2 : r ≤ h + 1) :
    Calls Tryz.prog 68 #[.pointer (some ⟨g, 0, none⟩), .int .u8 c.toNat] w fun e w' => ∃ ao cap, e = .returned (.tuple #[.slice ao (h + 1 - r) cap, .bool false]) ∧ OwnB w' w.heap.size 5 ao cap (m.take (h + 1 - r)) ∧ SkAt w' g m r p ∧ w.grownBy w' (some g) := by
  have HS := Hid.mk' hS
  have HF := Hid.mk' (fitR w g m h h c p hS hh (by omega))
  rw [hr] at HF
  clear hr
  have hlt : g < w.heap.size := hS.lt
  obtain ⟨mo, cap, gb⟩ := p
  obtain ⟨hg, hm, _⟩ := hS
  have c0 : w.cell? ⟨g, 0, none⟩ = some (.slice mo m.length cap) := cell_of_row w g 0 _ _ _ hg
  have c2 : w.cell? ⟨g, 2, none⟩ = some (.int .i64 (h : Int)) := cell_of_row w g 2 _ _ _ hg
  have f2 : w.frozen? ⟨g, 2, none⟩ = false := frozen_of_row w g 2 _ _ hg
  have hmc : m.length ≤ cap := hm.isB.1
  have HP := Hid.mk' (HS.out.put r)
  have HC := Hid.mk' (clone_n (m.take (h + 1 - r)) (h + 1 - r) mo cap (w.setCell ⟨g, 2, none⟩ (.int .i64 (r : Int))).drew (by rw [List.length_take]; omega) ((hm.isB.first (h + 1 - r) (by omega)).grown (grown_trans HP.out.2 (grown_drew _ _)) (fun a e => by
      have := row_ne hg hm (by decide)
      rwa [ownBlock_slice, e] at this)) (by omega))
  clear hg hm
  have t0 : ((r : Int) == 0) = false := by rw [beq_eq_false_iff_ne]; omega
  have t1 : ((r : Int) == m.length) = false := by rw [beq_eq_false_iff_ne]; omega
  have c0s : (w.setCell ⟨g, 2, none⟩ (.int .i64 (r : Int))).drew.cell? ⟨g, 0, none⟩ = some (.slice mo m.length cap) := (World.cell?_setCell_other w ⟨g, 2, none⟩ ⟨g, 0, none⟩ _ (by simp)).trans c0
  have c2s : (w.setCell ⟨g, 2, none⟩ (.int .i64 (r : Int))).drew.cell? ⟨g, 2, none⟩ = some (.int .i64 (r : Int)) := World.cell?_setCell_same w ⟨g, 2, none⟩ _ c2
  have b0 : (r : Int) ≤ (h : Int) + 1 := by omega
  have b1 : (h : Int) + 1 - r ≤ cap := by omega
  have b2 : ((h : Int) + 1 - r).toNat = h + 1 - r := by omega
  have b3 : IntKind.i64.wrap ((h : Int) + 1) = (h : Int) + 1 := wrap_id (by omega) (by omega)
  have b4 : IntKind.i64.wrap ((h : Int) + 1 - r) = (h : Int) + 1 - r := wrap_id (by omega) (by omega)
  go_enter Tryz.func68, Tryz.ntmps68
  go_wp2_with fail
  refine HF.out.mono ?_
  rintro e w1 ⟨rfl, hw⟩
  subst hw
  go_wp2
  go_region_held3 (fun w' => w'.cell? ⟨g, 0, none⟩ = some (.slice mo m.length cap) ∧ w'.cell? ⟨g, 2, none⟩ = some (.int .i64 (r : Int))) (go_keep) (first | (go_at_call 66; refine HC.out.mono ?_; rintro e w2 ⟨ao', cap', rfl, hO, hB⟩; have c0' := (hB.cell (p := ⟨g, 0, none⟩) (by simpa using hlt)).trans c0s; have c2' := (hB.cell (p := ⟨g, 2, none⟩) (by simpa using hlt)).trans c2s; have HO := Hid.mk' hO; have HB := Hid.mk' hB; clear hO hB))
  all_goals
    go_wp2
    go_ret2
    have hb := HB.out
    have hsz : (w1.setCell ⟨g, 2, none⟩ (.int .i64 (r : Int))).drew.heap.size = w1.heap.size := by simp
    have hO := HO.out
    rw [hsz] at hb hO
    have hb3 : Below w1.heap.size (w1.setCell ⟨g, 2, none⟩ (.int .i64 (r : Int))) w2 := (below_drew _ _).trans hb
    have hsz' : (w1.setCell ⟨g, 2, none⟩ (.int .i64 (r : Int))).heap.size = w1.heap.size := hsz
    refine ⟨ao', cap', rfl, hO, HP.out.1.stay (by rw [hsz']; exact hb3), grown_trans HP.out.2 (grown_below _ (hsz' ▸ hb3))⟩

/-- one byte more -/
theorem feedR_any (w : World) (g : Nat) (m : List UInt8) (h : Nat) (c : UInt8) (p : SkP) (hS : SkAt w g m h p) (hh : h ≤ m.length - 1) (hL : m.length ≤ 1000000) :
    Calls Tryz.prog 68 #[.pointer (some ⟨g, 0, none⟩), .int .u8 c.toNat] w fun e w' => ∃ ao cap, e = .returned (.tuple #[.slice ao (Sk.out m h c).length cap, .bool (Sk.found m h c)]) ∧ OwnB w' w.heap.size 5 ao cap (Sk.out m h c) ∧ SkAt w' g m (Sk.after m h c) p ∧ w.grownBy w' (some g) := by
  have hle := Sk.fit_le m h c
  have hle' := Sk.fit_le' m h c
  by_cases h0 : Sk.fit m h c = 0
  · have hf : Sk.found m h c = false := by unfold Sk.found; rw [h0, Bool.and_eq_false_iff, decide_eq_false_iff_not, decide_eq_false_iff_not]; omega
    have ha : Sk.after m h c = 0 := by unfold Sk.after; rw [hf, h0]; rfl
    rw [Sk.out_none h0, hf, ha, show (m.take h ++ [c]).length = h + 1 by simp; omega]
    exact feedR_none w g m h c p hS hh hL h0
  · by_cases h1 : Sk.fit m h c = m.length
    · have hf : Sk.found m h c = true := by unfold Sk.found; rw [Bool.and_eq_true, decide_eq_true_eq, decide_eq_true_eq]; exact ⟨by omega, h1⟩
      have ha : Sk.after m h c = 0 := by unfold Sk.after; rw [hf]; rfl
      rw [Sk.out_found hf hh, hf, ha]
      refine (feedR_found w g m h c p hS hh hL (by omega) h1).mono ?_
      rintro e w' ⟨rfl, hS', hg⟩
      exact ⟨none, 0, rfl, OwnB.nil _ _ _, hS', hg⟩
    · have hf : Sk.found m h c = false := by unfold Sk.found; rw [Bool.and_eq_false_iff, decide_eq_false_iff_not, decide_eq_false_iff_not]; exact Or.inr h1
      have ha : Sk.after m h c = Sk.fit m h c := by unfold Sk.after; rw [hf]; rfl
      rw [Sk.out_some (by omega) (by omega), hf, ha, show (m.take (h + 1 - Sk.fit m h c)).length = h + 1 - Sk.fit m h c by rw [List.length_take]; omega]
      exact feedR_some w g m h _ c p hS hh hL rfl (by omega) (by omega) hle'
end Go.Proofs.YtjpenioloeplgadGreatDoor
