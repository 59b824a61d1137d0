/- A looker for a mark, as it lies in memory; how many bytes it holds; its rest. -/
import Derived.Test.YtkncgfknmccfeaaSeekB
import Derived.Deep.RegionWith
import Derived.Deep.OwnRows
namespace Go.Proofs.Ytkncgfknmccfeaa
open Go.RowKit

/-- a way back, as a cell -/
def bkC (m : List UInt8) (j : Nat) : Value := .int .i64 (Sk.bk m j : Int)
/-- block g is a looker for the mark m that holds h bytes; it and all its memory are numbered from lo to hi -/
def SeekAt (w : World) (lo hi g : Nat) (m : List UInt8) (h : Nat) : Prop :=
  ∃ mo cap gb, w.heap[g]? = some (.cells #[.slice mo m.length cap, .slice (some ⟨gb, 0, none⟩) m.length m.length, .int .i64 (h : Int)] 36 (0, 0)) ∧
    OwnB w lo 5 mo cap m ∧ w.rowIs gb 3 m.length (bkC m) ∧
    lo ≤ g ∧ g < hi ∧ gb < hi ∧ (∀ a, mo = some a → a.block < hi)
theorem SeekAt.bounds {w : World} {lo hi g : Nat} {m : List UInt8} {h : Nat} (hS : SeekAt w lo hi g m h) : lo ≤ g ∧ g < hi := by
  obtain ⟨_, _, _, _, _, _, h1, h2, _⟩ := hS; exact ⟨h1, h2⟩
/-- it stays while nothing below hi turns -/
theorem SeekAt.below {w w' : World} {lo hi g B : Nat} {m : List UInt8} {h : Nat} (hS : SeekAt w lo hi g m h) (hb : Below B w w') (hB : hi ≤ B) : SeekAt w' lo hi g m h := by
  obtain ⟨mo, cap, gb, hg, hm, hk, h1, h2, h3, h4⟩ := hS
  exact ⟨mo, cap, gb, by rw [hb.block g (by omega)]; exact hg, hm.below hb (fun a e => by have := h4 a e; omega), hk.of_block (hb.block gb (by omega)), h1, h2, h3, h4⟩
/-- its blocks are three -/
theorem row_ne {w : World} {g : Nat} {cs : Array Value} {t : Nat} {fr : Nat × Nat} {base e size : Nat} {v : Value} {n : Nat} {xs : List Value} (hg : w.heap[g]? = some (.cells cs t fr)) (h : w.ownsRow base e size v n xs) (hne : t ≠ e) : v.ownBlock ≠ some g := by
  rcases h.2 with ⟨rfl, _⟩ | ⟨g', cap, cur, rfl, _, hg', _⟩
  · simp [Value.ownBlock]
  · intro e
    simp [Value.ownBlock] at e
    subst e
    rw [hg] at hg'
    injection hg' with hg'
    injection hg' with _ e _
    exact hne e
theorem row_is_ne {w : World} {g b : Nat} {cs : Array Value} {t e : Nat} {fr : Nat × Nat} {n : Nat} {f : Nat → Value} (hg : w.heap[g]? = some (.cells cs t fr)) (h : w.rowIs b e n f) (hne : t ≠ e) : b ≠ g := by
  rintro rfl
  obtain ⟨c, hc, _⟩ := h
  rw [hg] at hc
  injection hc with hc
  injection hc with _ e' _
  exact hne e'
/-- a store of how many bytes are held -/
theorem SeekAt.put {w : World} {lo hi g : Nat} {m : List UInt8} {h : Nat} (hS : SeekAt w lo hi g m h) (h' : Nat) : SeekAt (w.setCell ⟨g, 2, none⟩ (.int .i64 (h' : Int))) lo hi g m h' ∧ w.grownBy (w.setCell ⟨g, 2, none⟩ (.int .i64 (h' : Int))) (some g) := by
  obtain ⟨mo, cap, gb, hg, hm, hk, h1, h2, h3, h4⟩ := hS
  have hgr : w.grownBy (w.setCell ⟨g, 2, none⟩ (.int .i64 (h' : Int))) (some g) := ⟨rfl, rfl, rfl, by simp [World.setCell], fun k _ hne => heap_setCell_other w _ k _ (fun e => hne (by rw [e]))⟩
  refine ⟨⟨mo, cap, gb, ?_, hm.kept hgr ?_, hk.setOther (row_is_ne hg hk (by decide)) _, h1, h2, h3, h4⟩, hgr⟩
  · rw [heap_setCell_same w g 2 _ _ _ hg]; rfl
  · intro a e
    have := row_ne hg hm (by decide)
    rw [ownBlock_slice, e] at this
    exact this

theorem fits_any (w : World) (lo hi g : Nat) (m : List UInt8) (h : Nat) (hS : SeekAt w lo hi g m h) :
    Calls Try.prog 9 #[.pointer (some ⟨g, 0, none⟩)] w fun e w' => e = .returned (.int .i64 h) ∧ w' = w := by
  obtain ⟨mo, cap, gb, hg, _⟩ := hS
  have c2 : w.cell? ⟨g, 2, none⟩ = some (.int .i64 (h : Int)) := cell_of_row w g 2 _ _ _ hg
  clear hg
  go_enter Try.func9, Try.ntmps9
  go_wp2
  go_ret
  exact ⟨rfl, rfl⟩

set_option maxHeartbeats 800000 in
theorem rest_any (w : World) (lo hi g : Nat) (m : List UInt8) (h : Nat) (hS : SeekAt w lo hi g m h) (hh : h ≤ m.length) (hL : m.length ≤ 140737488355328) (hhi : hi ≤ w.heap.size) :
    Calls Try.prog 8 #[.pointer (some ⟨g, 0, none⟩)] w fun e w' => ∃ ao cap, e = .returned (.slice ao h cap) ∧ OwnB w' w.heap.size 5 ao cap (m.take h) ∧ SeekAt w' lo hi g m 0 ∧ w.grownBy w' (some g) := by
  have HS := Hid.mk' hS
  obtain ⟨mo, cap, gb, hg, hm, _, h1, h2, _⟩ := hS
  have c0 : w.cell? ⟨g, 0, none⟩ = some (.slice mo m.length cap) := cell_of_row w g 0 _ _ _ hg
  have c2 : w.cell? ⟨g, 2, none⟩ = some (.int .i64 (h : Int)) := cell_of_row w g 2 _ _ _ hg
  have f2 : w.frozen? ⟨g, 2, none⟩ = false := frozen_of_row w g 2 _ _ hg
  have hmc := hm.isB.1
  have hlt : g < w.heap.size := by omega
  have HC := Hid.mk' (clone_n (m.take h) h mo cap w.drew (by rw [List.length_take]; omega) (hm.isB.first h hh) (by omega))
  clear hg hm
  go_enter Try.func8, Try.ntmps8
  go_wp2
  go_region_with (go_at_call 13; refine HC.out.mono ?_; rintro e w1 ⟨ao', cap', rfl, hO, hB⟩; have c2' := (hB.cell (p := ⟨g, 2, none⟩) hlt).trans c2; have f2' := (hB.frozen (p := ⟨g, 2, none⟩) hlt).trans f2; have HO := Hid.mk' hO; have HB := Hid.mk' hB; clear hO hB)
  all_goals
    go_wp2
    go_ret
    have hb := HB.out
    have hs1 := (HS.out.below (below_drew w.heap.size w) hhi).below hb hhi
    have hp := hs1.put 0
    refine ⟨ao', cap', rfl, ?_, hp.1, grown_trans (grown_drew w _) (grown_trans (grown_below _ hb) hp.2)⟩
    refine OwnB.kept HO.out hp.2 (fun a e => ?_)
    have := (OwnB.block HO.out a e).1
    intro h; injection h with h
    have hz : (World.drew w).heap.size = w.heap.size := rfl
    omega
end Go.Proofs.Ytkncgfknmccfeaa
