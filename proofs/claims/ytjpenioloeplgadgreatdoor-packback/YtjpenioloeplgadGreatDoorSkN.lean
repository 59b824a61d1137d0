/- A new looker for a mark, by where it lies, walked. -/
import Derived.Test.YtjpenioloeplgadGreatDoorSkR
import Derived.Deep.DeepCutAuto
namespace Go.Proofs.YtjpenioloeplgadGreatDoor
open Go.RowKit

/-- the table of ways back, as far as k -/
def bkK (m : List UInt8) (k j : Nat) : Value := if j ≤ k then bkR m j else .int .i64 0
/-- a looker whose table is laid as far as k -/
def SeekPart (w : World) (lo g gb : Nat) (m : List UInt8) (mo : Option Addr) (cap k : Nat) : Prop :=
  w.heap[g]? = some (.cells #[.slice mo m.length cap, .slice (some ⟨gb, 0, none⟩) m.length m.length, .int .i64 0] 113 (0, 0)) ∧
    OwnB w lo 5 mo cap m ∧ w.rowIs gb 3 m.length (bkK m k) ∧ lo ≤ g ∧ lo ≤ gb
theorem zeros (m : List UInt8) (j : Nat) : Value.int .i64 0 = bkK m 1 j := by
  unfold bkK
  split
  · have e : j = 0 ∨ j = 1 := by omega
    rcases e with rfl | rfl <;> rfl
  · rfl
theorem part_a {w w1 : World} {m : List UInt8} {ao : Option Addr} {cap : Nat} (hO : OwnB w1 w.heap.size 5 ao cap m) (hb : Below w.heap.size w w1) :
    SeekPart ((w1.alloc (.cells (madeCells #[.int .i64 0] m.length) 3)).alloc (.cells #[.slice ao m.length cap, .slice (some ⟨w1.heap.size, 0, none⟩) m.length m.length, .int .i64 0] 113)) w.heap.size (w1.heap.size + 1) w1.heap.size m ao cap 1 ∧
    Below w.heap.size w ((w1.alloc (.cells (madeCells #[.int .i64 0] m.length) 3)).alloc (.cells #[.slice ao m.length cap, .slice (some ⟨w1.heap.size, 0, none⟩) m.length m.length, .int .i64 0] 113)) := by
  have hs := hb.size
  refine ⟨⟨?_, (hO.alloc _).alloc _, ((World.rowIs_made w1 _ _ _).alloc _).congr (fun j _ => zeros m j), by omega, hs⟩, (hb.alloc hs _).alloc (by simp; omega) _⟩
  have := heap_alloc_new (w1.alloc (.cells (madeCells #[.int .i64 0] m.length) 3)) (.cells #[.slice ao m.length cap, .slice (some ⟨w1.heap.size, 0, none⟩) m.length m.length, .int .i64 0] 113)
  simpa using this
theorem part_b {w w1 : World} {m : List UInt8} {ao : Option Addr} {cap : Nat} (hO : OwnB w1 (w.alloc (.cells (madeCells #[.int .i64 0] m.length) 3)).drew.heap.size 5 ao cap m) (hb : Below (w.alloc (.cells (madeCells #[.int .i64 0] m.length) 3)).drew.heap.size (w.alloc (.cells (madeCells #[.int .i64 0] m.length) 3)).drew w1) :
    SeekPart (w1.alloc (.cells #[.slice ao m.length cap, .slice (some ⟨w.heap.size, 0, none⟩) m.length m.length, .int .i64 0] 113)) w.heap.size w1.heap.size w.heap.size m ao cap 1 ∧
    Below w.heap.size w (w1.alloc (.cells #[.slice ao m.length cap, .slice (some ⟨w.heap.size, 0, none⟩) m.length m.length, .int .i64 0] 113)) := by
  have hs := hb.size
  have e : (w.alloc (.cells (madeCells #[.int .i64 0] m.length) 3)).drew.heap.size = w.heap.size + 1 := by simp
  rw [e] at hO hb hs
  replace hb := (below_drew _ (w.alloc (.cells (madeCells #[.int .i64 0] m.length) 3))).trans hb
  refine ⟨⟨heap_alloc_new w1 _, (hO.mono (by omega)).alloc _, (((World.rowIs_made w _ _ _).of_block (hb.block _ (by omega))).alloc _).congr (fun j _ => zeros m j), by omega, Nat.le_refl _⟩, (((Below.refl _ _).alloc (Nat.le_refl _) _).trans (hb.mono (by omega))).alloc (by omega) _⟩

set_option maxHeartbeats 1600000 in
theorem newR_any (m : List UInt8) (ao : Option Addr) (cap : Nat) (w : World) (h : IsB w ao cap m) (hL : m.length ≤ 1000000) :
    Calls Tryz.prog 42 #[.slice ao m.length cap] w fun e w' => ∃ g p, e = .returned (.pointer (some ⟨g, 0, none⟩)) ∧ SkAt w' g m 0 p ∧ w.heap.size ≤ g ∧ w.heap.size ≤ p.gb ∧ (∀ a, p.mo = some a → w.heap.size ≤ a.block) ∧ Below w.heap.size w w' := by
  have H := Hid.mk' h
  have HC := Hid.mk' (fun (W : World) (hW : IsB W ao cap m) => clone_any m ao cap W hW (by omega))
  have hmk := run_make_row' (P := Tryz.prog) 37 3 (.int .i64 0) 8 Tryz.underlying37 info_int rfl .i64 .i64 m.length (by omega) (by omega)
  clear h
  go_enter Tryz.func42, Tryz.ntmps42
  go_upto_region 1 with fail
  go_cut [3] (fun p wc => ∃ g gb mo cap', p = .pointer (some ⟨g, 0, none⟩) ∧ SeekPart wc w.heap.size g gb m mo cap' 1 ∧ Below w.heap.size w wc)
  case first =>
    go_region_with (go_at_call 66; refine (HC.out _ (by first | exact H.out | exact H.out.alloc _)).mono ?_; rintro e w1 ⟨ao', cap', rfl, hO, hB⟩; have HO := Hid.mk' hO; have HB := Hid.mk' hB; clear hO hB)
    all_goals (go_wp2_with fail; go_meet; first | exact ⟨_, _, _, _, rfl, part_a HO.out ((below_drew _ w).trans HB.out)⟩ | exact ⟨_, _, _, _, rfl, part_b HO.out HB.out⟩)
  case rest =>
    obtain ⟨g, gb, mo, cap', rfl, hP, hB⟩ := hcut
    have HP := Hid.mk' hP
    clear hP HC hmk H
    go_wp2
    go_loopw [4] (fun t wr => ∃ n : Nat, 0 < n ∧ n ≤ m.length + 1 ∧ t = .int .i64 n ∧ SeekPart wr w.heap.size g gb m mo cap' n ∧ Below w.heap.size w wr) (fun t _ => m.length + 1 - (intOf t).toNat)
    case atStart => exact ⟨1, by omega, by omega, rfl, HP.out, hB⟩
    case round =>
      obtain ⟨n, hn0, hnl, rfl, hP, hb⟩ := hrel
      clear HP hB
      have HP := Hid.mk' hP
      obtain ⟨hg, hm, hk, hlg, hlb⟩ := hP
      have c0 : wr.cell? ⟨g, 0, none⟩ = some (.slice mo m.length cap') := cell_of_row wr g 0 _ _ _ hg
      have c1 : wr.cell? ⟨g, 1, none⟩ = some (.slice (some ⟨gb, 0, none⟩) m.length m.length) := cell_of_row wr g 1 _ _ _ hg
      by_cases hlt : n + 1 < m.length
      · obtain ⟨gm, rfl, _, hmc⟩ := hm.head (by omega)
        have cm := hmc n (by omega)
        have cb : wr.cell? ⟨gb, n, none⟩ = some (.int .i64 (Sk.bk m n)) := by
          rw [hk.cell (by omega)]; unfold bkK; rw [if_pos (Nat.le_refl _)]; rfl
        have cb1 : wr.cell? ⟨gb, n + 1, none⟩ = some (.int .i64 0) := by
          rw [hk.cell hlt]; unfold bkK; rw [if_neg (by omega)]
        have fb1 : wr.frozen? ⟨gb, n + 1, none⟩ = false := hk.frozen _
        have hgb : gb ≠ g := row_is_ne hg hk (by decide)
        have hmb : gm ≠ gb := by
          intro e; subst e
          obtain ⟨cc, hcc, _⟩ := hk
          have := row_ne hcc hm (by decide)
          simp [Value.ownBlock] at this
        have hbl := Sk.bk_lt m n hn0
        have HF := Hid.mk' (fit_any m (Sk.bk m n) m[n] g gm gb cap' wr.drew (by omega) (by omega) c0 c1 hmc (fun j hj0 hjn => by
          refine (hk.cell (show j < m.length by omega)).trans ?_
          unfold bkK; rw [if_pos (by omega)]; rfl))
        rw [← Sk.bk_next m n hn0 (by omega)] at HF
        have HK : Hid (SeekPart (wr.drew.setCell ⟨gb, n + 1, none⟩ (.int .i64 (Sk.bk m (n + 1)))) w.heap.size g gb m (some ⟨gm, 0, none⟩) cap' (n + 1) ∧ Below w.heap.size w (wr.drew.setCell ⟨gb, n + 1, none⟩ (.int .i64 (Sk.bk m (n + 1))))) := by
          refine ⟨⟨?_, ?_, (hk.set (n + 1) (.int .i64 (Sk.bk m (n + 1)))).congr (fun j _ => ?_), hlg, hlb⟩, (hb.trans (below_drew _ _)).setCell hlb _⟩
          · rw [heap_setCell_other _ _ _ _ (fun e => hgb e.symm)]; exact hg
          · exact OwnB.kept (w := wr.drew) hm ⟨rfl, rfl, rfl, by simp [World.setCell], fun k _ hne => heap_setCell_other _ _ k _ (fun e => hne (by rw [e]))⟩ (row := some gb) (fun a e => by cases e; intro e; injection e with e; exact hmb e)
          · unfold bkK
            by_cases e : j = n + 1
            · subst e; rw [if_pos rfl, if_pos (Nat.le_refl _)]; rfl
            · rw [if_neg e]
              by_cases e2 : j ≤ n
              · rw [if_pos e2, if_pos (by omega)]
              · rw [if_neg e2, if_neg (by omega)]
        generalize Sk.bk m (n + 1) = r at HF HK
        generalize Sk.bk m n = q at HF cb hbl
        generalize m[n] = x at HF cm
        have ht : decide ((n : Int) + 1 < m.length) = true := by rw [decide_eq_true_eq]; omega
        have b1 : (n : Int) < m.length := by omega
        have b2 : (n : Int) + 1 < m.length := by omega
        have b3 : IntKind.i64.wrap ((n : Int) + 1) = (n : Int) + 1 := wrap_id (by omega) (by omega)
        have b4 : (0 : Int) ≤ (n : Int) + 1 := by omega
        have b5 : ((n : Int) + 1).toNat = n + 1 := by omega
        have k1 : (wr.setCell ⟨gb, n + 1, none⟩ (.int .i64 (r : Int))).cell? ⟨gm, n, none⟩ = some (.int .u8 (x.toNat : Int)) := (World.cell?_setCell_other wr ⟨gb, n + 1, none⟩ ⟨gm, n, none⟩ _ (fun e => by injection e with e _ _; exact hmb e.symm)).trans cm
        have k2 : (wr.setCell ⟨gb, n + 1, none⟩ (.int .i64 (r : Int))).cell? ⟨gb, n, none⟩ = some (.int .i64 (q : Int)) := (World.cell?_setCell_other wr ⟨gb, n + 1, none⟩ ⟨gb, n, none⟩ _ (fun e => by injection e with _ e _; omega)).trans cb
        clear hg hm hk HP hmc
        go_wp2
        go_region_held3 (fun w' => w'.cell? ⟨g, 0, none⟩ = some (.slice (some ⟨gm, 0, none⟩) m.length cap') ∧ w'.cell? ⟨g, 1, none⟩ = some (.slice (some ⟨gb, 0, none⟩) m.length m.length) ∧ w'.cell? ⟨gm, n, none⟩ = some (.int .u8 (x.toNat : Int)) ∧ w'.cell? ⟨gb, n, none⟩ = some (.int .i64 (q : Int))) (go_keep) (first | (go_at_call 67; refine HF.out.mono ?_; rintro e w' ⟨rfl, rfl⟩))
        all_goals
          clear k1 k2
          go_wp2
          go_roundw
          case rel => exact ⟨n + 1, by omega, by omega, by go_num, HK.out.1, HK.out.2⟩
          case measure => simp [intOf]; omega
      · have ht : decide ((n : Int) + 1 < m.length) = false := by rw [decide_eq_false_iff_not]; omega
        have HF : Hid (SkAt wr g m 0 ⟨mo, cap', gb⟩) := ⟨hg, hm.mono (Nat.zero_le _), hk.congr (fun j hj => by unfold bkK; rw [if_pos (by omega)])⟩
        have HMo : Hid (∀ a, mo = some a → w.heap.size ≤ a.block) := fun a e => (hm.block a e).1
        clear hg hm hk HP
        go_wp2
        go_ret
        exact ⟨g, ⟨mo, cap', gb⟩, rfl, HF.out, hlg, hlb, HMo.out, hb⟩
end Go.Proofs.YtjpenioloeplgadGreatDoor
