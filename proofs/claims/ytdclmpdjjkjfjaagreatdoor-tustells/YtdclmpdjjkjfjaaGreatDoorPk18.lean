/- Small texts, one behind the other: JrF, JlA, JrG, JrH, ShA, TuN. -/
import Derived.Test.YtdclmpdjjkjfjaaGreatDoorJrC
import Derived.Test.YtdclmpdjjkjfjaaGreatDoorJrB
import Derived.Test.YtdclmpdjjkjfjaaGreatDoorPk5
import Derived.Test.YtdclmpdjjkjfjaaGreatDoorPk9
import Derived.Test.YtdclmpdjjkjfjaaGreatDoorPk12
import Derived.Test.YtdclmpdjjkjfjaaGreatDoorMemKp
import Derived.Test.YtdclmpdjjkjfjaaGreatDoorPk6
import Derived.Test.YtdclmpdjjkjfjaaGreatDoorPk17
import Derived.Test.YtdclmpdjjkjfjaaGreatDoorTuNu
import Derived.Test.YtdclmpdjjkjfjaaGreatDoorPk14
/- Package journal, walked: an entry that is read, behind how many bytes follow. -/
namespace Go.Proofs.YtdclmpdjjkjfjaaGreatDoor
open Go.RowKit

/-- so many numbers are read -/
inductive InAt (b : List UInt8) : Nat → List UInt8 → Int → Int → Int → Prop
  | zero : InAt b 0 b 0 0 0
  | one {x s} : Jn.rn b = some (x, s) → InAt b 1 (b.drop s) x 0 0
  | two {x s y t} : Jn.rn b = some (x, s) → Jn.rn (b.drop s) = some (y, t) → InAt b 2 ((b.drop s).drop t) x y 0
  | three {x s y t z u} : Jn.rn b = some (x, s) → Jn.rn (b.drop s) = some (y, t) → Jn.rn ((b.drop s).drop t) = some (z, u) → InAt b 3 (((b.drop s).drop t).drop u) x y z
theorem InAt.le {b bi : List UInt8} {i : Nat} {x y z : Int} (h : InAt b i bi x y z) : bi.length ≤ b.length := by
  cases h <;> (try simp only [List.length_drop]) <;> omega
theorem InAt.stop {b bi : List UInt8} {i : Nat} {x y z : Int} (h : InAt b i bi x y z) (hi : i < 3) (hn : Jn.rn bi = none) : Jn.inner b = none := by
  cases h with
  | zero => unfold Jn.inner; rw [hn]
  | one h1 => unfold Jn.inner; rw [h1]; simp only; rw [hn]
  | two h1 h2 => unfold Jn.inner; rw [h1]; simp only; rw [h2]; simp only; rw [hn]
  | three => omega
theorem InAt.end_ {b bi : List UInt8} {x y z : Int} (h : InAt b 3 bi x y z) : Jn.inner b = if Jn.fits ⟨x, y, z, bi⟩ = true then some ⟨x, y, z, bi⟩ else none := by
  cases h with
  | three h1 h2 h3 => unfold Jn.inner; rw [h1]; simp only; rw [h2]; simp only; rw [h3]
/-- the numbers, with one more -/
def put3 (i : Nat) (v x y z : Int) : Int × Int × Int := match i with
  | 0 => (v, y, z)
  | 1 => (x, v, z)
  | _ => (x, y, v)
theorem InAt.step {b bi : List UInt8} {i : Nat} {x y z v : Int} {s : Nat} (h : InAt b i bi x y z) (hi : i < 3) (hn : Jn.rn bi = some (v, s)) : InAt b (i + 1) (bi.drop s) (put3 i v x y z).1 (put3 i v x y z).2.1 (put3 i v x y z).2.2 := by
  cases h with
  | zero => exact .one hn
  | one h1 => exact .two h1 hn
  | two h1 h2 => exact .three h1 h2 hn
  | three => omega
theorem rnOut_none {b : List UInt8} (h : Jn.rn b = none) : rnOut b = (0, 0) := by unfold rnOut; rw [h]
theorem rnOut_some {b : List UInt8} {x : Int} {s : Nat} (h : Jn.rn b = some (x, s)) : rnOut b = (x, s) := by unfold rnOut; rw [h]
/-- the cells of what is answered, and of the numbers -/
structure InMem (w : World) (x y z : Int) (W : World) : Prop where
  res : W.heap[w.heap.size]? = some (.cells #[.int .i64 0, .int .i64 0, .int .i64 0, .slice none 0 0] 121 (0, 0))
  nums : W.heap[w.heap.size + 1]? = some (.cells #[.int .i64 x, .int .i64 y, .int .i64 z] 144 (0, 0))
  below : Below w.heap.size w W
  size : W.heap.size = w.heap.size + 2
/-- what is answered -/
inductive InnOut (w : World) (b : List UInt8) : Ending → World → Prop
  | no {w'} : Jn.inner b = none → Below w.heap.size w w' → InnOut w b (.returned (.tuple #[.agg #[.int .i64 0, .int .i64 0, .int .i64 0, .slice none 0 0], .bool false])) w'
  | yes {w'} (e : Jn.E) (ta : Option Addr) (tc : Nat) : Jn.inner b = some e → IsBS w' (fun k => w.heap.size ≤ k) ta tc e.text → Below w.heap.size w w' → InnOut w b (.returned (.tuple #[.agg #[.int .i64 e.kind, .int .i64 e.id, .int .i64 e.n, .slice ta e.text.length tc], .bool true])) w'

theorem store4 {W : World} {g t : Nat} {c0 c1 c2 c3 : Value} (h : W.heap[g]? = some (.cells #[c0, c1, c2, c3] t (0, 0))) (a b c d : Value) :
    ((((W.setCell ⟨g, 0, none⟩ a).setCell ⟨g, 1, none⟩ b).setCell ⟨g, 2, none⟩ c).setCell ⟨g, 3, none⟩ d).heap[g]? = some (.cells #[a, b, c, d] t (0, 0)) ∧ Turns (fun k => k = g) W ((((W.setCell ⟨g, 0, none⟩ a).setCell ⟨g, 1, none⟩ b).setCell ⟨g, 2, none⟩ c).setCell ⟨g, 3, none⟩ d) := by
  have h1 := heap_setCell_same W g 0 _ _ a h
  have h2 := heap_setCell_same _ g 1 _ _ b h1
  have h3 := heap_setCell_same _ g 2 _ _ c h2
  have h4 := heap_setCell_same _ g 3 _ _ d h3
  have t1 := Turns.setCell (fun k => k = g) W ⟨g, 0, none⟩ a rfl
  have t2 := Turns.setCell (fun k => k = g) (W.setCell ⟨g, 0, none⟩ a) ⟨g, 1, none⟩ b rfl
  have t3 := Turns.setCell (fun k => k = g) ((W.setCell ⟨g, 0, none⟩ a).setCell ⟨g, 1, none⟩ b) ⟨g, 2, none⟩ c rfl
  have t4 := Turns.setCell (fun k => k = g) (((W.setCell ⟨g, 0, none⟩ a).setCell ⟨g, 1, none⟩ b).setCell ⟨g, 2, none⟩ c) ⟨g, 3, none⟩ d rfl
  exact ⟨h4, ((t1.trans t2 (fun _ e _ => e)).trans t3 (fun _ e _ => e)).trans t4 (fun _ e _ => e)⟩
theorem row4 {W : World} {g t : Nat} {c0 c1 c2 c3 : Value} (h : W.heap[g]? = some (.cells #[c0, c1, c2, c3] t (0, 0))) : (W.cell? ⟨g, 0, none⟩ = some c0 ∧ W.cell? ⟨g, 1, none⟩ = some c1 ∧ W.cell? ⟨g, 2, none⟩ = some c2 ∧ W.cell? ⟨g, 3, none⟩ = some c3) ∧ (W.frozen? ⟨g, 0, none⟩ = false ∧ W.frozen? ⟨g, 1, none⟩ = false ∧ W.frozen? ⟨g, 2, none⟩ = false ∧ W.frozen? ⟨g, 3, none⟩ = false) :=
  ⟨⟨cell_of_row W g 0 _ _ _ h, cell_of_row W g 1 _ _ _ h, cell_of_row W g 2 _ _ _ h, cell_of_row W g 3 _ _ _ h⟩, frozen_of_row W g 0 _ _ h, frozen_of_row W g 1 _ _ h, frozen_of_row W g 2 _ _ h, frozen_of_row W g 3 _ _ h⟩
theorem row3 {W : World} {g t : Nat} {c0 c1 c2 : Value} (h : W.heap[g]? = some (.cells #[c0, c1, c2] t (0, 0))) : (W.cell? ⟨g, 0, none⟩ = some c0 ∧ W.cell? ⟨g, 1, none⟩ = some c1 ∧ W.cell? ⟨g, 2, none⟩ = some c2) ∧ (W.frozen? ⟨g, 0, none⟩ = false ∧ W.frozen? ⟨g, 1, none⟩ = false ∧ W.frozen? ⟨g, 2, none⟩ = false) :=
  ⟨⟨cell_of_row W g 0 _ _ _ h, cell_of_row W g 1 _ _ _ h, cell_of_row W g 2 _ _ _ h⟩, frozen_of_row W g 0 _ _ h, frozen_of_row W g 1 _ _ h, frozen_of_row W g 2 _ _ h⟩

theorem InMem.put0 {w W : World} {x y z : Int} (h : InMem w x y z W) (v : Int) : InMem w v y z (W.setCell ⟨w.heap.size + 1, 0, none⟩ (.int .i64 v)).drew := by
  have hs := h.size
  have ht : Turns (fun k => k = w.heap.size + 1) W (W.setCell ⟨w.heap.size + 1, 0, none⟩ (.int .i64 v)) := Turns.setCell _ W _ _ rfl
  exact ⟨ht.row h.res (by omega), heap_setCell_same W _ 0 _ _ _ h.nums, (h.below.trans (ht.below (fun k e => by omega) (by omega))).trans (below_drew _ _), by show (W.setCell _ _).heap.size = _; simp [World.setCell, hs]⟩
theorem InMem.put1 {w W : World} {x y z : Int} (h : InMem w x y z W) (v : Int) : InMem w x v z (W.setCell ⟨w.heap.size + 1, 1, none⟩ (.int .i64 v)).drew := by
  have hs := h.size
  have ht : Turns (fun k => k = w.heap.size + 1) W (W.setCell ⟨w.heap.size + 1, 1, none⟩ (.int .i64 v)) := Turns.setCell _ W _ _ rfl
  exact ⟨ht.row h.res (by omega), heap_setCell_same W _ 1 _ _ _ h.nums, (h.below.trans (ht.below (fun k e => by omega) (by omega))).trans (below_drew _ _), by show (W.setCell _ _).heap.size = _; simp [World.setCell, hs]⟩
theorem InMem.put2 {w W : World} {x y z : Int} (h : InMem w x y z W) (v : Int) : InMem w x y v (W.setCell ⟨w.heap.size + 1, 2, none⟩ (.int .i64 v)).drew := by
  have hs := h.size
  have ht : Turns (fun k => k = w.heap.size + 1) W (W.setCell ⟨w.heap.size + 1, 2, none⟩ (.int .i64 v)) := Turns.setCell _ W _ _ rfl
  exact ⟨ht.row h.res (by omega), heap_setCell_same W _ 2 _ _ _ h.nums, (h.below.trans (ht.below (fun k e => by omega) (by omega))).trans (below_drew _ _), by show (W.setCell _ _).heap.size = _; simp [World.setCell, hs]⟩
set_option maxRecDepth 100000 in
set_option maxHeartbeats 2000000 in
theorem readInner_any (b : List UInt8) (ao : Option Addr) (cap n : Nat) (w : World) (hB : IsB w ao cap b) (hn : b.length = n) (hN : n ≤ 1000000000) :
    Calls Tryz.prog 98 #[.slice ao n cap] w fun e w' => InnOut w b e w' := by
  have HI : Hid (∀ W, Below w.heap.size w W → IsB W ao cap b) := fun W hW => hB.stay hW
  have HNb : Hid (0 < b.length → ∀ k, blockOf ao = some k → k < w.heap.size) := fun h0 k e => by
    obtain ⟨bb, oo, rfl, hc⟩ := hB.lit h0
    injection e with e; subst e
    exact World.block_lt_of_cell? w _ (hc 0 h0)
  clear hB
  go_enter Tryz.func98, Tryz.ntmps98
  go_wp2
  have HM0 : Hid (InMem w 0 0 0 ((w.alloc (.cells #[.int .i64 0, .int .i64 0, .int .i64 0, .slice none 0 0] 121)).alloc (.cells #[.int .i64 0, .int .i64 0, .int .i64 0] 144))) := by
    refine ⟨?_, ?_, ((Below.refl _ w).alloc (Nat.le_refl _) _).alloc (by simp) _, by simp⟩
    · rw [Below.heap_alloc _ _ _ (by simp)]; exact heap_alloc_new w _
    · have := heap_alloc_new (w.alloc (.cells #[.int .i64 0, .int .i64 0, .int .i64 0, .slice none 0 0] 121)) (.cells #[.int .i64 0, .int .i64 0, .int .i64 0] 144)
      rw [World.size_alloc] at this; exact this
  generalize ((w.alloc (.cells #[.int .i64 0, .int .i64 0, .int .i64 0, .slice none 0 0] 121)).alloc (.cells #[.int .i64 0, .int .i64 0, .int .i64 0] 144)) = w1 at *
  go_loopw [0, 9] (fun vb vi wr => ∃ (i ni ci : Nat) (ai : Option Addr) (bi : List UInt8) (x y z : Int), i ≤ 3 ∧ vb = .slice ai ni ci ∧ vi = .int .i64 i ∧ InAt b i bi x y z ∧ IsB wr ai ci bi ∧ bi.length = ni ∧ blockOf ai = blockOf ao ∧ InMem w x y z wr) (fun _ vi _ => 3 - (intOf vi).toNat)
  case atStart => exact ⟨0, n, cap, ao, b, 0, 0, 0, by omega, rfl, rfl, .zero, HI.out _ HM0.out.below, hn, rfl, HM0.out⟩
  case round =>
    obtain ⟨i, ni, ci, ai, bi, x, y, z, hi, rfl, rfl, hA, hBi, hni, hbl, hM⟩ := hrel
    have HA := Hid.mk' hA; have HBi := Hid.mk' hBi; have HM := Hid.mk' hM
    have hle := hA.le
    have HR := Hid.mk' (readNumber_any bi ai ci ni wr hBi hni (by omega))
    have hci := hBi.1
    obtain ⟨⟨c0, c1, c2, c3⟩, f0, f1, f2, f3⟩ := row4 hM.res
    obtain ⟨⟨d0, d1, d2⟩, e0, e1, e2⟩ := row3 hM.nums
    clear hA hBi hM
    by_cases hlt : i < 3
    · cases hr : Jn.rn bi with
      | none =>
        rw [rnOut_none hr] at HR
        have HX := Hid.mk' (HA.out.stop hlt hr)
        clear hr
        have hlt' : (i : Int) < 3 := by omega
        go_wp2_with (go_at_call 97; refine HR.out.mono ?_; rintro e w3 ⟨rfl, hw⟩; rw [hw]; clear hw)
        obtain ⟨hr4, ht4⟩ := store4 HM.out.res (.int .i64 0) (.int .i64 0) (.int .i64 0) (.slice none 0 0)
        generalize ((((wr.setCell ⟨w.heap.size, 0, none⟩ (Value.int .i64 0)).setCell ⟨w.heap.size, 1, none⟩ (Value.int .i64 0)).setCell ⟨w.heap.size, 2, none⟩ (Value.int .i64 0)).setCell ⟨w.heap.size, 3, none⟩ (Value.slice none 0 0)) = w4 at hr4 ht4 ⊢
        obtain ⟨⟨r0, r1, r2, r3⟩, _⟩ := row4 hr4
        refine bodyPost_ret (v := .tuple #[.agg #[.int .i64 0, .int .i64 0, .int .i64 0, .slice none 0 0], .bool false]) (by simp [results, Tryz.results98, go_sem, r0, r1, r2, r3]) rfl (.no HX.out (HM.out.below.trans (ht4.below (fun k e => by omega) (by have := HM.out.size; omega))))
      | some p =>
        obtain ⟨v, s⟩ := p
        rw [rnOut_some hr] at HR
        have HX := Hid.mk' (HA.out.step hlt hr)
        have hrl := Jn.rn_le hr
        obtain ⟨bb, oo, rfl, hcs⟩ := HBi.out.lit (by omega)
        clear hr hcs
        have HNe : Hid (∀ a, (if ci = s then some (⟨bb, oo, none⟩ : Addr) else some ⟨bb, oo + s, none⟩) = some a → ¬ a.block = w.heap.size + 1) := fun a e => by
          have hbb : bb ≠ w.heap.size + 1 := fun e => by have := HNb.out (by omega) bb hbl.symm; omega
          split at e <;> (injection e with e; subst e; exact hbb)
        have HBk : Hid (blockOf (if ci = s then some (⟨bb, oo, none⟩ : Addr) else some ⟨bb, oo + s, none⟩) = blockOf ao) := by
          unfold Hid; rw [← hbl]; split <;> rfl
        clear hbl
        have hlt' : (i : Int) < 3 := by omega
        have ts : ((s : Int) == 0) = false := by rw [beq_eq_false_iff_ne]; omega
        have s1 : (s : Int) ≤ ni := by omega
        have s2 : (s : Int) ≤ ci := by omega
        rcases (show i = 0 ∨ i = 1 ∨ i = 2 by omega) with rfl | rfl | rfl
        · have HMp := Hid.mk' (HM.out.put0 v)
          have HBp : Hid (IsB (wr.setCell ⟨w.heap.size + 1, 0, none⟩ (.int .i64 v)).drew (if ci = s then some ⟨bb, oo, none⟩ else some ⟨bb, oo + s, none⟩) (ci - s) (bi.drop s)) := by
            have h1 := HBi.out.cut (ao' := if ci = s then some ⟨bb, oo, none⟩ else some ⟨bb, oo + s, none⟩) s bi.length (by omega) (Nat.le_refl _) (fun e => by rw [if_neg e]; simp [Addr.add_lit])
            rw [List.take_of_length_le (by rw [List.length_drop]; omega)] at h1
            have ht : Turns (fun k => k = w.heap.size + 1) wr (wr.setCell ⟨w.heap.size + 1, 0, none⟩ (.int .i64 v)) := Turns.setCell _ wr _ _ rfl
            exact (h1.turns ht (fun a e => HNe.out a e)).stay (below_drew _ _)
          go_wp2_with (go_at_call 97; refine HR.out.mono ?_; rintro e w3 ⟨rfl, hw⟩; rw [hw]; clear hw)
          go_region
          generalize (wr.setCell ⟨w.heap.size + 1, 0, none⟩ (Value.int .i64 v)).drew = w4 at *
          generalize (if ci = s then some (⟨bb, oo, none⟩ : Addr) else some ⟨bb, oo + s, none⟩) = aj at *
          go_wp2
          go_roundw
          case rel => exact ⟨1, ni - s, ci - s, aj, bi.drop s, v, y, z, by omega, rfl, by go_num, HX.out, HBp.out, by rw [List.length_drop, hni], HBk.out, HMp.out⟩
          case measure => first | (simp [intOf]; done) | (simp [intOf]; omega)
        · have HMp := Hid.mk' (HM.out.put1 v)
          have HBp : Hid (IsB (wr.setCell ⟨w.heap.size + 1, 1, none⟩ (.int .i64 v)).drew (if ci = s then some ⟨bb, oo, none⟩ else some ⟨bb, oo + s, none⟩) (ci - s) (bi.drop s)) := by
            have h1 := HBi.out.cut (ao' := if ci = s then some ⟨bb, oo, none⟩ else some ⟨bb, oo + s, none⟩) s bi.length (by omega) (Nat.le_refl _) (fun e => by rw [if_neg e]; simp [Addr.add_lit])
            rw [List.take_of_length_le (by rw [List.length_drop]; omega)] at h1
            have ht : Turns (fun k => k = w.heap.size + 1) wr (wr.setCell ⟨w.heap.size + 1, 1, none⟩ (.int .i64 v)) := Turns.setCell _ wr _ _ rfl
            exact (h1.turns ht (fun a e => HNe.out a e)).stay (below_drew _ _)
          go_wp2_with (go_at_call 97; refine HR.out.mono ?_; rintro e w3 ⟨rfl, hw⟩; rw [hw]; clear hw)
          go_region
          generalize (wr.setCell ⟨w.heap.size + 1, 1, none⟩ (Value.int .i64 v)).drew = w4 at *
          generalize (if ci = s then some (⟨bb, oo, none⟩ : Addr) else some ⟨bb, oo + s, none⟩) = aj at *
          go_wp2
          go_roundw
          case rel => exact ⟨2, ni - s, ci - s, aj, bi.drop s, x, v, z, by omega, rfl, by go_num, HX.out, HBp.out, by rw [List.length_drop, hni], HBk.out, HMp.out⟩
          case measure => first | (simp [intOf]; done) | (simp [intOf]; omega)
        · have HMp := Hid.mk' (HM.out.put2 v)
          have HBp : Hid (IsB (wr.setCell ⟨w.heap.size + 1, 2, none⟩ (.int .i64 v)).drew (if ci = s then some ⟨bb, oo, none⟩ else some ⟨bb, oo + s, none⟩) (ci - s) (bi.drop s)) := by
            have h1 := HBi.out.cut (ao' := if ci = s then some ⟨bb, oo, none⟩ else some ⟨bb, oo + s, none⟩) s bi.length (by omega) (Nat.le_refl _) (fun e => by rw [if_neg e]; simp [Addr.add_lit])
            rw [List.take_of_length_le (by rw [List.length_drop]; omega)] at h1
            have ht : Turns (fun k => k = w.heap.size + 1) wr (wr.setCell ⟨w.heap.size + 1, 2, none⟩ (.int .i64 v)) := Turns.setCell _ wr _ _ rfl
            exact (h1.turns ht (fun a e => HNe.out a e)).stay (below_drew _ _)
          go_wp2_with (go_at_call 97; refine HR.out.mono ?_; rintro e w3 ⟨rfl, hw⟩; rw [hw]; clear hw)
          go_region
          generalize (wr.setCell ⟨w.heap.size + 1, 2, none⟩ (Value.int .i64 v)).drew = w4 at *
          generalize (if ci = s then some (⟨bb, oo, none⟩ : Addr) else some ⟨bb, oo + s, none⟩) = aj at *
          go_wp2
          go_roundw
          case rel => exact ⟨3, ni - s, ci - s, aj, bi.drop s, x, y, v, by omega, rfl, by go_num, HX.out, HBp.out, by rw [List.length_drop, hni], HBk.out, HMp.out⟩
          case measure => first | (simp [intOf]; done) | (simp [intOf]; omega)
    · obtain rfl : i = 3 := by omega
      have HE := Hid.mk' HA.out.end_
      have hs := HM.out.size
      have HBb : Hid (Below wr.heap.size wr (wr.alloc (.cells #[.int .i64 x, .int .i64 y, .int .i64 z, .slice ai ni ci] 121))) := (Below.refl _ wr).alloc (Nat.le_refl _) _
      have HF := Hid.mk' (fun W => fitsJ_any ⟨x, y, z, bi⟩ ai ni ci hni W)
      dsimp only at HF
      have hs2 : (wr.alloc (.cells #[.int .i64 x, .int .i64 y, .int .i64 z, .slice ai ni ci] 121)).heap.size = w.heap.size + 3 := by rw [World.size_alloc, hs]
      have HRow : Hid (∀ W, Below (w.heap.size + 3) (wr.alloc (.cells #[.int .i64 x, .int .i64 y, .int .i64 z, .slice ai ni ci] 121)) W → W.heap[w.heap.size]? = some (.cells #[.int .i64 0, .int .i64 0, .int .i64 0, .slice none 0 0] 121 (0, 0)) ∧ W.heap[w.heap.size + 2]? = some (.cells #[.int .i64 x, .int .i64 y, .int .i64 z, .slice ai ni ci] 121 (0, 0)) ∧ IsB W ai ci bi ∧ Below w.heap.size w W) := fun W hW => by
        refine ⟨(hW.block _ (by omega)).trans ((Below.heap_alloc _ _ _ (by omega)).trans HM.out.res), (hW.block _ (by omega)).trans ?_, HBi.out.stay (HBb.out.trans (hW.mono (by omega))), HM.out.below.trans ((HBb.out.trans (hW.mono (by omega))).mono (by omega))⟩
        have := heap_alloc_new wr (.cells #[.int .i64 x, .int .i64 y, .int .i64 z, .slice ai ni ci] 121)
        rw [hs] at this; exact this
      have HF1 := Hid.mk' (HF.out (wr.alloc (.cells #[.int .i64 x, .int .i64 y, .int .i64 z, .slice ai ni ci] 121)))
      rw [hs2] at HF1
      have hnn : ni ≤ 1000000000 := by omega
      clear HF HR hlt hle
      cases hf : Jn.fits ⟨x, y, z, bi⟩ with
      | false =>
        have HN : Hid (Jn.inner b = none) := by unfold Hid; rw [HE.out, if_neg (by simp [hf])]
        rw [hf] at HF1
        clear hf HE
        go_upto_region 12 with (go_at_call 129; refine HF1.out.mono ?_; rintro e w3 ⟨rfl, hb3⟩; have HB3 := Hid.mk' hb3; clear hb3)
        obtain ⟨hr3, _, _, hb⟩ := HRow.out w3 HB3.out
        have HBw := Hid.mk' hb
        have HR3 := Hid.mk' hr3
        obtain ⟨⟨a0, a1, a2, a3⟩, g0, g1, g2, g3⟩ := row4 hr3
        clear hr3 hb
        go_wp2
        obtain ⟨hr4, ht4⟩ := store4 HR3.out (.int .i64 0) (.int .i64 0) (.int .i64 0) (.slice none 0 0)
        generalize ((((w3.setCell ⟨w.heap.size, 0, none⟩ (Value.int .i64 0)).setCell ⟨w.heap.size, 1, none⟩ (Value.int .i64 0)).setCell ⟨w.heap.size, 2, none⟩ (Value.int .i64 0)).setCell ⟨w.heap.size, 3, none⟩ (Value.slice none 0 0)) = w4 at hr4 ht4 ⊢
        obtain ⟨⟨r0, r1, r2, r3⟩, _⟩ := row4 hr4
        refine bodyPost_ret (v := .tuple #[.agg #[.int .i64 0, .int .i64 0, .int .i64 0, .slice none 0 0], .bool false]) (by simp [results, Tryz.results98, go_sem, r0, r1, r2, r3]) rfl (.no HN.out (HBw.out.trans (ht4.below (fun k e => by omega) HBw.out.size)))
      | true =>
        have HY : Hid (Jn.inner b = some ⟨x, y, z, bi⟩) := by unfold Hid; rw [HE.out, if_pos hf]
        rw [hf] at HF1
        obtain ⟨i0, hi0, hz0, hz1, hz2⟩ := info_parts info_u8
        have Hi := Hid.mk' hi0; have Hz0 := Hid.mk' hz0; have Hz1 := Hid.mk' hz1; have Hz2 := Hid.mk' hz2
        clear hf HE hi0 hz0 hz1 hz2
        go_upto_region 13 with (go_at_call 129; refine HF1.out.mono ?_; rintro e w3 ⟨rfl, hb3⟩; have HB3 := Hid.mk' hb3; clear hb3)
        obtain ⟨hr3, hq3, hI3, hb⟩ := HRow.out w3 HB3.out
        have HI3 := Hid.mk' hI3
        have hz3 : w.heap.size + 3 ≤ w3.heap.size := by have := HB3.out.size; omega
        have HAp : Hid (∀ w4, Turns (fun k => blkB [] none = some k) w3 w4 → Below w3.heap.size w3 w4 ∧ (w4.heap[w.heap.size]? = some (.cells #[.int .i64 0, .int .i64 0, .int .i64 0, .slice none 0 0] 121 (0, 0)) ∧ w4.heap[w.heap.size + 2]? = some (.cells #[.int .i64 x, .int .i64 y, .int .i64 z, .slice ai ni ci] 121 (0, 0)))) := fun w4 ht => by
          have hb4 : Below w3.heap.size w3 w4 := ht.below (fun k e => by simp [blkB] at e) (Nat.le_refl _)
          exact ⟨hb4, (hb4.block _ (by omega)).trans hr3, (hb4.block _ (by omega)).trans hq3⟩
        have HBw := Hid.mk' hb
        clear hr3 hb hq3 hI3
        go_upto_region 14 with (at_builtin; refine wpList_append_grown (S := fun _ => False) rfl (.const (.slice none 0 0)) (.tmp 39) 30 rfl 5 i0 Tryz.underlying30 Hi.out Hz0.out Hz1.out Hz2.out (l := []) rfl rfl (GrowB.nil _ _ _) rfl HI3.out hni (by omega) ?_; intro bo4 bc4 w4 hO4 hT4; obtain ⟨hb4, hr4, hq4⟩ := HAp.out w4 hT4; have HR4 := Hid.mk' hr4; have HQ4 := Hid.mk' hq4; obtain ⟨⟨k0, k1, k2, k3⟩, l0, l1, l2, l3⟩ := row4 hq4; have HB4 := Hid.mk' hb4; have HO4 := Hid.mk' hO4; clear hO4 hT4 hb4 hr4 hq4)
        have ht5 : Turns (fun k => k = w.heap.size + 2) w4 (w4.setCell ⟨w.heap.size + 2, 3, none⟩ (.slice bo4 ni bc4)) := Turns.setCell _ w4 _ _ rfl
        have hq5 := heap_setCell_same w4 (w.heap.size + 2) 3 _ _ (.slice bo4 ni bc4) HQ4.out
        have hr5 := ht5.row HR4.out (by omega)
        have HO5 : Hid (IsBS (w4.setCell ⟨w.heap.size + 2, 3, none⟩ (.slice bo4 ni bc4)) (fun k => w3.heap.size ≤ k) bo4 bc4 bi) := by
          have h1 := HO4.out
          rw [List.nil_append] at h1
          refine (h1.isBS.mono (S' := fun k => w3.heap.size ≤ k) (fun k _ e => ?_)).turns ht5 (fun k e e2 => by omega)
          rcases e with e | e
          · simp [blkB] at e
          · exact e
        have HB5 : Hid (Below w.heap.size w (w4.setCell ⟨w.heap.size + 2, 3, none⟩ (.slice bo4 ni bc4))) := (HBw.out.trans (HB4.out.mono (by omega))).trans (ht5.below (fun k e => by omega) (by have := HB4.out.size; omega))
        generalize w4.setCell ⟨w.heap.size + 2, 3, none⟩ (.slice bo4 ni bc4) = w5 at *
        obtain ⟨⟨m0, m1, m2, m3⟩, _⟩ := row4 hq5
        obtain ⟨⟨p0, p1, p2, p3⟩, q0, q1, q2, q3⟩ := row4 hr5
        have HR5 := Hid.mk' hr5
        clear hr5 hq5 ht5 HQ4 HR4 HO4 k0 k1 k2 k3 l0 l1 l2 l3
        go_wp2
        obtain ⟨hr6, ht6⟩ := store4 HR5.out (.int .i64 x) (.int .i64 y) (.int .i64 z) (.slice bo4 ni bc4)
        generalize ((((w5.setCell ⟨w.heap.size, 0, none⟩ (Value.int .i64 x)).setCell ⟨w.heap.size, 1, none⟩ (Value.int .i64 y)).setCell ⟨w.heap.size, 2, none⟩ (Value.int .i64 z)).setCell ⟨w.heap.size, 3, none⟩ (Value.slice bo4 ni bc4)) = w6 at hr6 ht6 ⊢
        obtain ⟨⟨r0, r1, r2, r3⟩, _⟩ := row4 hr6
        have hy := InnOut.yes (w := w) (b := b) (w' := w6) ⟨x, y, z, bi⟩ bo4 bc4 HY.out ((HO5.out.turns ht6 (fun k e e2 => by omega)).mono (fun k _ e => by omega)) (HB5.out.trans (ht6.below (fun k e => by omega) HB5.out.size))
        dsimp only at hy
        rw [hni] at hy
        refine bodyPost_ret (v := .tuple #[.agg #[.int .i64 x, .int .i64 y, .int .i64 z, .slice bo4 ni bc4], .bool true]) (by simp [results, Tryz.results98, go_sem, r0, r1, r2, r3]) rfl hy
end Go.Proofs.YtdclmpdjjkjfjaaGreatDoor

/- A log of bytes, as an object: what it holds in memory; package journal, walked: New, Sure, Room, Bytes, Sync. -/
namespace Go.Proofs.YtdclmpdjjkjfjaaGreatDoor
open Go.RowKit

/-- a log at block g: its bytes in a row of its own among the blocks from base on, and how many are made sure of -/
structure LogAt (w : World) (base g : Nat) (b : List UInt8) (sure : Nat) (ao : Option Addr) (ca : Nat) : Prop where
  row : w.heap[g]? = some (.cells #[.slice ao b.length ca, .int .i64 (sure : Int)] 98 (0, 0))
  own : OwnB w base 5 ao ca b
  low : base ≤ g
  le : sure ≤ b.length
  few : b.length ≤ 100000
theorem row2 {W : World} {g t : Nat} {c0 c1 : Value} (h : W.heap[g]? = some (.cells #[c0, c1] t (0, 0))) : (W.cell? ⟨g, 0, none⟩ = some c0 ∧ W.cell? ⟨g, 1, none⟩ = some c1) ∧ (W.frozen? ⟨g, 0, none⟩ = false ∧ W.frozen? ⟨g, 1, none⟩ = false) :=
  ⟨⟨cell_of_row W g 0 _ _ _ h, cell_of_row W g 1 _ _ _ h⟩, frozen_of_row W g 0 _ _ h, frozen_of_row W g 1 _ _ h⟩
section
variable {w w' : World} {base g : Nat} {b : List UInt8} {sure : Nat} {ao : Option Addr} {ca : Nat}
theorem LogAt.stay (h : LogAt w base g b sure ao ca) (hb : Below w.heap.size w w') : LogAt w' base g b sure ao ca := ⟨(hb.block g (Array.getElem?_eq_some_iff.1 h.row).1).trans h.row, h.own.stay hb, h.low, h.le, h.few⟩
theorem LogAt.lt (h : LogAt w base g b sure ao ca) : g < w.heap.size := (Array.getElem?_eq_some_iff.1 h.row).1
theorem t_log : (98 : Nat) ≠ 5 := by decide
/-- its bytes lie apart from it -/
theorem LogAt.apart (h : LogAt w base g b sure ao ca) : ∀ a, ao = some a → a.block ≠ g := by
  intro a e e2
  have := row_ne h.row h.own t_log
  rw [ownBlock_slice, e] at this
  exact this (by rw [← e2]; rfl)
theorem newLog_any (w : World) : Calls Tryz.prog 26 #[] w fun e w' => e = .returned (.pointer (some ⟨w.heap.size, 0, none⟩)) ∧ LogAt w' w.heap.size w.heap.size [] 0 none 0 ∧ Below w.heap.size w w' := by
  have H : Hid (LogAt (w.alloc (.cells #[.slice none 0 0, .int .i64 0] 98)) w.heap.size w.heap.size [] 0 none 0 ∧ Below w.heap.size w (w.alloc (.cells #[.slice none 0 0, .int .i64 0] 98))) :=
    ⟨⟨heap_alloc_new w _, OwnB.nil _ _ _, Nat.le_refl _, Nat.le_refl _, by decide⟩, (Below.refl _ w).alloc (Nat.le_refl _) _⟩
  go_enter Tryz.func26, Tryz.ntmps26
  go_wp2
  go_ret
  exact ⟨rfl, H.out⟩
theorem sureLog_any (h : LogAt w base g b sure ao ca) : Calls Tryz.prog 38 #[.pointer (some ⟨g, 0, none⟩)] w fun e w' => e = .returned (.int .i64 (sure : Int)) ∧ w' = w := by
  obtain ⟨⟨c0, c1⟩, _⟩ := row2 h.row
  clear h
  go_enter Tryz.func38, Tryz.ntmps38
  go_wp2
  go_ret
  exact ⟨rfl, rfl⟩
theorem roomLog_any (h : LogAt w base g b sure ao ca) (n : Int) : Calls Tryz.prog 114 #[.pointer (some ⟨g, 0, none⟩), .int .i64 n] w fun e w' => e = .returned (.bool (decide (0 ≤ n) && decide (n ≤ 100000 - (b.length : Int)))) ∧ w' = w := by
  obtain ⟨⟨c0, c1⟩, _⟩ := row2 h.row
  have hfew := h.few
  have hw : IntKind.i64.wrap (100000 - (b.length : Int)) = 100000 - (b.length : Int) := wrap_id (by omega) (by omega)
  clear h
  generalize b.length = m at *
  by_cases h1 : 0 ≤ n
  · by_cases h2 : n ≤ 100000 - (m : Int)
    · have HR : Hid ((decide (0 ≤ n) && decide (n ≤ 100000 - (m : Int))) = true) := by unfold Hid; rw [decide_eq_true h1, decide_eq_true h2]; rfl
      generalize (decide (0 ≤ n) && decide (n ≤ 100000 - (m : Int))) = r at *
      go_enter Tryz.func114, Tryz.ntmps114
      go_wp2
      go_ret
      exact ⟨by rw [HR.out]; first | rfl | simp, rfl⟩
    · have HR : Hid ((decide (0 ≤ n) && decide (n ≤ 100000 - (m : Int))) = false) := by unfold Hid; rw [decide_eq_false h2]; simp
      generalize (decide (0 ≤ n) && decide (n ≤ 100000 - (m : Int))) = r at *
      go_enter Tryz.func114, Tryz.ntmps114
      go_wp2
      go_ret
      exact ⟨by rw [HR.out]; first | rfl | (simp; done) | (simp; omega), rfl⟩
  · have HR : Hid ((decide (0 ≤ n) && decide (n ≤ 100000 - (m : Int))) = false) := by unfold Hid; rw [decide_eq_false h1]; rfl
    generalize (decide (0 ≤ n) && decide (n ≤ 100000 - (m : Int))) = r at *
    go_enter Tryz.func114, Tryz.ntmps114
    go_wp2
    go_ret
    exact ⟨by rw [HR.out]; first | rfl | simp, rfl⟩
theorem OwnB.less {t : Nat} (h : OwnB w base t ao ca b) (n : Nat) (hn : n ≤ b.length) : OwnB w base t ao ca (b.take n) := by
  have hl : (b.take n).length = n := by rw [List.length_take]; omega
  have e : byteV (b.take n) = (byteV b).take n := by unfold byteV; rw [List.map_take]
  unfold OwnB
  rw [hl, e]
  refine ⟨by rw [List.length_take, byteV_length]; omega, ?_⟩
  rcases h.2 with ⟨e1, h0⟩ | ⟨g, cap', cur, e1, hg, hh, hn', hm, hs, ht⟩
  · left
    injection e1 with e1 _ e3
    subst e1; subst e3
    have : n = 0 := by omega
    subst this
    exact ⟨rfl, rfl⟩
  · right
    injection e1 with e1 _ e3
    subst e1; subst e3
    refine ⟨g, ca, cur, rfl, hg, hh, by omega, hm, hs, ?_⟩
    rw [← ht, List.take_take]
    congr 1
    omega
theorem bytesLog_any (h : LogAt w base g b sure ao ca) : Calls Tryz.prog 37 #[.pointer (some ⟨g, 0, none⟩)] w fun e w' => ∃ ao' ca', e = .returned (.slice ao' b.length ca') ∧ IsB w' ao' ca' b ∧ Below w.heap.size w w' := by
  obtain ⟨⟨c0, c1⟩, _⟩ := row2 h.row
  have HI := Hid.mk' h.own.isB
  have hfew := h.few
  obtain ⟨i0, hi0, hz0, hz1, hz2⟩ := info_parts info_u8
  have Hi := Hid.mk' hi0; have Hz0 := Hid.mk' hz0; have Hz1 := Hid.mk' hz1; have Hz2 := Hid.mk' hz2
  clear h hi0 hz0 hz1 hz2
  obtain ⟨m, hm⟩ : ∃ m, b.length = m := ⟨_, rfl⟩
  rw [hm] at c0 hfew
  have HM := Hid.mk' hm
  rw [hm]
  clear hm
  go_enter Tryz.func37, Tryz.ntmps37
  go_wp2_with (at_builtin; refine wpList_append_grown (S := fun _ => False) rfl (.const (.slice none 0 0)) (.tmp 6) 30 rfl 5 i0 Tryz.underlying30 Hi.out Hz0.out Hz1.out Hz2.out (l := []) rfl rfl (GrowB.nil _ _ _) rfl HI.out HM.out (by omega) ?_; intro bo4 bc4 w4 hO4 hT4; have HO4 := Hid.mk' hO4.isB; have HB4 : Hid (Below w.heap.size w w4) := hT4.below (fun k e => by simp [blkB] at e) (Nat.le_refl _); clear hO4 hT4)
  go_ret
  exact ⟨bo4, bc4, by first | rfl | simp, by have := HO4.out; rwa [List.nil_append] at this, HB4.out⟩
theorem LogAt.put (h : LogAt w base g b sure ao ca) (n : Nat) (hn : n ≤ b.length) : LogAt (w.setCell ⟨g, 1, none⟩ (.int .i64 (n : Int))) base g b n ao ca ∧ Turns (fun k => k = g) w (w.setCell ⟨g, 1, none⟩ (.int .i64 (n : Int))) := by
  have ht : Turns (fun k => k = g) w (w.setCell ⟨g, 1, none⟩ (.int .i64 (n : Int))) := Turns.setCell _ w _ _ rfl
  exact ⟨⟨heap_setCell_same w g 1 _ _ _ h.row, h.own.turns ht h.apart, h.low, hn, h.few⟩, ht⟩
theorem syncLog_any (h : LogAt w base g b sure ao ca) : Calls Tryz.prog 68 #[.pointer (some ⟨g, 0, none⟩)] w fun e w' => e = .returned (.tuple #[]) ∧ LogAt w' base g b b.length ao ca ∧ Turns (fun k => k = g) w w' := by
  obtain ⟨⟨c0, c1⟩, f0, f1⟩ := row2 h.row
  have HP := Hid.mk' (h.put b.length (Nat.le_refl _))
  clear h
  generalize b.length = m at *
  go_enter Tryz.func68, Tryz.ntmps68
  go_wp2
  go_end0
  exact ⟨rfl, HP.out⟩
/-- cut off behind n bytes -/
theorem LogAt.cut (h : LogAt w base g b sure ao ca) (n : Nat) (hn : n ≤ b.length) : LogAt ((w.setCell ⟨g, 0, none⟩ (.slice ao n ca)).setCell ⟨g, 1, none⟩ (.int .i64 ((min sure n : Nat) : Int))) base g (b.take n) (min sure n) ao ca ∧ Turns (fun k => k = g) w ((w.setCell ⟨g, 0, none⟩ (.slice ao n ca)).setCell ⟨g, 1, none⟩ (.int .i64 ((min sure n : Nat) : Int))) := by
  have t1 : Turns (fun k => k = g) w (w.setCell ⟨g, 0, none⟩ (.slice ao n ca)) := Turns.setCell _ w _ _ rfl
  have t2 : Turns (fun k => k = g) (w.setCell ⟨g, 0, none⟩ (.slice ao n ca)) ((w.setCell ⟨g, 0, none⟩ (.slice ao n ca)).setCell ⟨g, 1, none⟩ (.int .i64 ((min sure n : Nat) : Int))) := Turns.setCell _ _ _ _ rfl
  have ht := t1.trans t2 (fun _ e _ => e)
  have hl : (b.take n).length = n := by rw [List.length_take]; omega
  have hr := heap_setCell_same _ g 1 _ _ (.int .i64 ((min sure n : Nat) : Int)) (heap_setCell_same w g 0 _ _ (.slice ao n ca) h.row)
  refine ⟨⟨by rw [hl]; exact hr, (h.own.turns ht h.apart).less n hn, h.low, by rw [hl]; omega, by rw [hl]; have := h.few; omega⟩, ht⟩
theorem cutLog_no (h : LogAt w base g b sure ao ca) (n : Int) (hn : ¬ (0 ≤ n ∧ n < b.length)) : Calls Tryz.prog 47 #[.pointer (some ⟨g, 0, none⟩), .int .i64 n] w fun e w' => e = .returned (.tuple #[]) ∧ w' = w := by
  obtain ⟨⟨c0, c1⟩, f0, f1⟩ := row2 h.row
  clear h
  generalize b.length = m at *
  by_cases h1 : n < 0
  · clear hn
    go_enter Tryz.func47, Tryz.ntmps47
    go_wp2
    refine bodyPost_ret (results_none rfl _ _ _) rfl ?_
    exact ⟨rfl, rfl⟩
  · have h2 : (m : Int) ≤ n := by omega
    clear hn
    go_enter Tryz.func47, Tryz.ntmps47
    go_wp2
    refine bodyPost_ret (results_none rfl _ _ _) rfl ?_
    exact ⟨rfl, rfl⟩
theorem cutLog_yes (h : LogAt w base g b sure ao ca) (n : Nat) (hn : n < b.length) : Calls Tryz.prog 47 #[.pointer (some ⟨g, 0, none⟩), .int .i64 (n : Int)] w fun e w' => e = .returned (.tuple #[]) ∧ LogAt w' base g (b.take n) (min sure n) ao ca ∧ Turns (fun k => k = g) w w' := by
  obtain ⟨⟨c0, c1⟩, f0, f1⟩ := row2 h.row
  have HP := Hid.mk' (h.cut n (by omega))
  have hca := h.own.isB.1
  clear h
  have h1 : ¬ (n : Int) < 0 := by omega
  have h2 : ¬ (b.length : Int) ≤ n := by omega
  have h3 : (n : Int) ≤ ca := by omega
  generalize b.length = m at *
  have h4 : (n : Int) ≤ m := by omega
  by_cases hs : n < sure
  · have em : min sure n = n := by omega
    have hs' : (n : Int) < sure := by omega
    rw [em] at HP ⊢
    go_enter Tryz.func47, Tryz.ntmps47
    go_wp2
    go_end0
    exact ⟨rfl, HP.out⟩
  · have em : min sure n = sure := by omega
    have hs' : ¬ (n : Int) < sure := by omega
    rw [em] at HP ⊢
    go_enter Tryz.func47, Tryz.ntmps47
    go_wp2
    go_end0
    exact ⟨rfl, HP.out⟩
end
end Go.Proofs.YtdclmpdjjkjfjaaGreatDoor

/- Package journal, walked: an entry that is read, with how many bytes follow. -/
namespace Go.Proofs.YtdclmpdjjkjfjaaGreatDoor
open Go.RowKit

/-- what is answered -/
inductive OneOut (w : World) (b : List UInt8) : Ending → World → Prop
  | no {w'} : Jn.one b = none → Below w.heap.size w w' → OneOut w b (.returned (.tuple #[.agg #[.int .i64 0, .int .i64 0, .int .i64 0, .slice none 0 0], .int .i64 0])) w'
  | yes {w'} (e : Jn.E) (s : Nat) (ta : Option Addr) (tc : Nat) : Jn.one b = some (e, s) → IsBS w' (fun k => w.heap.size ≤ k) ta tc e.text → Below w.heap.size w w' → OneOut w b (.returned (.tuple #[.agg #[.int .i64 e.kind, .int .i64 e.id, .int .i64 e.n, .slice ta e.text.length tc], .int .i64 (s : Int)])) w'
theorem one_of_none {b : List UInt8} (h : Jn.rn b = none) : Jn.one b = none := by unfold Jn.one; rw [h]
theorem one_of_far {b : List UInt8} {x : Int} {s : Nat} (h : Jn.rn b = some (x, s)) (hx : ¬ (0 ≤ x ∧ x ≤ (b.length : Int) - s)) : Jn.one b = none := by unfold Jn.one; rw [h]; simp only; rw [if_neg hx]
theorem one_of_some {b : List UInt8} {x : Int} {s : Nat} (h : Jn.rn b = some (x, s)) (hx : 0 ≤ x ∧ x ≤ (b.length : Int) - s) : Jn.one b = (Jn.inner ((b.drop s).take x.toNat)).map fun e => (e, s + x.toNat) := by unfold Jn.one; rw [h]; simp only; rw [if_pos hx]
theorem size_store4 (W : World) (g : Nat) (a b c d : Value) : ((((W.setCell ⟨g, 0, none⟩ a).setCell ⟨g, 1, none⟩ b).setCell ⟨g, 2, none⟩ c).setCell ⟨g, 3, none⟩ d).heap.size = W.heap.size := by simp [World.setCell]

set_option maxRecDepth 100000 in
set_option maxHeartbeats 2000000 in
theorem readEntry_any (b : List UInt8) (ao : Option Addr) (cap n : Nat) (w : World) (hB : IsB w ao cap b) (hn : b.length = n) (hN : n ≤ 1000000000) :
    Calls Tryz.prog 69 #[.slice ao n cap] w fun e w' => OneOut w b e w' := by
  have hb1 : Below w.heap.size w (w.alloc (.cells #[.int .i64 0, .int .i64 0, .int .i64 0, .slice none 0 0] 121)) := (Below.refl _ w).alloc (Nat.le_refl _) _
  have hs1 : (w.alloc (.cells #[.int .i64 0, .int .i64 0, .int .i64 0, .slice none 0 0] 121)).heap.size = w.heap.size + 1 := by simp
  have HR := Hid.mk' (readNumber_any b ao cap n _ (hB.stay hb1) hn hN)
  have hcap := hB.1
  have HRw : Hid (∀ W, Below (w.heap.size + 1) (w.alloc (.cells #[.int .i64 0, .int .i64 0, .int .i64 0, .slice none 0 0] 121)) W → W.heap[w.heap.size]? = some (.cells #[.int .i64 0, .int .i64 0, .int .i64 0, .slice none 0 0] 121 (0, 0)) ∧ Below w.heap.size w W ∧ IsB W ao cap b) := fun W hW =>
    ⟨(hW.block _ (by omega)).trans (heap_alloc_new w _), hb1.trans (hW.mono (by omega)), hB.stay (hb1.trans (hW.mono (by omega)))⟩
  have HZ := Hid.mk' hs1
  clear hB hb1 hs1
  have h1 := HRw.out _ (Below.refl _ _)
  obtain ⟨⟨c0, c1, c2, c3⟩, f0, f1, f2, f3⟩ := row4 h1.1
  have HR1 := Hid.mk' h1.1
  have HB1 := Hid.mk' h1.2.1
  have HI1 := Hid.mk' h1.2.2
  clear h1
  go_enter Tryz.func69, Tryz.ntmps69
  go_upto_region 1 with fail
  generalize w.alloc (.cells #[.int .i64 0, .int .i64 0, .int .i64 0, .slice none 0 0] 121) = w1 at *
  cases hr : Jn.rn b with
  | none =>
    rw [rnOut_none hr] at HR
    have HX := Hid.mk' (one_of_none hr)
    clear hr
    go_wp2_with (go_at_call 97; refine HR.out.mono ?_; rintro e w3 ⟨rfl, hw⟩; rw [hw]; clear hw)
    obtain ⟨hr4, ht4⟩ := store4 HR1.out (.int .i64 0) (.int .i64 0) (.int .i64 0) (.slice none 0 0)
    generalize ((((w1.setCell ⟨w.heap.size, 0, none⟩ (Value.int .i64 0)).setCell ⟨w.heap.size, 1, none⟩ (Value.int .i64 0)).setCell ⟨w.heap.size, 2, none⟩ (Value.int .i64 0)).setCell ⟨w.heap.size, 3, none⟩ (Value.slice none 0 0)) = w4 at hr4 ht4 ⊢
    obtain ⟨⟨r0, r1, r2, r3⟩, _⟩ := row4 hr4
    refine bodyPost_ret (v := .tuple #[.agg #[.int .i64 0, .int .i64 0, .int .i64 0, .slice none 0 0], .int .i64 0]) (by simp [results, Tryz.results69, go_sem, r0, r1, r2, r3]) rfl (.no HX.out (HB1.out.trans (ht4.below (fun k e => by omega) HB1.out.size)))
  | some p =>
    obtain ⟨x, s⟩ := p
    rw [rnOut_some hr] at HR
    have hrl := Jn.rn_le hr
    have ts : ((s : Int) == 0) = false := by rw [beq_eq_false_iff_ne]; omega
    have hws : IntKind.i64.wrap ((n : Int) - s) = (n : Int) - s := wrap_id (by omega) (by omega)
    by_cases hx : 0 ≤ x ∧ x ≤ (n : Int) - s
    · have HX := Hid.mk' (one_of_some hr (by rw [hn]; exact hx))
      obtain ⟨hx0, hx1⟩ := hx
      obtain ⟨m, rfl⟩ : ∃ m : Nat, x = m := ⟨x.toNat, by omega⟩
      rw [Int.toNat_natCast] at HX
      clear hr
      obtain ⟨bb, oo, rfl, hcs⟩ := HI1.out.lit (by omega)
      clear hcs
      have t1 : ¬ (m : Int) < 0 := by omega
      have t2 : ¬ (n : Int) - s < m := by omega
      have i1 : (s : Int) ≤ (s : Int) + m := by omega
      have i2 : (s : Int) + m ≤ cap := by omega
      have hwm : IntKind.i64.wrap ((s : Int) + m) = (s : Int) + m := wrap_id (by omega) (by omega)
      have hsb : (s : Int) ≤ cap := by omega
      have i3 : ((s : Int) + m).toNat = s + m := by omega
      have HIn : Hid (∀ W, Below (w.heap.size + 1) w1 W → Calls Tryz.prog 98 #[.slice (if cap = s then some ⟨bb, oo, none⟩ else some ⟨bb, oo + s, none⟩) m (cap - s)] W fun e w' => InnOut W ((b.drop s).take m) e w') := fun W hW => by
        have h1 := (HRw.out W hW).2.2.cut (ao' := if cap = s then some ⟨bb, oo, none⟩ else some ⟨bb, oo + s, none⟩) s (s + m) (by omega) (by omega) (fun e => by rw [if_neg e]; simp [Addr.add_lit])
        rw [show s + m - s = m by omega] at h1
        exact readInner_any _ _ _ m W h1 (by rw [List.length_take, List.length_drop]; omega) (by omega)
      cases hin : Jn.inner ((b.drop s).take m) with
      | none =>
        have HN : Hid (Jn.one b = none) := by unfold Hid; rw [HX.out, hin]; rfl
        have HI2 : Hid (Calls Tryz.prog 98 #[.slice (if cap = s then some ⟨bb, oo, none⟩ else some ⟨bb, oo + s, none⟩) m (cap - s)] w1 fun e w' => e = .returned (.tuple #[.agg #[.int .i64 0, .int .i64 0, .int .i64 0, .slice none 0 0], .bool false]) ∧ Below w1.heap.size w1 w') := (HIn.out w1 (Below.refl _ _)).mono fun e w' h => by
          cases h with
          | no h1 h2 => exact ⟨rfl, h2⟩
          | yes q ta tc h1 _ _ => rw [hin] at h1; cases h1
        clear hin HIn HX
        go_upto_region 6 with (first
          | (go_at_call 97; refine HR.out.mono ?_; rintro e w3 ⟨rfl, hw⟩; rw [hw]; clear hw)
          | (go_at_call 98; refine HI2.out.mono ?_; rintro e w3 ⟨rfl, hb3⟩; have HB3 := Hid.mk' hb3; clear hb3))
        generalize (if cap = s then some (⟨bb, oo, none⟩ : Addr) else some ⟨bb, oo + s, none⟩) = aj at *
        have hb4 : Below (w.heap.size + 1) w1 (w3.alloc (.cells #[.int .i64 0, .int .i64 0, .int .i64 0, .slice none 0 0] 121)) := by
          rw [← HZ.out]; exact HB3.out.alloc HB3.out.size _
        generalize w3.alloc (.cells #[.int .i64 0, .int .i64 0, .int .i64 0, .slice none 0 0] 121) = w4 at *
        obtain ⟨hr4, hbw, _⟩ := HRw.out w4 hb4
        have HR4 := Hid.mk' hr4; have HBw := Hid.mk' hbw
        obtain ⟨⟨a0, a1, a2, a3⟩, g0, g1, g2, g3⟩ := row4 hr4
        clear hr4 hbw hb4
        go_wp2
        obtain ⟨hr5, ht5⟩ := store4 HR4.out (.int .i64 0) (.int .i64 0) (.int .i64 0) (.slice none 0 0)
        generalize ((((w4.setCell ⟨w.heap.size, 0, none⟩ (Value.int .i64 0)).setCell ⟨w.heap.size, 1, none⟩ (Value.int .i64 0)).setCell ⟨w.heap.size, 2, none⟩ (Value.int .i64 0)).setCell ⟨w.heap.size, 3, none⟩ (Value.slice none 0 0)) = w5 at hr5 ht5 ⊢
        obtain ⟨⟨r0, r1, r2, r3⟩, _⟩ := row4 hr5
        refine bodyPost_ret (v := .tuple #[.agg #[.int .i64 0, .int .i64 0, .int .i64 0, .slice none 0 0], .int .i64 0]) (by simp [results, Tryz.results69, go_sem, r0, r1, r2, r3]) rfl (.no HN.out (HBw.out.trans (ht5.below (fun k e => by omega) HBw.out.size)))
      | some q =>
        have HN : Hid (Jn.one b = some (q, s + m)) := by unfold Hid; rw [HX.out, hin]; rfl
        have HI2 : Hid (Calls Tryz.prog 98 #[.slice (if cap = s then some ⟨bb, oo, none⟩ else some ⟨bb, oo + s, none⟩) m (cap - s)] w1 fun e w' => ∃ ta tc, e = .returned (.tuple #[.agg #[.int .i64 q.kind, .int .i64 q.id, .int .i64 q.n, .slice ta q.text.length tc], .bool true]) ∧ IsBS w' (fun k => w1.heap.size ≤ k) ta tc q.text ∧ Below w1.heap.size w1 w') := (HIn.out w1 (Below.refl _ _)).mono fun e w' h => by
          cases h with
          | no h1 h2 => rw [hin] at h1; cases h1
          | yes q' ta tc h1 h2 h3 =>
            rw [hin] at h1; injection h1 with h1; subst h1
            exact ⟨ta, tc, rfl, h2, h3⟩
        clear hin HIn HX
        generalize hqn : q.text.length = qn at *
        go_upto_region 6 with (first
          | (go_at_call 97; refine HR.out.mono ?_; rintro e w3 ⟨rfl, hw⟩; rw [hw]; clear hw)
          | (go_at_call 98; refine HI2.out.mono ?_; rintro e w3 ⟨ta, tc, rfl, hI3, hb3⟩; have HB3 := Hid.mk' hb3; have HI3 := Hid.mk' hI3; clear hb3 hI3))
        generalize (if cap = s then some (⟨bb, oo, none⟩ : Addr) else some ⟨bb, oo + s, none⟩) = aj at *
        have hbA : Below w3.heap.size w3 (w3.alloc (.cells #[.int .i64 q.kind, .int .i64 q.id, .int .i64 q.n, .slice ta qn tc] 121)) := (Below.refl _ w3).alloc (Nat.le_refl _) _
        have hb4 : Below (w.heap.size + 1) w1 (w3.alloc (.cells #[.int .i64 q.kind, .int .i64 q.id, .int .i64 q.n, .slice ta qn tc] 121)) := by
          rw [← HZ.out]; exact HB3.out.alloc HB3.out.size _
        have hq4 := heap_alloc_new w3 (.cells #[.int .i64 q.kind, .int .i64 q.id, .int .i64 q.n, .slice ta qn tc] 121)
        have HI4 : Hid (IsBS (w3.alloc (.cells #[.int .i64 q.kind, .int .i64 q.id, .int .i64 q.n, .slice ta qn tc] 121)) (fun k => w1.heap.size ≤ k) ta tc q.text) := HI3.out.turns (Turns.of_below (S := fun _ => False) hbA) (fun _ _ e => e)
        have hz3 : w.heap.size + 1 ≤ w3.heap.size := by have := HB3.out.size; have := HZ.out; omega
        generalize w3.alloc (.cells #[.int .i64 q.kind, .int .i64 q.id, .int .i64 q.n, .slice ta qn tc] 121) = w4 at *
        generalize w3.heap.size = gq at *
        obtain ⟨hr4, hbw, _⟩ := HRw.out w4 hb4
        have HR4 := Hid.mk' hr4; have HBw := Hid.mk' hbw
        obtain ⟨⟨a0, a1, a2, a3⟩, g0, g1, g2, g3⟩ := row4 hr4
        obtain ⟨⟨k0, k1, k2, k3⟩, _⟩ := row4 hq4
        have hne : ¬ gq = w.heap.size := by omega
        have hne2 : ¬ w.heap.size = gq := by omega
        clear hr4 hbw hb4 hq4 hbA
        go_wp2
        obtain ⟨hr5, ht5⟩ := store4 HR4.out (.int .i64 q.kind) (.int .i64 q.id) (.int .i64 q.n) (.slice ta qn tc)
        generalize ((((w4.setCell ⟨w.heap.size, 0, none⟩ (Value.int .i64 q.kind)).setCell ⟨w.heap.size, 1, none⟩ (Value.int .i64 q.id)).setCell ⟨w.heap.size, 2, none⟩ (Value.int .i64 q.n)).setCell ⟨w.heap.size, 3, none⟩ (Value.slice ta qn tc)) = w5 at hr5 ht5 ⊢
        obtain ⟨⟨r0, r1, r2, r3⟩, _⟩ := row4 hr5
        have hy := OneOut.yes (w := w) (b := b) (w' := w5) q (s + m) ta tc HN.out ((HI4.out.turns ht5 (fun k e e2 => by have := HZ.out; omega)).mono (fun k _ e => by have := HZ.out; omega)) (HBw.out.trans (ht5.below (fun k e => by omega) HBw.out.size))
        rw [hqn] at hy
        refine bodyPost_ret (v := .tuple #[.agg #[.int .i64 q.kind, .int .i64 q.id, .int .i64 q.n, .slice ta qn tc], .int .i64 ((s + m : Nat) : Int)]) (by simp [results, Tryz.results69, go_sem, r0, r1, r2, r3]) rfl hy
    · have HX := Hid.mk' (one_of_far hr (by rw [hn]; exact hx))
      clear hr
      by_cases hx0 : x < 0
      · clear hx
        go_wp2_with (go_at_call 97; refine HR.out.mono ?_; rintro e w3 ⟨rfl, hw⟩; rw [hw]; clear hw)
        obtain ⟨hr4, ht4⟩ := store4 HR1.out (.int .i64 0) (.int .i64 0) (.int .i64 0) (.slice none 0 0)
        generalize ((((w1.setCell ⟨w.heap.size, 0, none⟩ (Value.int .i64 0)).setCell ⟨w.heap.size, 1, none⟩ (Value.int .i64 0)).setCell ⟨w.heap.size, 2, none⟩ (Value.int .i64 0)).setCell ⟨w.heap.size, 3, none⟩ (Value.slice none 0 0)) = w4 at hr4 ht4 ⊢
        obtain ⟨⟨r0, r1, r2, r3⟩, _⟩ := row4 hr4
        refine bodyPost_ret (v := .tuple #[.agg #[.int .i64 0, .int .i64 0, .int .i64 0, .slice none 0 0], .int .i64 0]) (by simp [results, Tryz.results69, go_sem, r0, r1, r2, r3]) rfl (.no HX.out (HB1.out.trans (ht4.below (fun k e => by omega) HB1.out.size)))
      · have t2 : (n : Int) - s < x := by omega
        clear hx
        go_wp2_with (go_at_call 97; refine HR.out.mono ?_; rintro e w3 ⟨rfl, hw⟩; rw [hw]; clear hw)
        obtain ⟨hr4, ht4⟩ := store4 HR1.out (.int .i64 0) (.int .i64 0) (.int .i64 0) (.slice none 0 0)
        generalize ((((w1.setCell ⟨w.heap.size, 0, none⟩ (Value.int .i64 0)).setCell ⟨w.heap.size, 1, none⟩ (Value.int .i64 0)).setCell ⟨w.heap.size, 2, none⟩ (Value.int .i64 0)).setCell ⟨w.heap.size, 3, none⟩ (Value.slice none 0 0)) = w4 at hr4 ht4 ⊢
        obtain ⟨⟨r0, r1, r2, r3⟩, _⟩ := row4 hr4
        refine bodyPost_ret (v := .tuple #[.agg #[.int .i64 0, .int .i64 0, .int .i64 0, .slice none 0 0], .int .i64 0]) (by simp [results, Tryz.results69, go_sem, r0, r1, r2, r3]) rfl (.no HX.out (HB1.out.trans (ht4.below (fun k e => by omega) HB1.out.size)))
end Go.Proofs.YtdclmpdjjkjfjaaGreatDoor

/- Package journal, walked: Decode. -/
namespace Go.Proofs.YtdclmpdjjkjfjaaGreatDoor
open Go.RowKit

theorem info_en : (Tryz.prog.info? 121).map (fun i => (i.zero, i.size, i.bytes)) = some (some (.agg #[.int .i64 0, .int .i64 0, .int .i64 0, .slice none 0 0]), 4, 48) := by kernel_rfl
/-- what a loop over entries keeps -/
structure DcAt (w : World) (tE : Nat) (b : List UInt8) (at_ : Nat) (ao : Option Addr) (ca : Nat) (l : List Jn.E) (W : World) : Prop where
  ens : EnsAt W (fun k => w.heap.size ≤ k) tE ao ca l
  le : at_ ≤ b.length
  few : l.length ≤ at_
  dec : Jn.dec b = (l ++ (Jn.dec (b.drop at_)).1, at_ + (Jn.dec (b.drop at_)).2)
  below : Below w.heap.size w W
theorem DcAt.start (w : World) (tE : Nat) (b : List UInt8) : DcAt w tE b 0 none 0 [] w := ⟨EnsAt.nil _ _ _, Nat.zero_le _, Nat.le_refl _, by simp, Below.refl _ _⟩
theorem DcAt.stop {w : World} {tE : Nat} {b : List UInt8} {at_ : Nat} {ao : Option Addr} {ca : Nat} {l : List Jn.E} {W : World} (h : DcAt w tE b at_ ao ca l W) (hn : Jn.one (b.drop at_) = none) : Jn.dec b = (l, at_) := by
  rw [h.dec, Jn.dec_none hn]; simp
theorem DcAt.more {w : World} {tE : Nat} {b : List UInt8} {at_ : Nat} {ao : Option Addr} {ca : Nat} {l : List Jn.E} {W W' : World} (h : DcAt w tE b at_ ao ca l W) {e : Jn.E} {s : Nat} (hn : Jn.one (b.drop at_) = some (e, s)) {ao' : Option Addr} {ca' : Nat} (hE : EnsAt W' (fun k => w.heap.size ≤ k) tE ao' ca' (l ++ [e])) (hb : Below w.heap.size w W') : DcAt w tE b (at_ + s) ao' ca' (l ++ [e]) W' := by
  have hle := Jn.one_le hn
  rw [List.length_drop] at hle
  have h1 := h.le
  have h2 := h.few
  refine ⟨hE, by omega, by rw [List.length_append]; simp; omega, ?_, hb⟩
  rw [h.dec, Jn.dec_some hn, List.drop_drop]
  simp only [List.append_assoc, List.cons_append, List.nil_append, Nat.add_assoc]
/-- what is answered of bytes -/
def DecPost (w : World) (tE : Nat) (b : List UInt8) (e : Ending) (w' : World) : Prop := ∃ ao ca, e = .returned (.tuple #[.slice ao (Jn.dec b).1.length ca, .int .i64 ((Jn.dec b).2 : Int)]) ∧ EnsAt w' (fun k => w.heap.size ≤ k) tE ao ca (Jn.dec b).1 ∧ Below w.heap.size w w'

set_option maxRecDepth 100000 in
set_option maxHeartbeats 2000000 in
theorem decode_any (b : List UInt8) (ao : Option Addr) (cap n : Nat) (w : World) (hB : IsB w ao cap b) (hn : b.length = n) (hN : n ≤ 1000000000) :
    Calls Tryz.prog 46 #[.slice ao n cap] w fun e w' => DecPost w 121 b e w' := by
  have HI : Hid (∀ W, Below w.heap.size w W → IsB W ao cap b) := fun W hW => hB.stay hW
  have hcap := hB.1
  obtain ⟨j0, hj0, hy0, hy1, hy2⟩ := info_parts info_en
  have Hj := Hid.mk' hj0; have Hy0 := Hid.mk' hy0; have Hy1 := Hid.mk' hy1; have Hy2 := Hid.mk' hy2
  clear hB hj0 hy0 hy1 hy2
  go_enter Tryz.func46, Tryz.ntmps46
  go_wp2
  go_loopw [4, 5] (fun vl va wr => ∃ (k : Nat) (ai : Option Addr) (ci : Nat) (l : List Jn.E) (m : Nat), l.length = m ∧ vl = .slice ai m ci ∧ va = .int .i64 k ∧ DcAt w 121 b k ai ci l wr) (fun _ va _ => n - (intOf va).toNat)
  case atStart => exact ⟨0, none, 0, [], 0, rfl, rfl, rfl, DcAt.start w _ b⟩
  case round =>
    obtain ⟨k, ai, ci, l, m, hm, rfl, rfl, hD⟩ := hrel
    have HD := Hid.mk' hD
    have hk := hD.le
    have hfew := hD.few
    clear hD
    have hk1 : (k : Int) ≤ n := by omega
    have hk2 : (k : Int) ≤ cap := by omega
    have HCut : Hid (∀ aj, (cap ≠ k → aj = ao.map (·.add k)) → IsB wr aj (cap - k) (b.drop k)) := fun aj haj => by
      have h1 := (HI.out wr HD.out.below).cut (ao' := aj) k b.length (by omega) (Nat.le_refl _) haj
      rwa [List.take_of_length_le (by rw [List.length_drop]; omega)] at h1
    cases ho : Jn.one (b.drop k) with
    | none =>
      have HX := Hid.mk' (HD.out.stop ho)
      have HRE : Hid (∀ aj, (cap ≠ k → aj = ao.map (·.add k)) → Calls Tryz.prog 69 #[.slice aj (n - k) (cap - k)] wr fun e w' => e = .returned (.tuple #[.agg #[.int .i64 0, .int .i64 0, .int .i64 0, .slice none 0 0], .int .i64 0]) ∧ Below wr.heap.size wr w') := fun aj haj => (readEntry_any (b.drop k) aj (cap - k) (n - k) wr (HCut.out aj haj) (by rw [List.length_drop, hn]) (by omega)).mono fun e w' h => by
        cases h with
        | no h1 h2 => exact ⟨rfl, h2⟩
        | yes q s ta tc h1 _ _ => rw [ho] at h1; cases h1
      clear ho HCut
      have HFin : Hid (∀ w3, Below wr.heap.size wr w3 → DecPost w 121 b (.returned (.tuple #[.slice ai m ci, .int .i64 (k : Int)])) (w3.alloc (.cells #[.int .i64 0, .int .i64 0, .int .i64 0, .slice none 0 0] 121))) := fun w3 hb3 => by
        have hb4 := hb3.alloc hb3.size (.cells #[.int .i64 0, .int .i64 0, .int .i64 0, .slice none 0 0] 121)
        exact ⟨ai, ci, by rw [HX.out, hm], by rw [HX.out]; exact HD.out.ens.stay hb4, then_ HD.out.below hb4⟩
      by_cases hck : cap = k
      · have HR2 := HRE.out ao (fun e => absurd hck e)
        have hnk : n - k = 0 := by omega
        have hckz : cap - k = 0 := by omega
        rw [hnk, hckz] at HR2
        have HR3 := Hid.mk' HR2
        clear HR2 HRE
        obtain rfl : n = k := by omega
        subst hck
        clear hnk hckz
        go_wp2_with (go_at_call 69; refine HR3.out.mono ?_; rintro e w3 ⟨rfl, hb3⟩; have HB3 := Hid.mk' hb3; clear hb3)
        go_ret2
        exact HFin.out w3 HB3.out
      · have HR3 := Hid.mk' (HRE.out _ (fun _ => rfl))
        clear HRE
        go_wp2_with (go_at_call 69; refine HR3.out.mono ?_; rintro e w3 ⟨rfl, hb3⟩; have HB3 := Hid.mk' hb3; clear hb3)
        go_ret2
        exact HFin.out w3 HB3.out
    | some p =>
      obtain ⟨q, s⟩ := p
      have hle := Jn.one_le ho
      rw [List.length_drop] at hle
      have hck : ¬ cap = k := by omega
      have HM := Hid.mk' (fun W' ao' ca' hE hb => HD.out.more (W' := W') (ao' := ao') (ca' := ca') ho hE hb)
      have HRE : Hid (Calls Tryz.prog 69 #[.slice (ao.map (·.add k)) (n - k) (cap - k)] wr fun e w' => ∃ ta tc, e = .returned (.tuple #[.agg #[.int .i64 q.kind, .int .i64 q.id, .int .i64 q.n, .slice ta q.text.length tc], .int .i64 (s : Int)]) ∧ IsBS w' (fun k => wr.heap.size ≤ k) ta tc q.text ∧ Below wr.heap.size wr w') := (readEntry_any (b.drop k) _ (cap - k) (n - k) wr (HCut.out _ (fun _ => rfl)) (by rw [List.length_drop, hn]) (by omega)).mono fun e w' h => by
        cases h with
        | no h1 h2 => rw [ho] at h1; cases h1
        | yes q' s' ta tc h1 h2 h3 =>
          rw [ho] at h1; injection h1 with h1; injection h1 with h4 h5; subst h4; subst h5
          exact ⟨ta, tc, rfl, h2, h3⟩
      clear ho HCut
      have ts : ((s : Int) == 0) = false := by rw [beq_eq_false_iff_ne]; omega
      have HQn : Hid (∃ qn, q.text.length = qn) := ⟨_, rfl⟩
      generalize hqn : q.text.length = qn at *
      go_upto_region 6 with (go_at_call 69; refine HRE.out.mono ?_; rintro e w3 ⟨ta, tc, rfl, hI3, hb3⟩; have HB3 := Hid.mk' hb3; have HI3 := Hid.mk' hI3; clear hb3 hI3)
      have hbA : Below w3.heap.size w3 (w3.alloc (.cells #[.int .i64 q.kind, .int .i64 q.id, .int .i64 q.n, .slice ta qn tc] 121)) := (Below.refl _ w3).alloc (Nat.le_refl _) _
      have hq4 := heap_alloc_new w3 (.cells #[.int .i64 q.kind, .int .i64 q.id, .int .i64 q.n, .slice ta qn tc] 121)
      have HI4 : Hid (IsBS (w3.alloc (.cells #[.int .i64 q.kind, .int .i64 q.id, .int .i64 q.n, .slice ta qn tc] 121)) (fun k => wr.heap.size ≤ k) ta tc q.text) := HI3.out.turns (Turns.of_below (S := fun _ => False) hbA) (fun _ _ e => e)
      have HB4 : Hid (Below wr.heap.size wr (w3.alloc (.cells #[.int .i64 q.kind, .int .i64 q.id, .int .i64 q.n, .slice ta qn tc] 121))) := then_ HB3.out hbA
      clear hbA
      generalize w3.alloc (.cells #[.int .i64 q.kind, .int .i64 q.id, .int .i64 q.n, .slice ta qn tc] 121) = w4 at *
      generalize w3.heap.size = gq at *
      obtain ⟨⟨k0, k1, k2, k3⟩, _⟩ := row4 hq4
      obtain ⟨xs, hO, hP⟩ := ((HD.out.ens.mono (S' := fun k => w.heap.size ≤ k ∧ k < wr.heap.size) (fun j hj e => ⟨e, hj⟩)).stay HB4.out).push (.cells #[.int .i64 q.kind, .int .i64 q.id, .int .i64 q.n, .slice ta qn tc] 121)
      have HNw : Hid (IsV (w4.alloc (.cells #[.int .i64 q.kind, .int .i64 q.id, .int .i64 q.n, .slice ta qn tc] 121)) (some ⟨w4.heap.size, 0, none⟩) 1 1 (enC q ⟨ta, tc⟩)) := by
        have := IsV.made w4 #[.int .i64 q.kind, .int .i64 q.id, .int .i64 q.n, .slice ta qn tc] 1 121 (0, 0)
        rw [← hqn] at this ⊢; exact this
      rw [hm] at hO hP
      have HO := Hid.mk' hO; have HP := Hid.mk' hP
      have HN : Hid (m + 1 ≤ 9223372036854775807 ∧ (m + 1) * 48 ≤ 140737488355328) := ⟨by omega, by omega⟩
      have hz := HD.out.below.size
      have hwk : IntKind.i64.wrap ((k : Int) + s) = (k : Int) + s := wrap_id (by omega) (by omega)
      clear hq4 hO hP
      go_wp2_with (at_builtin; refine wpList_append_v rfl (.tmp 19) (.tmp 21) 93 rfl 0 121 j0 (.agg #[.int .i64 0, .int .i64 0, .int .i64 0, .slice none 0 0]) 4 48 Tryz.underlying93 Hj.out Hy0.out Hy1.out Hy2.out rfl (by decide) rfl HO.out rfl HNw.out rfl (enC_one _ _) HN.out.1 HN.out.2 (Nat.zero_le _) ?_; intro ao5 cap5 w5 hO5 hG5 hat5; obtain ⟨hU5, hT5⟩ := HP.out ao5 cap5 w5 q ⟨ta, tc⟩ (fun j => wr.heap.size ≤ j) HI4.out (fun j e h => by omega) hO5 hG5 hat5; have HU5 := Hid.mk' hU5; have HT5 := Hid.mk' hT5; clear hO5 hG5 hat5 hU5 hT5)
      go_roundw
      case rel =>
        have hz4 := HB4.out.size
        refine ⟨k + s, ao5, cap5, l ++ [q], m + 1, by rw [List.length_append, hm]; rfl, rfl, by go_num, HM.out w5 ao5 cap5 (HU5.out.mono (fun j _ e => ?_)) ((then_ HD.out.below HB4.out).trans (HT5.out.below (fun j e => e.1) (by omega)))⟩
        rcases e with e | e | e
        · exact e.1
        · omega
        · omega
      case measure => simp [intOf]; omega
end Go.Proofs.YtdclmpdjjkjfjaaGreatDoor

/- The document's own store, as an object: what it holds in memory, and what becomes of it; NewShop, Room, Sync, walked. -/
namespace Go.Proofs.YtdclmpdjjkjfjaaGreatDoor
open Go.RowKit

/-- a shop at block g: its uploads at gh, its log in a row of its own -/
structure ShIn (w : World) (S : Nat → Prop) (g gh : Nat) (ao : Option Addr) (ca : Nat) (P : Nat → Prop) (s : Sr.Sh) : Prop where
  row : w.heap[g]? = some (.cells #[.pointer (some ⟨gh, 0, none⟩), .slice ao s.log.length ca, .int .i64 (s.sure : Int)] 53 (0, 0))
  hold : HoldAt w P gh s.h
  own : OwnB w 0 5 ao ca s.log
  self : S g
  inP : ∀ k, P k → S k ∧ k ≠ g ∧ blockOf ao ≠ some k
  inL : ∀ k, blockOf ao = some k → S k ∧ k ≠ g
def ShAt (w : World) (S : Nat → Prop) (g : Nat) (s : Sr.Sh) : Prop := ∃ gh ao ca P, ShIn w S g gh ao ca P s
section
variable {w w' w1 w2 w3 : World} {S S' P P' : Nat → Prop} {g gh : Nat} {ao : Option Addr} {ca : Nat} {s : Sr.Sh}
theorem ShIn.far (h : ShIn w S g gh ao ca P s) : ∀ k, blockOf ao = some k → k < w.heap.size := fun k e => by
  cases ao with
  | none => cases e
  | some a => injection e with e; subst e; exact (h.own.block a rfl).2
theorem ShIn.lt (h : ShIn w S g gh ao ca P s) : g < w.heap.size := (Array.getElem?_eq_some_iff.1 h.row).1
theorem ShIn.turns (h : ShIn w S g gh ao ca P s) (ht : Turns S' w w') (hs : ∀ k, S k → ¬ S' k) : ShIn w' S g gh ao ca P s :=
  ⟨ht.row h.row (hs g h.self), h.hold.turns ht (fun k e => hs k (h.inP k e).1), h.own.turns ht (fun a e => hs _ (h.inL a.block (by rw [e]; rfl)).1), h.self, h.inP, h.inL⟩
theorem ShIn.stay (h : ShIn w S g gh ao ca P s) (hb : Below w.heap.size w w') : ShIn w' S g gh ao ca P s := h.turns (Turns.of_below (S := fun _ => False) hb) (fun _ _ e => e)
theorem ShIn.mono (h : ShIn w S g gh ao ca P s) (hs : ∀ k, k < w.heap.size → S k → S' k) : ShIn w S' g gh ao ca (fun k => P k ∧ k < w.heap.size) s :=
  ⟨h.row, h.hold.mono (fun _ hk e => ⟨e, hk⟩), h.own, hs g h.lt h.self, fun k e => ⟨hs k e.2 (h.inP k e.1).1, (h.inP k e.1).2⟩, fun k e => ⟨hs k (h.far k e) (h.inL k e).1, (h.inL k e).2⟩⟩
theorem ShAt.turns (h : ShAt w S g s) (ht : Turns S' w w') (hs : ∀ k, S k → ¬ S' k) : ShAt w' S g s := by
  obtain ⟨gh, ao, ca, P, h⟩ := h
  exact ⟨gh, ao, ca, P, h.turns ht hs⟩
theorem ShAt.stay (h : ShAt w S g s) (hb : Below w.heap.size w w') : ShAt w' S g s := h.turns (Turns.of_below (S := fun _ => False) hb) (fun _ _ e => e)
theorem ShAt.mono (h : ShAt w S g s) (hs : ∀ k, k < w.heap.size → S k → S' k) : ShAt w S' g s := by
  obtain ⟨gh, ao, ca, P, h⟩ := h
  exact ⟨gh, ao, ca, _, h.mono hs⟩
theorem ShAt.lt (h : ShAt w S g s) : g < w.heap.size := by
  obtain ⟨gh, ao, ca, P, h⟩ := h
  exact h.lt
end
/-- what a step answered, and what became of the object -/
structure ShDid (S : Nat → Prop) (w : World) (g : Nat) (r : Sr.Sh × Nat) (e : Ending) (w' : World) : Prop where
  ret : e = .returned (.int .i64 (r.2 : Int))
  at_ : ShAt w' (orNew S w) g r.1
  turns : Turns S w w'
/-- what Create answered, and what became of the object -/
structure ShMade (S : Nat → Prop) (w : World) (g : Nat) (s : Sr.Sh) (r : Sr.Sh × Nat) (e : Ending) (w' : World) : Prop where
  ret : e = .returned (.tuple #[.int .i64 (Sr.numb s r.2), .int .i64 (r.2 : Int)])
  at_ : ShAt w' (orNew S w) g r.1
  turns : Turns S w w'
/-- what a crash came to -/
structure ShFell (S : Nat → Prop) (w : World) (g : Nat) (s : Sr.Sh) (w' : World) : Prop where
  at_ : ShAt w' (orNew S w) g s
  turns : Turns S w w'
section
variable {w w' w1 w2 w3 : World} {S S' P P' : Nat → Prop} {g gh : Nat} {ao : Option Addr} {ca : Nat} {s : Sr.Sh}
theorem ShDid.none_ {c : Nat} (h : ShAt w S g s) (hb : Below w.heap.size w w') {r : Sr.Sh × Nat} (hr : r = (s, c)) : ShDid S w g r (.returned (.int .i64 (c : Int))) w' := by
  subst hr
  exact ⟨rfl, (h.stay hb).mono (fun k _ e => Or.inl e), Turns.of_below hb⟩
theorem ShDid.from_ {r : Sr.Sh × Nat} {e : Ending} (hb : Below w.heap.size w w1) (h : ShDid S w1 g r e w') : ShDid S w g r e w' := by
  have hsz := hb.size
  refine ⟨h.ret, h.at_.mono (fun k _ e => ?_), (Turns.of_below hb).trans h.turns (fun _ e _ => e)⟩
  rcases e with e | e
  · exact Or.inl e
  · exact Or.inr (by omega)
theorem store3 {W : World} {g t : Nat} {c0 c1 c2 : Value} (h : W.heap[g]? = some (.cells #[c0, c1, c2] t (0, 0))) (v : Value) : (W.setCell ⟨g, 0, none⟩ v).heap[g]? = some (.cells #[v, c1, c2] t (0, 0)) ∧ (W.setCell ⟨g, 1, none⟩ v).heap[g]? = some (.cells #[c0, v, c2] t (0, 0)) ∧ (W.setCell ⟨g, 2, none⟩ v).heap[g]? = some (.cells #[c0, c1, v] t (0, 0)) :=
  ⟨heap_setCell_same W g 0 _ t _ h, heap_setCell_same W g 1 _ t _ h, heap_setCell_same W g 2 _ t _ h⟩
theorem newSh_any (w : World) :
    Calls Tryz.prog 9 #[] w fun e w' => ∃ g, e = .returned (.pointer (some ⟨g, 0, none⟩)) ∧ ShAt w' (fun k => w.heap.size ≤ k) g Sr.new ∧ Below w.heap.size w w' := by
  have hbA := (Below.refl _ w).alloc (Nat.le_refl _) (.cells #[.slice none 0 0, .int .i64 0] 50)
  have hbB := (Below.refl _ (w.alloc (.cells #[.slice none 0 0, .int .i64 0] 50))).alloc (Nat.le_refl _) (.cells #[.pointer (some ⟨w.heap.size, 0, none⟩), .slice none 0 0, .int .i64 0] 53)
  have hH : HoldAt (w.alloc (.cells #[.slice none 0 0, .int .i64 0] 50)) (fun k => k = w.heap.size) w.heap.size Sp.new := ⟨none, 0, heap_alloc_new w _, rfl, UpO.nil _ _ _ _⟩
  have HX : Hid (ShAt ((w.alloc (.cells #[.slice none 0 0, .int .i64 0] 50)).alloc (.cells #[.pointer (some ⟨w.heap.size, 0, none⟩), .slice none 0 0, .int .i64 0] 53)) (fun k => w.heap.size ≤ k) (w.heap.size + 1) Sr.new ∧ Below w.heap.size w ((w.alloc (.cells #[.slice none 0 0, .int .i64 0] 50)).alloc (.cells #[.pointer (some ⟨w.heap.size, 0, none⟩), .slice none 0 0, .int .i64 0] 53))) := by
    refine ⟨⟨w.heap.size, none, 0, fun k => k = w.heap.size, ?_, hH.stay hbB, OwnB.nil _ _ _, by show w.heap.size ≤ w.heap.size + 1; omega, fun k e => ⟨by show w.heap.size ≤ k; omega, by omega, by intro h; cases h⟩, fun k e => by cases e⟩, then_ hbA hbB⟩
    have := heap_alloc_new (w.alloc (.cells #[.slice none 0 0, .int .i64 0] 50)) (.cells #[.pointer (some ⟨w.heap.size, 0, none⟩), .slice none 0 0, .int .i64 0] 53)
    rw [World.size_alloc] at this
    exact this
  clear hbA hbB hH
  go_enter Tryz.func9, Tryz.ntmps9
  go_wp2
  go_ret
  exact ⟨_, rfl, HX.out.1, HX.out.2⟩
theorem roomSh_any (h : ShAt w S g s) (ok : Sr.Ok s) (n : Int) :
    Calls Tryz.prog 62 #[.pointer (some ⟨g, 0, none⟩), .int .i64 n] w fun e w' => e = .returned (.bool (decide (0 ≤ n) && decide (n ≤ 100000 - (s.log.length : Int)))) ∧ w' = w := by
  obtain ⟨gh, ao, ca, P, hI⟩ := h
  obtain ⟨⟨c0, c1, c2⟩, _⟩ := row3 hI.row
  have hfew := ok.few
  have hw : IntKind.i64.wrap (100000 - (s.log.length : Int)) = 100000 - (s.log.length : Int) := wrap_id (by omega) (by omega)
  clear hI ok c0 c2
  generalize s.log.length = m at *
  by_cases h1 : 0 ≤ n
  · by_cases h2 : n ≤ 100000 - (m : Int)
    · have HR : Hid ((decide (0 ≤ n) && decide (n ≤ 100000 - (m : Int))) = true) := by unfold Hid; rw [decide_eq_true h1, decide_eq_true h2]; rfl
      generalize (decide (0 ≤ n) && decide (n ≤ 100000 - (m : Int))) = r at *
      go_enter Tryz.func62, Tryz.ntmps62
      go_wp2
      go_ret
      exact ⟨by rw [HR.out]; first | rfl | simp, rfl⟩
    · have HR : Hid ((decide (0 ≤ n) && decide (n ≤ 100000 - (m : Int))) = false) := by unfold Hid; rw [decide_eq_false h2]; simp
      generalize (decide (0 ≤ n) && decide (n ≤ 100000 - (m : Int))) = r at *
      go_enter Tryz.func62, Tryz.ntmps62
      go_wp2
      go_ret
      exact ⟨by rw [HR.out]; first | rfl | (simp; done) | (simp; omega), rfl⟩
  · have HR : Hid ((decide (0 ≤ n) && decide (n ≤ 100000 - (m : Int))) = false) := by unfold Hid; rw [decide_eq_false h1]; simp
    generalize (decide (0 ≤ n) && decide (n ≤ 100000 - (m : Int))) = r at *
    go_enter Tryz.func62, Tryz.ntmps62
    go_wp2
    go_ret
    exact ⟨by rw [HR.out]; first | rfl | (simp; done) | (simp; omega), rfl⟩
theorem syncSh_any (h : ShAt w S g s) :
    Calls Tryz.prog 33 #[.pointer (some ⟨g, 0, none⟩)] w fun e w' => e = .returned (.tuple #[]) ∧ ShAt w' S g (Sr.sync s) ∧ Turns S w w' := by
  obtain ⟨gh, ao, ca, P, hI⟩ := h
  obtain ⟨⟨c0, c1, c2⟩, f0, f1, f2⟩ := row3 hI.row
  have HX : Hid (ShAt (w.setCell ⟨g, 2, none⟩ (.int .i64 (s.log.length : Int))) S g (Sr.sync s) ∧ Turns S w (w.setCell ⟨g, 2, none⟩ (.int .i64 (s.log.length : Int)))) := by
    have ht : Turns (fun k => k = g) w (w.setCell ⟨g, 2, none⟩ (.int .i64 (s.log.length : Int))) := Turns.setCell (fun k => k = g) w _ _ rfl
    refine ⟨⟨gh, ao, ca, P, (store3 hI.row _).2.2, hI.hold.turns ht (fun k e e2 => (hI.inP k e).2.1 e2), hI.own.turns ht (fun a e e2 => (hI.inL a.block (by rw [e]; rfl)).2 e2), hI.self, hI.inP, hI.inL⟩, ht.mono (fun k e => by subst e; exact hI.self)⟩
  clear hI
  generalize s.log.length = m at *
  go_enter Tryz.func33, Tryz.ntmps33
  go_wp2
  go_end0
  exact ⟨rfl, HX.out.1, HX.out.2⟩
/-- other uploads, all new, and the log with bytes more -/
theorem ShIn.laid {gh' : Nat} {s' : Sp.St} {x : List UInt8} {n : Nat} {ao' : Option Addr} {ca' : Nat} (h : ShIn w S g gh ao ca P s) (hb : Below w.heap.size w w1) (hH : HoldAt w1 (fun k => w.heap.size ≤ k) gh' s') (hO : OwnB w2 0 5 ao' ca' (s.log ++ x)) (hG : w1.grownBy w2 (blockOf ao)) (hat : blockOf ao' = blockOf ao ∨ blockOf ao' = some w1.heap.size) (hn : n = (s.log ++ x).length) :
    w2.heap[g]? = some (.cells #[.pointer (some ⟨gh, 0, none⟩), .slice ao s.log.length ca, .int .i64 (s.sure : Int)] 53 (0, 0)) ∧ ShAt ((w2.setCell ⟨g, 1, none⟩ (.slice ao' n ca')).setCell ⟨g, 0, none⟩ (.pointer (some ⟨gh', 0, none⟩))) (orNew S w) g ⟨s', s.log ++ x, s.sure⟩ ∧ Turns S w ((w2.setCell ⟨g, 1, none⟩ (.slice ao' n ca')).setCell ⟨g, 0, none⟩ (.pointer (some ⟨gh', 0, none⟩))) := by
  subst hn
  have hsz := hb.size
  have hfar := h.far
  have hlt := h.lt
  have ht : Turns (fun k => blockOf ao = some k) w1 w2 := Turns.of_grown hG (fun k e => e)
  have hT2 : Turns (fun k => blockOf ao = some k) w w2 := (Turns.of_below hb).trans ht (fun _ e _ => e)
  have hr := hT2.row h.row (fun e => (h.inL g e).2 rfl)
  have hg : Turns (fun k => k = g) w2 ((w2.setCell ⟨g, 1, none⟩ (.slice ao' (s.log ++ x).length ca')).setCell ⟨g, 0, none⟩ (.pointer (some ⟨gh', 0, none⟩))) := (Turns.setCell (fun k => k = g) w2 _ _ rfl).trans (Turns.setCell (fun k => k = g) _ _ _ rfl) (fun _ e _ => e)
  have hL' : ∀ k, blockOf ao' = some k → blockOf ao = some k ∨ k = w1.heap.size := fun k e => by
    rcases hat with a | a
    · exact Or.inl (a ▸ e)
    · rw [a] at e; injection e with e; exact Or.inr e.symm
  refine ⟨hr, ⟨gh', ao', ca', fun k => w.heap.size ≤ k ∧ k < w1.heap.size, (store3 (store3 hr _).2.1 _).1, ?_, ?_, Or.inl h.self, fun k e => ⟨Or.inr e.1, by omega, fun e2 => ?_⟩, fun k e => ?_⟩, ?_⟩
  · exact ((hH.mono (S' := fun k => w.heap.size ≤ k ∧ k < w1.heap.size) (fun k hk e => ⟨e, hk⟩)).turns ht (fun k e e2 => by have := hfar k e2; omega)).turns hg (fun k e e2 => by subst e2; omega)
  · refine hO.turns hg (fun a e e2 => ?_)
    rcases hL' a.block (by rw [e]; rfl) with e3 | e3
    · exact (h.inL _ e3).2 e2
    · omega
  · rcases hL' k e2 with e3 | e3
    · have := hfar k e3; omega
    · omega
  · rcases hL' k e with e3 | e3
    · exact ⟨Or.inl (h.inL k e3).1, (h.inL k e3).2⟩
    · exact ⟨Or.inr (by omega), by omega⟩
  · exact (hT2.mono (fun k e => (h.inL k e).1)).trans (hg.mono (fun k e => by subst e; exact h.self)) (fun _ e _ => e)
end
end Go.Proofs.YtdclmpdjjkjfjaaGreatDoor

/- The document's own answer: texts and numbers as Tus meets them. -/
namespace Go.Proofs.YtdclmpdjjkjfjaaGreatDoor
open Go.RowKit

/-- a text is a constant -/
theorem Tu.eqL (x c : ByteArray) (l : List UInt8) (h : c.data.toList = l) : (x = c) ↔ (x.toList == l) = true := by
  rw [beq_iff_eq, Lib.toList_data, ← h]
  refine ⟨fun e => by rw [e], fun e => ?_⟩
  cases x; cases c
  simp only at e
  congr 1
  exact Array.toList_inj.1 e
theorem Tu.eqV (v l : List UInt8) : (v = l) ↔ ((⟨v.toArray⟩ : ByteArray).toList == l) = true := by
  rw [beq_iff_eq, Lib.toList_data]
theorem Tu.pre7 (t : ByteArray) : (t.extract 0 7).toList = t.data.toList.take 7 := by
  rw [Lib.toList_data, Lib.extract_data]; simp
theorem Tu.from7 (t : ByteArray) : (t.extract 7 t.size).data.toList = t.data.toList.drop 7 := by
  rw [Lib.extract_data, List.take_of_length_le]
  rw [List.length_drop, Array.length_toList]
  exact Nat.le_refl _
theorem Tu.numT_no {t : ByteArray} (h : ¬ (7 < t.size ∧ t.data.toList.take 7 = Tu.bFilesS.data.toList ∧ (Ch.number 10 9 (t.data.toList.drop 7)).2 = true ∧ Ch.decF 8 (Ch.number 10 9 (t.data.toList.drop 7)).1.toNat = t.data.toList.drop 7)) (s : Sp.St) : Tu.upAt s t = none := by
  unfold Tu.upAt Tu.numT; rw [if_neg h]
theorem Tu.numT_yes {t : ByteArray} (h : 7 < t.size ∧ t.data.toList.take 7 = Tu.bFilesS.data.toList ∧ (Ch.number 10 9 (t.data.toList.drop 7)).2 = true ∧ Ch.decF 8 (Ch.number 10 9 (t.data.toList.drop 7)).1.toNat = t.data.toList.drop 7) (s : Sp.St) : Tu.upAt s t = match Sp.place s.l (Ch.number 10 9 (t.data.toList.drop 7)).1 with
    | none => none
    | some i => s.l[i]? := by
  unfold Tu.upAt Tu.numT; rw [if_pos h]; rfl
/-- a number that was read is written in nine digits -/
theorem Ch.number_small {l : List UInt8} (h : (Ch.number 10 9 l).2 = true) : 0 ≤ (Ch.number 10 9 l).1 ∧ (Ch.number 10 9 l).1 < 1000000000 := by
  have hl : ¬ (l = [] ∨ (9 : Int) < l.length) := fun e => by unfold Ch.number at h; rw [if_pos e] at h; cases h
  have ha : l.all (Ch.dig 10) = true := by
    cases e : l.all (Ch.dig 10) with
    | true => rfl
    | false => unfold Ch.number at h; rw [if_neg hl, e] at h; cases h
  unfold Ch.number
  rw [if_neg hl, if_pos ha]
  have key : ∀ (l : List UInt8) (n : Int) (B : Nat), 0 ≤ n → n < 10 ^ B → l.all (Ch.dig 10) = true → 0 ≤ l.foldl (fun n b => n * 10 + Ch.hex b.toNat) n ∧ l.foldl (fun n b => n * 10 + Ch.hex b.toNat) n < 10 ^ (B + l.length) := by
    intro l
    induction l with
    | nil => intro n B h0 h1 _; exact ⟨h0, h1⟩
    | cons b t ih =>
      intro n B h0 h1 hd
      rw [List.all_cons, Bool.and_eq_true] at hd
      have hb := hd.1
      unfold Ch.dig at hb
      rw [Bool.and_eq_true, decide_eq_true_eq, decide_eq_true_eq] at hb
      have e : (10 : Int) ^ (B + 1) = 10 ^ B * 10 := Int.pow_succ ..
      have := ih (n * 10 + Ch.hex b.toNat) (B + 1) (by omega) (by omega) hd.2
      simp only [List.foldl_cons, List.length_cons]
      rw [show B + (t.length + 1) = B + 1 + t.length by omega]
      exact this
  have := key l 0 0 (by omega) (by decide) ha
  refine ⟨this.1, Int.lt_of_lt_of_le this.2 ?_⟩
  rw [Nat.zero_add]
  have h9 : l.length ≤ 9 := by
    rcases Nat.lt_or_ge 9 l.length with e | e
    · exact absurd (Or.inr (by omega)) hl
    · exact e
  calc (10 : Int) ^ l.length ≤ 10 ^ 9 := by exact_mod_cast Nat.pow_le_pow_right (by decide) h9
    _ = 1000000000 := by decide
theorem numI_any (n : Int) (h0 : 0 ≤ n) (h1 : n < 1000000000) (W : World) : Calls Tryz.prog 21 #[.int .i64 n] W fun e w' => e = .returned (.string (Tu.dec n.toNat)) ∧ ∃ m, w' = W.drewN m := by
  obtain ⟨k, rfl⟩ := Int.eq_ofNat_of_zero_le h0
  exact num_f 8 k W (by omega) (by omega) (by omega)
/-- a number below 0 has some text -/
theorem numNeg_any (W : World) : Calls Tryz.prog 21 #[.int .i64 (-1)] W fun e w' => ∃ tx : ByteArray, e = .returned (.string tx) ∧ ∃ m, w' = W.drewN m := by
  have HN := Hid.mk' (fun W => numI_any 1 (by decide) (by decide) W)
  have hz : (Tu.dec (1 : Int).toNat).size ≤ 9 := by decide +kernel
  generalize Tu.dec (1 : Int).toNat = tx at *
  go_enter Tryz.func21, Tryz.ntmps21
  go_wp2_with fail
  refine (HN.out _).mono ?_
  rintro e w1 ⟨rfl, q, hw⟩
  subst hw
  go_wp2
  go_ret
  exact ⟨_, rfl, q, rfl⟩
/-- a shop's uploads -/
theorem ShAt.open_ {w : World} {S : Nat → Prop} {g : Nat} {s : Sr.Sh} (h : ShAt w S g s) : ∃ gh P, w.cell? ⟨g, 0, none⟩ = some (.pointer (some ⟨gh, 0, none⟩)) ∧ HoldAt w P gh s.h := by
  obtain ⟨gh, ao, ca, P, hI⟩ := h
  exact ⟨gh, P, (row3 hI.row).1.1, hI.hold⟩
end Go.Proofs.YtdclmpdjjkjfjaaGreatDoor
