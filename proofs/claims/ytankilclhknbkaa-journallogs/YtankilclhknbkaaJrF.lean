/- Package journal, walked: an entry that is read, behind how many bytes follow. -/
import Derived.Test.YtankilclhknbkaaJrC
import Derived.Test.YtankilclhknbkaaJrB
import Derived.Test.YtankilclhknbkaaMemJ
import Derived.Test.YtankilclhknbkaaMemG
import Derived.Test.YtankilclhknbkaaBtInfo
namespace Go.Proofs.Ytankilclhknbkaa
open Go.RowKit

/-- so many numbers are read -/
inductive InAt (b : List UInt8) : Nat → List UInt8 → Int → Int → Int → Prop
  | zero : InAt b 0 b 0 0 0
  | one {x s} : Jn.rn b = some (x, s) → InAt b 1 (b.drop s) x 0 0
  | two {x s y t} : Jn.rn b = some (x, s) → Jn.rn (b.drop s) = some (y, t) → InAt b 2 ((b.drop s).drop t) x y 0
  | three {x s y t z u} : Jn.rn b = some (x, s) → Jn.rn (b.drop s) = some (y, t) → Jn.rn ((b.drop s).drop t) = some (z, u) → InAt b 3 (((b.drop s).drop t).drop u) x y z
theorem InAt.le {b bi : List UInt8} {i : Nat} {x y z : Int} (h : InAt b i bi x y z) : bi.length ≤ b.length := by
  cases h <;> (try simp only [List.length_drop]) <;> omega
theorem InAt.stop {b bi : List UInt8} {i : Nat} {x y z : Int} (h : InAt b i bi x y z) (hi : i < 3) (hn : Jn.rn bi = none) : Jn.inner b = none := by
  cases h with
  | zero => unfold Jn.inner; rw [hn]
  | one h1 => unfold Jn.inner; rw [h1]; simp only; rw [hn]
  | two h1 h2 => unfold Jn.inner; rw [h1]; simp only; rw [h2]; simp only; rw [hn]
  | three => omega
theorem InAt.end_ {b bi : List UInt8} {x y z : Int} (h : InAt b 3 bi x y z) : Jn.inner b = if Jn.fits ⟨x, y, z, bi⟩ = true then some ⟨x, y, z, bi⟩ else none := by
  cases h with
  | three h1 h2 h3 => unfold Jn.inner; rw [h1]; simp only; rw [h2]; simp only; rw [h3]
/-- the numbers, with one more -/
def put3 (i : Nat) (v x y z : Int) : Int × Int × Int := match i with
  | 0 => (v, y, z)
  | 1 => (x, v, z)
  | _ => (x, y, v)
theorem InAt.step {b bi : List UInt8} {i : Nat} {x y z v : Int} {s : Nat} (h : InAt b i bi x y z) (hi : i < 3) (hn : Jn.rn bi = some (v, s)) : InAt b (i + 1) (bi.drop s) (put3 i v x y z).1 (put3 i v x y z).2.1 (put3 i v x y z).2.2 := by
  cases h with
  | zero => exact .one hn
  | one h1 => exact .two h1 hn
  | two h1 h2 => exact .three h1 h2 hn
  | three => omega
theorem rnOut_none {b : List UInt8} (h : Jn.rn b = none) : rnOut b = (0, 0) := by unfold rnOut; rw [h]
theorem rnOut_some {b : List UInt8} {x : Int} {s : Nat} (h : Jn.rn b = some (x, s)) : rnOut b = (x, s) := by unfold rnOut; rw [h]
/-- the cells of what is answered, and of the numbers -/
structure InMem (w : World) (x y z : Int) (W : World) : Prop where
  res : W.heap[w.heap.size]? = some (.cells #[.int .i64 0, .int .i64 0, .int .i64 0, .slice none 0 0] 24 (0, 0))
  nums : W.heap[w.heap.size + 1]? = some (.cells #[.int .i64 x, .int .i64 y, .int .i64 z] 56 (0, 0))
  below : Below w.heap.size w W
  size : W.heap.size = w.heap.size + 2
/-- what is answered -/
inductive InnOut (w : World) (b : List UInt8) : Ending → World → Prop
  | no {w'} : Jn.inner b = none → Below w.heap.size w w' → InnOut w b (.returned (.tuple #[.agg #[.int .i64 0, .int .i64 0, .int .i64 0, .slice none 0 0], .bool false])) w'
  | yes {w'} (e : Jn.E) (ta : Option Addr) (tc : Nat) : Jn.inner b = some e → IsBS w' (fun k => w.heap.size ≤ k) ta tc e.text → Below w.heap.size w w' → InnOut w b (.returned (.tuple #[.agg #[.int .i64 e.kind, .int .i64 e.id, .int .i64 e.n, .slice ta e.text.length tc], .bool true])) w'

theorem store4 {W : World} {g t : Nat} {c0 c1 c2 c3 : Value} (h : W.heap[g]? = some (.cells #[c0, c1, c2, c3] t (0, 0))) (a b c d : Value) :
    ((((W.setCell ⟨g, 0, none⟩ a).setCell ⟨g, 1, none⟩ b).setCell ⟨g, 2, none⟩ c).setCell ⟨g, 3, none⟩ d).heap[g]? = some (.cells #[a, b, c, d] t (0, 0)) ∧ Turns (fun k => k = g) W ((((W.setCell ⟨g, 0, none⟩ a).setCell ⟨g, 1, none⟩ b).setCell ⟨g, 2, none⟩ c).setCell ⟨g, 3, none⟩ d) := by
  have h1 := heap_setCell_same W g 0 _ _ a h
  have h2 := heap_setCell_same _ g 1 _ _ b h1
  have h3 := heap_setCell_same _ g 2 _ _ c h2
  have h4 := heap_setCell_same _ g 3 _ _ d h3
  have t1 := Turns.setCell (fun k => k = g) W ⟨g, 0, none⟩ a rfl
  have t2 := Turns.setCell (fun k => k = g) (W.setCell ⟨g, 0, none⟩ a) ⟨g, 1, none⟩ b rfl
  have t3 := Turns.setCell (fun k => k = g) ((W.setCell ⟨g, 0, none⟩ a).setCell ⟨g, 1, none⟩ b) ⟨g, 2, none⟩ c rfl
  have t4 := Turns.setCell (fun k => k = g) (((W.setCell ⟨g, 0, none⟩ a).setCell ⟨g, 1, none⟩ b).setCell ⟨g, 2, none⟩ c) ⟨g, 3, none⟩ d rfl
  exact ⟨h4, ((t1.trans t2 (fun _ e _ => e)).trans t3 (fun _ e _ => e)).trans t4 (fun _ e _ => e)⟩
theorem row4 {W : World} {g t : Nat} {c0 c1 c2 c3 : Value} (h : W.heap[g]? = some (.cells #[c0, c1, c2, c3] t (0, 0))) : (W.cell? ⟨g, 0, none⟩ = some c0 ∧ W.cell? ⟨g, 1, none⟩ = some c1 ∧ W.cell? ⟨g, 2, none⟩ = some c2 ∧ W.cell? ⟨g, 3, none⟩ = some c3) ∧ (W.frozen? ⟨g, 0, none⟩ = false ∧ W.frozen? ⟨g, 1, none⟩ = false ∧ W.frozen? ⟨g, 2, none⟩ = false ∧ W.frozen? ⟨g, 3, none⟩ = false) :=
  ⟨⟨cell_of_row W g 0 _ _ _ h, cell_of_row W g 1 _ _ _ h, cell_of_row W g 2 _ _ _ h, cell_of_row W g 3 _ _ _ h⟩, frozen_of_row W g 0 _ _ h, frozen_of_row W g 1 _ _ h, frozen_of_row W g 2 _ _ h, frozen_of_row W g 3 _ _ h⟩
theorem row3 {W : World} {g t : Nat} {c0 c1 c2 : Value} (h : W.heap[g]? = some (.cells #[c0, c1, c2] t (0, 0))) : (W.cell? ⟨g, 0, none⟩ = some c0 ∧ W.cell? ⟨g, 1, none⟩ = some c1 ∧ W.cell? ⟨g, 2, none⟩ = some c2) ∧ (W.frozen? ⟨g, 0, none⟩ = false ∧ W.frozen? ⟨g, 1, none⟩ = false ∧ W.frozen? ⟨g, 2, none⟩ = false) :=
  ⟨⟨cell_of_row W g 0 _ _ _ h, cell_of_row W g 1 _ _ _ h, cell_of_row W g 2 _ _ _ h⟩, frozen_of_row W g 0 _ _ h, frozen_of_row W g 1 _ _ h, frozen_of_row W g 2 _ _ h⟩

theorem InMem.put0 {w W : World} {x y z : Int} (h : InMem w x y z W) (v : Int) : InMem w v y z (W.setCell ⟨w.heap.size + 1, 0, none⟩ (.int .i64 v)).drew := by
  have hs := h.size
  have ht : Turns (fun k => k = w.heap.size + 1) W (W.setCell ⟨w.heap.size + 1, 0, none⟩ (.int .i64 v)) := Turns.setCell _ W _ _ rfl
  exact ⟨ht.row h.res (by omega), heap_setCell_same W _ 0 _ _ _ h.nums, (h.below.trans (ht.below (fun k e => by omega) (by omega))).trans (below_drew _ _), by show (W.setCell _ _).heap.size = _; simp [World.setCell, hs]⟩
theorem InMem.put1 {w W : World} {x y z : Int} (h : InMem w x y z W) (v : Int) : InMem w x v z (W.setCell ⟨w.heap.size + 1, 1, none⟩ (.int .i64 v)).drew := by
  have hs := h.size
  have ht : Turns (fun k => k = w.heap.size + 1) W (W.setCell ⟨w.heap.size + 1, 1, none⟩ (.int .i64 v)) := Turns.setCell _ W _ _ rfl
  exact ⟨ht.row h.res (by omega), heap_setCell_same W _ 1 _ _ _ h.nums, (h.below.trans (ht.below (fun k e => by omega) (by omega))).trans (below_drew _ _), by show (W.setCell _ _).heap.size = _; simp [World.setCell, hs]⟩
theorem InMem.put2 {w W : World} {x y z : Int} (h : InMem w x y z W) (v : Int) : InMem w x y v (W.setCell ⟨w.heap.size + 1, 2, none⟩ (.int .i64 v)).drew := by
  have hs := h.size
  have ht : Turns (fun k => k = w.heap.size + 1) W (W.setCell ⟨w.heap.size + 1, 2, none⟩ (.int .i64 v)) := Turns.setCell _ W _ _ rfl
  exact ⟨ht.row h.res (by omega), heap_setCell_same W _ 2 _ _ _ h.nums, (h.below.trans (ht.below (fun k e => by omega) (by omega))).trans (below_drew _ _), by show (W.setCell _ _).heap.size = _; simp [World.setCell, hs]⟩
set_option maxRecDepth 100000 in
set_option maxHeartbeats 2000000 in
theorem readInner_any (b : List UInt8) (ao : Option Addr) (cap n : Nat) (w : World) (hB : IsB w ao cap b) (hn : b.length = n) (hN : n ≤ 1000000000) :
    Calls Try.prog 30 #[.slice ao n cap] w fun e w' => InnOut w b e w' := by
  have HI : Hid (∀ W, Below w.heap.size w W → IsB W ao cap b) := fun W hW => hB.stay hW
  have HNb : Hid (0 < b.length → ∀ k, blockOf ao = some k → k < w.heap.size) := fun h0 k e => by
    obtain ⟨bb, oo, rfl, hc⟩ := hB.lit h0
    injection e with e; subst e
    exact World.block_lt_of_cell? w _ (hc 0 h0)
  clear hB
  go_enter Try.func30, Try.ntmps30
  go_wp2
  have HM0 : Hid (InMem w 0 0 0 ((w.alloc (.cells #[.int .i64 0, .int .i64 0, .int .i64 0, .slice none 0 0] 24)).alloc (.cells #[.int .i64 0, .int .i64 0, .int .i64 0] 56))) := by
    refine ⟨?_, ?_, ((Below.refl _ w).alloc (Nat.le_refl _) _).alloc (by simp) _, by simp⟩
    · rw [Below.heap_alloc _ _ _ (by simp)]; exact heap_alloc_new w _
    · have := heap_alloc_new (w.alloc (.cells #[.int .i64 0, .int .i64 0, .int .i64 0, .slice none 0 0] 24)) (.cells #[.int .i64 0, .int .i64 0, .int .i64 0] 56)
      rw [World.size_alloc] at this; exact this
  generalize ((w.alloc (.cells #[.int .i64 0, .int .i64 0, .int .i64 0, .slice none 0 0] 24)).alloc (.cells #[.int .i64 0, .int .i64 0, .int .i64 0] 56)) = w1 at *
  go_loopw [0, 9] (fun vb vi wr => ∃ (i ni ci : Nat) (ai : Option Addr) (bi : List UInt8) (x y z : Int), i ≤ 3 ∧ vb = .slice ai ni ci ∧ vi = .int .i64 i ∧ InAt b i bi x y z ∧ IsB wr ai ci bi ∧ bi.length = ni ∧ blockOf ai = blockOf ao ∧ InMem w x y z wr) (fun _ vi _ => 3 - (intOf vi).toNat)
  case atStart => exact ⟨0, n, cap, ao, b, 0, 0, 0, by omega, rfl, rfl, .zero, HI.out _ HM0.out.below, hn, rfl, HM0.out⟩
  case round =>
    obtain ⟨i, ni, ci, ai, bi, x, y, z, hi, rfl, rfl, hA, hBi, hni, hbl, hM⟩ := hrel
    have HA := Hid.mk' hA; have HBi := Hid.mk' hBi; have HM := Hid.mk' hM
    have hle := hA.le
    have HR := Hid.mk' (readNumber_any bi ai ci ni wr hBi hni (by omega))
    have hci := hBi.1
    obtain ⟨⟨c0, c1, c2, c3⟩, f0, f1, f2, f3⟩ := row4 hM.res
    obtain ⟨⟨d0, d1, d2⟩, e0, e1, e2⟩ := row3 hM.nums
    clear hA hBi hM
    by_cases hlt : i < 3
    · cases hr : Jn.rn bi with
      | none =>
        rw [rnOut_none hr] at HR
        have HX := Hid.mk' (HA.out.stop hlt hr)
        clear hr
        have hlt' : (i : Int) < 3 := by omega
        go_wp2_with (go_at_call 29; refine HR.out.mono ?_; rintro e w3 ⟨rfl, hw⟩; rw [hw]; clear hw)
        obtain ⟨hr4, ht4⟩ := store4 HM.out.res (.int .i64 0) (.int .i64 0) (.int .i64 0) (.slice none 0 0)
        generalize ((((wr.setCell ⟨w.heap.size, 0, none⟩ (Value.int .i64 0)).setCell ⟨w.heap.size, 1, none⟩ (Value.int .i64 0)).setCell ⟨w.heap.size, 2, none⟩ (Value.int .i64 0)).setCell ⟨w.heap.size, 3, none⟩ (Value.slice none 0 0)) = w4 at hr4 ht4 ⊢
        obtain ⟨⟨r0, r1, r2, r3⟩, _⟩ := row4 hr4
        refine bodyPost_ret (v := .tuple #[.agg #[.int .i64 0, .int .i64 0, .int .i64 0, .slice none 0 0], .bool false]) (by simp [results, Try.results30, go_sem, r0, r1, r2, r3]) rfl (.no HX.out (HM.out.below.trans (ht4.below (fun k e => by omega) (by have := HM.out.size; omega))))
      | some p =>
        obtain ⟨v, s⟩ := p
        rw [rnOut_some hr] at HR
        have HX := Hid.mk' (HA.out.step hlt hr)
        have hrl := Jn.rn_le hr
        obtain ⟨bb, oo, rfl, hcs⟩ := HBi.out.lit (by omega)
        clear hr hcs
        have HNe : Hid (∀ a, (if ci = s then some (⟨bb, oo, none⟩ : Addr) else some ⟨bb, oo + s, none⟩) = some a → ¬ a.block = w.heap.size + 1) := fun a e => by
          have hbb : bb ≠ w.heap.size + 1 := fun e => by have := HNb.out (by omega) bb hbl.symm; omega
          split at e <;> (injection e with e; subst e; exact hbb)
        have HBk : Hid (blockOf (if ci = s then some (⟨bb, oo, none⟩ : Addr) else some ⟨bb, oo + s, none⟩) = blockOf ao) := by
          unfold Hid; rw [← hbl]; split <;> rfl
        clear hbl
        have hlt' : (i : Int) < 3 := by omega
        have ts : ((s : Int) == 0) = false := by rw [beq_eq_false_iff_ne]; omega
        have s1 : (s : Int) ≤ ni := by omega
        have s2 : (s : Int) ≤ ci := by omega
        rcases (show i = 0 ∨ i = 1 ∨ i = 2 by omega) with rfl | rfl | rfl
        · have HMp := Hid.mk' (HM.out.put0 v)
          have HBp : Hid (IsB (wr.setCell ⟨w.heap.size + 1, 0, none⟩ (.int .i64 v)).drew (if ci = s then some ⟨bb, oo, none⟩ else some ⟨bb, oo + s, none⟩) (ci - s) (bi.drop s)) := by
            have h1 := HBi.out.cut (ao' := if ci = s then some ⟨bb, oo, none⟩ else some ⟨bb, oo + s, none⟩) s bi.length (by omega) (Nat.le_refl _) (fun e => by rw [if_neg e]; simp [Addr.add_lit])
            rw [List.take_of_length_le (by rw [List.length_drop]; omega)] at h1
            have ht : Turns (fun k => k = w.heap.size + 1) wr (wr.setCell ⟨w.heap.size + 1, 0, none⟩ (.int .i64 v)) := Turns.setCell _ wr _ _ rfl
            exact (h1.turns ht (fun a e => HNe.out a e)).stay (below_drew _ _)
          go_wp2_with (go_at_call 29; refine HR.out.mono ?_; rintro e w3 ⟨rfl, hw⟩; rw [hw]; clear hw)
          go_region
          generalize (wr.setCell ⟨w.heap.size + 1, 0, none⟩ (Value.int .i64 v)).drew = w4 at *
          generalize (if ci = s then some (⟨bb, oo, none⟩ : Addr) else some ⟨bb, oo + s, none⟩) = aj at *
          go_wp2
          go_roundw
          case rel => exact ⟨1, ni - s, ci - s, aj, bi.drop s, v, y, z, by omega, rfl, by go_num, HX.out, HBp.out, by rw [List.length_drop, hni], HBk.out, HMp.out⟩
          case measure => first | (simp [intOf]; done) | (simp [intOf]; omega)
        · have HMp := Hid.mk' (HM.out.put1 v)
          have HBp : Hid (IsB (wr.setCell ⟨w.heap.size + 1, 1, none⟩ (.int .i64 v)).drew (if ci = s then some ⟨bb, oo, none⟩ else some ⟨bb, oo + s, none⟩) (ci - s) (bi.drop s)) := by
            have h1 := HBi.out.cut (ao' := if ci = s then some ⟨bb, oo, none⟩ else some ⟨bb, oo + s, none⟩) s bi.length (by omega) (Nat.le_refl _) (fun e => by rw [if_neg e]; simp [Addr.add_lit])
            rw [List.take_of_length_le (by rw [List.length_drop]; omega)] at h1
            have ht : Turns (fun k => k = w.heap.size + 1) wr (wr.setCell ⟨w.heap.size + 1, 1, none⟩ (.int .i64 v)) := Turns.setCell _ wr _ _ rfl
            exact (h1.turns ht (fun a e => HNe.out a e)).stay (below_drew _ _)
          go_wp2_with (go_at_call 29; refine HR.out.mono ?_; rintro e w3 ⟨rfl, hw⟩; rw [hw]; clear hw)
          go_region
          generalize (wr.setCell ⟨w.heap.size + 1, 1, none⟩ (Value.int .i64 v)).drew = w4 at *
          generalize (if ci = s then some (⟨bb, oo, none⟩ : Addr) else some ⟨bb, oo + s, none⟩) = aj at *
          go_wp2
          go_roundw
          case rel => exact ⟨2, ni - s, ci - s, aj, bi.drop s, x, v, z, by omega, rfl, by go_num, HX.out, HBp.out, by rw [List.length_drop, hni], HBk.out, HMp.out⟩
          case measure => first | (simp [intOf]; done) | (simp [intOf]; omega)
        · have HMp := Hid.mk' (HM.out.put2 v)
          have HBp : Hid (IsB (wr.setCell ⟨w.heap.size + 1, 2, none⟩ (.int .i64 v)).drew (if ci = s then some ⟨bb, oo, none⟩ else some ⟨bb, oo + s, none⟩) (ci - s) (bi.drop s)) := by
            have h1 := HBi.out.cut (ao' := if ci = s then some ⟨bb, oo, none⟩ else some ⟨bb, oo + s, none⟩) s bi.length (by omega) (Nat.le_refl _) (fun e => by rw [if_neg e]; simp [Addr.add_lit])
            rw [List.take_of_length_le (by rw [List.length_drop]; omega)] at h1
            have ht : Turns (fun k => k = w.heap.size + 1) wr (wr.setCell ⟨w.heap.size + 1, 2, none⟩ (.int .i64 v)) := Turns.setCell _ wr _ _ rfl
            exact (h1.turns ht (fun a e => HNe.out a e)).stay (below_drew _ _)
          go_wp2_with (go_at_call 29; refine HR.out.mono ?_; rintro e w3 ⟨rfl, hw⟩; rw [hw]; clear hw)
          go_region
          generalize (wr.setCell ⟨w.heap.size + 1, 2, none⟩ (Value.int .i64 v)).drew = w4 at *
          generalize (if ci = s then some (⟨bb, oo, none⟩ : Addr) else some ⟨bb, oo + s, none⟩) = aj at *
          go_wp2
          go_roundw
          case rel => exact ⟨3, ni - s, ci - s, aj, bi.drop s, x, y, v, by omega, rfl, by go_num, HX.out, HBp.out, by rw [List.length_drop, hni], HBk.out, HMp.out⟩
          case measure => first | (simp [intOf]; done) | (simp [intOf]; omega)
    · obtain rfl : i = 3 := by omega
      have HE := Hid.mk' HA.out.end_
      have hs := HM.out.size
      have HBb : Hid (Below wr.heap.size wr (wr.alloc (.cells #[.int .i64 x, .int .i64 y, .int .i64 z, .slice ai ni ci] 24))) := (Below.refl _ wr).alloc (Nat.le_refl _) _
      have HF := Hid.mk' (fun W => fitsJ_any ⟨x, y, z, bi⟩ ai ni ci hni W)
      dsimp only at HF
      have hs2 : (wr.alloc (.cells #[.int .i64 x, .int .i64 y, .int .i64 z, .slice ai ni ci] 24)).heap.size = w.heap.size + 3 := by rw [World.size_alloc, hs]
      have HRow : Hid (∀ W, Below (w.heap.size + 3) (wr.alloc (.cells #[.int .i64 x, .int .i64 y, .int .i64 z, .slice ai ni ci] 24)) W → W.heap[w.heap.size]? = some (.cells #[.int .i64 0, .int .i64 0, .int .i64 0, .slice none 0 0] 24 (0, 0)) ∧ W.heap[w.heap.size + 2]? = some (.cells #[.int .i64 x, .int .i64 y, .int .i64 z, .slice ai ni ci] 24 (0, 0)) ∧ IsB W ai ci bi ∧ Below w.heap.size w W) := fun W hW => by
        refine ⟨(hW.block _ (by omega)).trans ((Below.heap_alloc _ _ _ (by omega)).trans HM.out.res), (hW.block _ (by omega)).trans ?_, HBi.out.stay (HBb.out.trans (hW.mono (by omega))), HM.out.below.trans ((HBb.out.trans (hW.mono (by omega))).mono (by omega))⟩
        have := heap_alloc_new wr (.cells #[.int .i64 x, .int .i64 y, .int .i64 z, .slice ai ni ci] 24)
        rw [hs] at this; exact this
      have HF1 := Hid.mk' (HF.out (wr.alloc (.cells #[.int .i64 x, .int .i64 y, .int .i64 z, .slice ai ni ci] 24)))
      rw [hs2] at HF1
      have hnn : ni ≤ 1000000000 := by omega
      clear HF HR hlt hle
      cases hf : Jn.fits ⟨x, y, z, bi⟩ with
      | false =>
        have HN : Hid (Jn.inner b = none) := by unfold Hid; rw [HE.out, if_neg (by simp [hf])]
        rw [hf] at HF1
        clear hf HE
        go_upto_region 12 with (go_at_call 23; refine HF1.out.mono ?_; rintro e w3 ⟨rfl, hb3⟩; have HB3 := Hid.mk' hb3; clear hb3)
        obtain ⟨hr3, _, _, hb⟩ := HRow.out w3 HB3.out
        have HBw := Hid.mk' hb
        have HR3 := Hid.mk' hr3
        obtain ⟨⟨a0, a1, a2, a3⟩, g0, g1, g2, g3⟩ := row4 hr3
        clear hr3 hb
        go_wp2
        obtain ⟨hr4, ht4⟩ := store4 HR3.out (.int .i64 0) (.int .i64 0) (.int .i64 0) (.slice none 0 0)
        generalize ((((w3.setCell ⟨w.heap.size, 0, none⟩ (Value.int .i64 0)).setCell ⟨w.heap.size, 1, none⟩ (Value.int .i64 0)).setCell ⟨w.heap.size, 2, none⟩ (Value.int .i64 0)).setCell ⟨w.heap.size, 3, none⟩ (Value.slice none 0 0)) = w4 at hr4 ht4 ⊢
        obtain ⟨⟨r0, r1, r2, r3⟩, _⟩ := row4 hr4
        refine bodyPost_ret (v := .tuple #[.agg #[.int .i64 0, .int .i64 0, .int .i64 0, .slice none 0 0], .bool false]) (by simp [results, Try.results30, go_sem, r0, r1, r2, r3]) rfl (.no HN.out (HBw.out.trans (ht4.below (fun k e => by omega) HBw.out.size)))
      | true =>
        have HY : Hid (Jn.inner b = some ⟨x, y, z, bi⟩) := by unfold Hid; rw [HE.out, if_pos hf]
        rw [hf] at HF1
        obtain ⟨i0, hi0, hz0, hz1, hz2⟩ := info_parts info_u8
        have Hi := Hid.mk' hi0; have Hz0 := Hid.mk' hz0; have Hz1 := Hid.mk' hz1; have Hz2 := Hid.mk' hz2
        clear hf HE hi0 hz0 hz1 hz2
        go_upto_region 13 with (go_at_call 23; refine HF1.out.mono ?_; rintro e w3 ⟨rfl, hb3⟩; have HB3 := Hid.mk' hb3; clear hb3)
        obtain ⟨hr3, hq3, hI3, hb⟩ := HRow.out w3 HB3.out
        have HI3 := Hid.mk' hI3
        have hz3 : w.heap.size + 3 ≤ w3.heap.size := by have := HB3.out.size; omega
        have HAp : Hid (∀ w4, Turns (fun k => blkB [] none = some k) w3 w4 → Below w3.heap.size w3 w4 ∧ (w4.heap[w.heap.size]? = some (.cells #[.int .i64 0, .int .i64 0, .int .i64 0, .slice none 0 0] 24 (0, 0)) ∧ w4.heap[w.heap.size + 2]? = some (.cells #[.int .i64 x, .int .i64 y, .int .i64 z, .slice ai ni ci] 24 (0, 0)))) := fun w4 ht => by
          have hb4 : Below w3.heap.size w3 w4 := ht.below (fun k e => by simp [blkB] at e) (Nat.le_refl _)
          exact ⟨hb4, (hb4.block _ (by omega)).trans hr3, (hb4.block _ (by omega)).trans hq3⟩
        have HBw := Hid.mk' hb
        clear hr3 hb hq3 hI3
        go_upto_region 14 with (at_builtin; refine wpList_append_grown (S := fun _ => False) rfl (.const (.slice none 0 0)) (.tmp 39) 22 rfl 5 i0 Try.underlying22 Hi.out Hz0.out Hz1.out Hz2.out (l := []) rfl rfl (GrowB.nil _ _ _) rfl HI3.out hni (by omega) ?_; intro bo4 bc4 w4 hO4 hT4; obtain ⟨hb4, hr4, hq4⟩ := HAp.out w4 hT4; have HR4 := Hid.mk' hr4; have HQ4 := Hid.mk' hq4; obtain ⟨⟨k0, k1, k2, k3⟩, l0, l1, l2, l3⟩ := row4 hq4; have HB4 := Hid.mk' hb4; have HO4 := Hid.mk' hO4; clear hO4 hT4 hb4 hr4 hq4)
        have ht5 : Turns (fun k => k = w.heap.size + 2) w4 (w4.setCell ⟨w.heap.size + 2, 3, none⟩ (.slice bo4 ni bc4)) := Turns.setCell _ w4 _ _ rfl
        have hq5 := heap_setCell_same w4 (w.heap.size + 2) 3 _ _ (.slice bo4 ni bc4) HQ4.out
        have hr5 := ht5.row HR4.out (by omega)
        have HO5 : Hid (IsBS (w4.setCell ⟨w.heap.size + 2, 3, none⟩ (.slice bo4 ni bc4)) (fun k => w3.heap.size ≤ k) bo4 bc4 bi) := by
          have h1 := HO4.out
          rw [List.nil_append] at h1
          refine (h1.isBS.mono (S' := fun k => w3.heap.size ≤ k) (fun k _ e => ?_)).turns ht5 (fun k e e2 => by omega)
          rcases e with e | e
          · simp [blkB] at e
          · exact e
        have HB5 : Hid (Below w.heap.size w (w4.setCell ⟨w.heap.size + 2, 3, none⟩ (.slice bo4 ni bc4))) := (HBw.out.trans (HB4.out.mono (by omega))).trans (ht5.below (fun k e => by omega) (by have := HB4.out.size; omega))
        generalize w4.setCell ⟨w.heap.size + 2, 3, none⟩ (.slice bo4 ni bc4) = w5 at *
        obtain ⟨⟨m0, m1, m2, m3⟩, _⟩ := row4 hq5
        obtain ⟨⟨p0, p1, p2, p3⟩, q0, q1, q2, q3⟩ := row4 hr5
        have HR5 := Hid.mk' hr5
        clear hr5 hq5 ht5 HQ4 HR4 HO4 k0 k1 k2 k3 l0 l1 l2 l3
        go_wp2
        obtain ⟨hr6, ht6⟩ := store4 HR5.out (.int .i64 x) (.int .i64 y) (.int .i64 z) (.slice bo4 ni bc4)
        generalize ((((w5.setCell ⟨w.heap.size, 0, none⟩ (Value.int .i64 x)).setCell ⟨w.heap.size, 1, none⟩ (Value.int .i64 y)).setCell ⟨w.heap.size, 2, none⟩ (Value.int .i64 z)).setCell ⟨w.heap.size, 3, none⟩ (Value.slice bo4 ni bc4)) = w6 at hr6 ht6 ⊢
        obtain ⟨⟨r0, r1, r2, r3⟩, _⟩ := row4 hr6
        have hy := InnOut.yes (w := w) (b := b) (w' := w6) ⟨x, y, z, bi⟩ bo4 bc4 HY.out ((HO5.out.turns ht6 (fun k e e2 => by omega)).mono (fun k _ e => by omega)) (HB5.out.trans (ht6.below (fun k e => by omega) HB5.out.size))
        dsimp only at hy
        rw [hni] at hy
        refine bodyPost_ret (v := .tuple #[.agg #[.int .i64 x, .int .i64 y, .int .i64 z, .slice bo4 ni bc4], .bool true]) (by simp [results, Try.results30, go_sem, r0, r1, r2, r3]) rfl hy
end Go.Proofs.Ytankilclhknbkaa
