/- Small texts, one behind the other: RfMTxA, FmB, RfMedA. -/
import Derived.Test.YtjpenioloeplgadGreatDoorPk2
import Derived.Test.YtjpenioloeplgadGreatDoorPk12
import Derived.Test.YtjpenioloeplgadGreatDoorPk5
import Derived.Deep.RegionHeld3
import Derived.Deep.DeepCutAuto
import Derived.Test.YtjpenioloeplgadGreatDoorFmA
import Derived.Test.YtjpenioloeplgadGreatDoorPk13
import Derived.Test.YtjpenioloeplgadGreatDoorPk10
/- The document's own answer: MediaText: what lies in memory while it runs. -/
namespace Go.Proofs.YtjpenioloeplgadGreatDoor
open Go.RowKit

/-- what is answered: a text, or a code -/
def MTxt (m : Nat ⊕ List UInt8) (e : Ending) : Prop :=
  ∃ (x : ByteArray) (code : Nat), e = .returned (.tuple #[.string x, .int .i64 (code : Int)]) ∧ match m with
    | .inl c => code = c ∧ x = ⟨#[]⟩
    | .inr t => code = 0 ∧ x.data.toList = t
theorem MTxt.bad {m : Nat ⊕ List UInt8} {c : Nat} (hm : m = .inl c) : MTxt m (.returned (.tuple #[.string ⟨#[]⟩, .int .i64 (c : Int)])) := by
  subst hm; exact ⟨_, c, rfl, rfl, rfl⟩
theorem MTxt.good {m : Nat ⊕ List UInt8} {x : ByteArray} (hm : m = .inr x.data.toList) : MTxt m (.returned (.tuple #[.string x, .int .i64 0])) := by
  subst hm; exact ⟨x, 0, rfl, rfl, rfl⟩
/-- the value in its box -/
structure BoxM (w : World) (wd : ByteArray) (ao : Option Addr) (n cap : Nat) (wr : World) : Prop where
  box : wr.heap[w.heap.size]? = some (.cells #[.string wd, .slice ao n cap] 61 (0, 0))
  below : Below w.heap.size w wr
section
variable {w wr w' : World} {wd : ByteArray} {ao : Option Addr} {n cap : Nat}
theorem BoxM.size (h : BoxM w wd ao n cap wr) : w.heap.size < wr.heap.size := (Array.getElem?_eq_some_iff.1 h.box).1
theorem BoxM.keep (h : BoxM w wd ao n cap wr) (hb : Below wr.heap.size wr w') : BoxM w wd ao n cap w' := by
  have hs := h.size
  exact ⟨(hb.block _ hs).trans h.box, h.below.trans (hb.mono (by omega))⟩
theorem BoxM.drewN (h : BoxM w wd ao n cap wr) (q : Nat) : BoxM w wd ao n cap (wr.drewN q) := h.keep ⟨rfl, rfl, rfl, Nat.le_refl _, fun _ _ => rfl⟩
theorem BoxM.start (w : World) (wd : ByteArray) (ao : Option Addr) (n cap : Nat) : BoxM w wd ao n cap (w.alloc (.cells #[.string wd, .slice ao n cap] 61)) := ⟨heap_alloc_new w _, (Below.refl _ _).alloc (Nat.le_refl _) _⟩
theorem BoxM.cells (h : BoxM w wd ao n cap wr) : wr.cell? ⟨w.heap.size, 0, none⟩ = some (.string wd) ∧ wr.cell? ⟨w.heap.size, 1, none⟩ = some (.slice ao n cap) := ⟨cell_of_row wr _ 0 _ _ _ h.box, cell_of_row wr _ 1 _ _ _ h.box⟩
/-- beside it a parameter, at block q -/
structure BoxP (w : World) (wd : ByteArray) (ao : Option Addr) (n cap q : Nat) (nm v : ByteArray) (wr : World) : Prop where
  box : BoxM w wd ao n cap wr
  par : wr.heap[q]? = some (.cells #[.string nm, .string v] 97 (0, 0))
variable {q : Nat} {nm v : ByteArray}
theorem BoxP.start (h : BoxM w wd ao n cap wr) (nm v : ByteArray) : BoxP w wd ao n cap wr.heap.size nm v (wr.alloc (.cells #[.string nm, .string v] 97)) :=
  ⟨h.keep ((Below.refl _ _).alloc (Nat.le_refl _) _), heap_alloc_new wr _⟩
theorem BoxP.keep (h : BoxP w wd ao n cap q nm v wr) (hb : Below wr.heap.size wr w') : BoxP w wd ao n cap q nm v w' :=
  ⟨h.box.keep hb, (hb.block _ (Array.getElem?_eq_some_iff.1 h.par).1).trans h.par⟩
theorem BoxP.drewN (h : BoxP w wd ao n cap q nm v wr) (z : Nat) : BoxP w wd ao n cap q nm v (wr.drewN z) := h.keep ⟨rfl, rfl, rfl, Nat.le_refl _, fun _ _ => rfl⟩
theorem BoxP.cells (h : BoxP w wd ao n cap q nm v wr) : wr.cell? ⟨q, 0, none⟩ = some (.string nm) ∧ wr.cell? ⟨q, 1, none⟩ = some (.string v) := ⟨cell_of_row wr _ 0 _ _ _ h.par, cell_of_row wr _ 1 _ _ _ h.par⟩
end
end Go.Proofs.YtjpenioloeplgadGreatDoor

/- Package forms, walked: next, give, seekBytes, the seeker's Feed. -/
namespace Go.Proofs.YtjpenioloeplgadGreatDoor
open Go.RowKit

set_option maxHeartbeats 1600000 in
theorem next_any (w : World) (p : Nat) (c : UInt8) (hp : p = 1 ∨ p = 2 ∨ p = 3 ∨ p = 4) :
    Calls Tryz.prog 98 #[.int .i64 (p : Int), .int .u8 c.toNat] w fun e w' => e = .returned (.tuple #[.int .i64 ((Fm.turn p c).1 : Int), .int .i64 ((Fm.turn p c).2 : Int)]) ∧ w' = w := by
  have T : ∀ d : UInt8, ((c.toNat : Int) == (d.toNat : Int)) = decide (c = d) := fun d => by
    rw [Bool.eq_iff_iff, beq_iff_eq, decide_eq_true_eq]
    constructor
    · intro e; exact UInt8.toNat_inj.1 (by omega)
    · intro e; rw [e]
  have t10 : ((c.toNat : Int) == 10) = decide (c = 10) := T 10
  have n10 : ((c.toNat : Int) != 10) = !decide (c = 10) := by rw [← t10]; rfl
  have t45 : ((c.toNat : Int) == 45) = decide (c = 45) := T 45
  have t32 : ((c.toNat : Int) == 32) = decide (c = 32) := T 32
  have t9 : ((c.toNat : Int) == 9) = decide (c = 9) := T 9
  have t13 : ((c.toNat : Int) == 13) = decide (c = 13) := T 13
  clear T
  have hv : ∃ x y : Nat, Fm.turn p c = (x, y) := ⟨_, _, rfl⟩
  obtain ⟨x, y, hxy⟩ := hv
  have HXY := Hid.mk' hxy
  rw [hxy]
  unfold Fm.turn at HXY
  generalize (c.toNat : Int) = ci at *
  clear hxy
  rcases hp with rfl | rfl | rfl | rfl
  · have HXY2 : Hid ((if c = 45 then (2, 0) else if c = 32 ∨ c = 9 then (3, 0) else if c = 13 then (4, 0) else (0, 5)) = (x, y)) := by
      have := HXY.out
      rw [if_neg (by decide), if_neg (by decide)] at this
      unfold Hid
      simpa using this
    clear HXY
    by_cases h45 : c = 45
    · obtain ⟨rfl, rfl⟩ : 2 = x ∧ 0 = y := by have := HXY2.out; rw [if_pos h45] at this; simpa using this
      rw [decide_eq_true h45] at t45
      clear h45 HXY2
      go_enter Tryz.func98, Tryz.ntmps98
      go_wp2
      go_ret2
      exact ⟨rfl, rfl⟩
    · rw [decide_eq_false h45] at t45
      by_cases hb : c = 32 ∨ c = 9
      · obtain ⟨rfl, rfl⟩ : 3 = x ∧ 0 = y := by have := HXY2.out; rw [if_neg h45, if_pos hb] at this; simpa using this
        rcases hb with hb | hb
        · rw [decide_eq_true hb] at t32
          clear h45 HXY2 hb
          go_enter Tryz.func98, Tryz.ntmps98
          go_wp2
          go_ret2
          exact ⟨rfl, rfl⟩
        · rw [decide_eq_false (by rw [hb]; decide)] at t32
          rw [decide_eq_true hb] at t9
          clear h45 HXY2 hb
          go_enter Tryz.func98, Tryz.ntmps98
          go_wp2
          go_ret2
          exact ⟨rfl, rfl⟩
      · rw [decide_eq_false (fun e => hb (Or.inl e))] at t32
        rw [decide_eq_false (fun e => hb (Or.inr e))] at t9
        by_cases h13 : c = 13
        · obtain ⟨rfl, rfl⟩ : 4 = x ∧ 0 = y := by have := HXY2.out; rw [if_neg h45, if_neg hb, if_pos h13] at this; simpa using this
          rw [decide_eq_true h13] at t13
          clear h45 HXY2 hb h13
          go_enter Tryz.func98, Tryz.ntmps98
          go_wp2
          go_ret2
          exact ⟨rfl, rfl⟩
        · obtain ⟨rfl, rfl⟩ : 0 = x ∧ 5 = y := by have := HXY2.out; rw [if_neg h45, if_neg hb, if_neg h13] at this; simpa using this
          rw [decide_eq_false h13] at t13
          clear h45 HXY2 hb h13
          go_enter Tryz.func98, Tryz.ntmps98
          go_wp2
          go_ret2
          exact ⟨rfl, rfl⟩
  · have HXY2 : Hid ((if c = 45 then (6, 0) else (0, 5)) = (x, y)) := by
      have := HXY.out
      rw [if_neg (by decide), if_pos rfl] at this
      exact this
    clear HXY
    by_cases h45 : c = 45
    · obtain ⟨rfl, rfl⟩ : 6 = x ∧ 0 = y := by have := HXY2.out; rw [if_pos h45] at this; simpa using this
      rw [decide_eq_true h45] at t45
      clear h45 HXY2
      go_enter Tryz.func98, Tryz.ntmps98
      go_wp2
      go_ret2
      exact ⟨rfl, rfl⟩
    · obtain ⟨rfl, rfl⟩ : 0 = x ∧ 5 = y := by have := HXY2.out; rw [if_neg h45] at this; simpa using this
      rw [decide_eq_false h45] at t45
      clear h45 HXY2
      go_enter Tryz.func98, Tryz.ntmps98
      go_wp2
      go_ret2
      exact ⟨rfl, rfl⟩
  · have HXY2 : Hid ((if c = 32 ∨ c = 9 then (3, 0) else if c = 13 then (4, 0) else (0, 5)) = (x, y)) := by
      have := HXY.out
      rw [if_neg (by decide), if_neg (by decide), if_neg (fun e => by have := e.1; omega)] at this
      exact this
    clear HXY
    by_cases hb : c = 32 ∨ c = 9
    · obtain ⟨rfl, rfl⟩ : 3 = x ∧ 0 = y := by have := HXY2.out; rw [if_pos hb] at this; simpa using this
      rcases hb with hb | hb
      · rw [decide_eq_true hb] at t32
        clear HXY2 hb
        go_enter Tryz.func98, Tryz.ntmps98
        go_wp2
        go_ret2
        exact ⟨rfl, rfl⟩
      · rw [decide_eq_false (by rw [hb]; decide)] at t32
        rw [decide_eq_true hb] at t9
        clear HXY2 hb
        go_enter Tryz.func98, Tryz.ntmps98
        go_wp2
        go_ret2
        exact ⟨rfl, rfl⟩
    · rw [decide_eq_false (fun e => hb (Or.inl e))] at t32
      rw [decide_eq_false (fun e => hb (Or.inr e))] at t9
      by_cases h13 : c = 13
      · obtain ⟨rfl, rfl⟩ : 4 = x ∧ 0 = y := by have := HXY2.out; rw [if_neg hb, if_pos h13] at this; simpa using this
        rw [decide_eq_true h13] at t13
        clear HXY2 hb h13
        go_enter Tryz.func98, Tryz.ntmps98
        go_wp2
        go_ret2
        exact ⟨rfl, rfl⟩
      · obtain ⟨rfl, rfl⟩ : 0 = x ∧ 5 = y := by have := HXY2.out; rw [if_neg hb, if_neg h13] at this; simpa using this
        rw [decide_eq_false h13] at t13
        clear HXY2 hb h13
        go_enter Tryz.func98, Tryz.ntmps98
        go_wp2
        go_ret2
        exact ⟨rfl, rfl⟩
  · have HXY2 : Hid ((if c = 10 then (5, 0) else (0, 2)) = (x, y)) := by
      have := HXY.out
      rw [if_pos rfl] at this
      exact this
    clear HXY
    by_cases h10 : c = 10
    · obtain ⟨rfl, rfl⟩ : 5 = x ∧ 0 = y := by have := HXY2.out; rw [if_pos h10] at this; simpa using this
      rw [decide_eq_true h10] at t10 n10
      clear h10 HXY2
      go_enter Tryz.func98, Tryz.ntmps98
      go_wp2
      go_ret2
      exact ⟨rfl, rfl⟩
    · obtain ⟨rfl, rfl⟩ : 0 = x ∧ 2 = y := by have := HXY2.out; rw [if_neg h10] at this; simpa using this
      rw [decide_eq_false h10] at t10 n10
      clear h10 HXY2
      go_enter Tryz.func98, Tryz.ntmps98
      go_wp2
      go_ret2
      exact ⟨rfl, rfl⟩

theorem giveF_any (w : World) (g : Nat) (fo : Option Addr) (nf fcap : Nat) (c3 : w.cell? ⟨g, 3, none⟩ = some (.slice fo nf fcap)) (f3 : w.frozen? ⟨g, 3, none⟩ = false) :
    Calls Tryz.prog 123 #[.pointer (some ⟨g, 2, none⟩)] w fun e w' => e = .returned (.slice fo nf fcap) ∧ w' = w.setCell ⟨g, 3, none⟩ (.slice none 0 0) := by
  go_enter Tryz.func123, Tryz.ntmps123
  go_wp2
  go_ret
  exact ⟨rfl, rfl⟩
theorem after_two {m : List UInt8} (h2 : m.take 2 = [13, 10]) (h3 : 3 ≤ m.length) : Sk.after m 0 13 = 1 ∧ Sk.after m 1 10 = 2 := by
  have hm1 : m.take 1 = [13] := by
    have := congrArg (List.take 1) h2
    rw [List.take_take] at this
    simpa using this
  have f0 : Sk.fit m 0 13 = 1 := by
    refine Sk.IsBest.best ⟨by omega, by rw [hm1]; exact List.suffix_refl _, fun k h1 _ hs => ?_⟩
    have := hs.length_le
    rw [List.length_take] at this; simp at this; omega
  have f1 : Sk.fit m 1 10 = 2 := by
    refine Sk.IsBest.best ⟨by omega, by rw [h2, hm1]; exact List.suffix_refl _, fun k h1 _ hs => ?_⟩
    have := hs.length_le
    rw [List.length_take] at this; simp at this; omega
  constructor
  · unfold Sk.after Sk.found; rw [f0]; simp; omega
  · unfold Sk.after Sk.found; rw [f1]; simp; omega

set_option maxHeartbeats 1600000 in
theorem seekBytes_any (w : World) (g gs : Nat) (m : List UInt8) (p : SkP) (v : Value) (c0 : w.cell? ⟨g, 0, none⟩ = some (.pointer (some ⟨gs, 0, none⟩))) (c1 : w.cell? ⟨g, 1, none⟩ = some v) (f1 : w.frozen? ⟨g, 1, none⟩ = false) (hne : g ≠ gs) (hS : SkAt w gs m 0 p) (h2 : m.take 2 = [13, 10]) (h3 : 3 ≤ m.length) (hL : m.length ≤ 1000000) :
    Calls Tryz.prog 44 #[.pointer (some ⟨g, 0, none⟩)] w fun e w' => ∃ w1, e = .returned (.tuple #[]) ∧ w' = w1.setCell ⟨g, 1, none⟩ (.int .i64 2) ∧ SkAt w1 gs m 2 p ∧ w.grownBy w1 (some gs) := by
  have HA := Hid.mk' (after_two h2 h3)
  have HS := Hid.mk' hS
  have HC : Hid (∀ W, w.grownBy W (some gs) → W.cell? ⟨g, 0, none⟩ = some (.pointer (some ⟨gs, 0, none⟩)) ∧ W.cell? ⟨g, 1, none⟩ = some v ∧ W.frozen? ⟨g, 1, none⟩ = false) := fun W hG => by
    have hn : (some g : Option Nat) ≠ some gs := fun e => hne (by injection e)
    refine ⟨hG.cell c0 hn, hG.cell c1 hn, ?_⟩
    rw [World.frozen?_of_block (a := ⟨g, 1, none⟩) (hG.block g (World.block_lt_of_cell? w _ c0) hn)]; exact f1
  have HL : Hid (3 ≤ m.length ∧ m.length ≤ 1000000) := ⟨h3, hL⟩
  clear hS h2 h3 hL c0 c1 f1
  go_enter Tryz.func44, Tryz.ntmps44
  go_wp2
  go_loopw [3] (fun vi wr => ∃ k : Nat, k ≤ 2 ∧ vi = .int .i64 k ∧ SkAt wr gs m k p ∧ w.grownBy wr (some gs)) (fun vi _ => 2 - (intOf vi).toNat)
  case atStart => exact ⟨0, by omega, rfl, HS.out, ⟨rfl, rfl, rfl, Nat.le_refl _, fun _ _ _ => rfl⟩⟩
  case round =>
    clear HS
    obtain ⟨k, hk, rfl, hS, hG⟩ := hrel
    have HS := Hid.mk' hS; have HG := Hid.mk' hG
    obtain ⟨c0, c1, f1⟩ := HC.out wr hG
    clear hS hG
    by_cases h2 : k = 2
    · subst h2
      go_wp2
      go_end0
      exact ⟨wr, rfl, rfl, HS.out, HG.out⟩
    · by_cases h0 : k = 0
      · subst h0
        have HF := Hid.mk' (fun (W : World) (hW : SkAt W gs m 0 p) => feedR_any W gs m 0 13 p hW (Nat.zero_le _) HL.out.2)
        rw [HA.out.1] at HF
        generalize (Sk.out m 0 13) = oo at HF
        generalize (Sk.found m 0 13) = ff at HF
        have HS0 := Hid.mk' (HS.out.stay (below_drew _ _))
        go_wp2
        go_region_held3 (fun w' => w'.cell? ⟨g, 0, none⟩ = some (.pointer (some ⟨gs, 0, none⟩))) (go_keep) (first | (go_at_call 68; refine (HF.out _ HS0.out).mono ?_; rintro e w2 ⟨ao', cap', rfl, hO, hS2, hG2⟩; have hG3 := grown_trans HG.out (grown_trans (grown_drew _ _) hG2); have c0' := (HC.out _ hG3).1; have HS2 := Hid.mk' hS2; have HG2 := Hid.mk' hG3; clear hO hS2 hG2 hG3))
        all_goals
          go_wp2
          go_roundw
          case rel => exact ⟨1, by omega, by go_num, HS2.out, HG2.out⟩
          case measure => simp [intOf]
      · obtain rfl : k = 1 := by omega
        have HF := Hid.mk' (fun (W : World) (hW : SkAt W gs m 1 p) => feedR_any W gs m 1 10 p hW (by have := HL.out.1; omega) HL.out.2)
        rw [HA.out.2] at HF
        generalize (Sk.out m 1 10) = oo at HF
        generalize (Sk.found m 1 10) = ff at HF
        have HS0 := Hid.mk' (HS.out.stay (below_drew _ _))
        go_wp2
        go_region_held3 (fun w' => w'.cell? ⟨g, 0, none⟩ = some (.pointer (some ⟨gs, 0, none⟩))) (go_keep) (first | (go_at_call 68; refine (HF.out _ HS0.out).mono ?_; rintro e w2 ⟨ao', cap', rfl, hO, hS2, hG2⟩; have hG3 := grown_trans HG.out (grown_trans (grown_drew _ _) hG2); have c0' := (HC.out _ hG3).1; have HS2 := Hid.mk' hS2; have HG2 := Hid.mk' hG3; clear hO hS2 hG2 hG3))
        all_goals
          go_wp2
          go_roundw
          case rel => exact ⟨2, by omega, by go_num, HS2.out, HG2.out⟩
          case measure => simp [intOf]

/-- what the seeker's Feed comes to -/
inductive SkFed (w : World) (g gs ah : Nat) (m : List UInt8) (h : Nat) (c : UInt8) (p : SkP) (e : Ending) (w' : World) : Prop
  | mk (w1 : World) (ao : Option Addr) (cap n : Nat) (he : e = .returned (.tuple #[.slice ao n cap, .bool (Sk.found m h c)])) (hn : n = ((Sk.out m h c).drop ah).length) (hw : w' = w1.setCell ⟨g, 1, none⟩ (.int .i64 ((ah - (Sk.out m h c).length : Nat) : Int))) (hB : IsB w1 ao cap ((Sk.out m h c).drop ah)) (hlo : ∀ a, ao = some a → w.heap.size ≤ a.block) (hS : SkAt w1 gs m (Sk.after m h c) p) (hG : w.grownBy w1 (some gs))
set_option maxHeartbeats 1600000 in
theorem seekerFeed_any (w : World) (g gs ah : Nat) (m : List UInt8) (h : Nat) (c : UInt8) (p : SkP) (c0 : w.cell? ⟨g, 0, none⟩ = some (.pointer (some ⟨gs, 0, none⟩))) (c1 : w.cell? ⟨g, 1, none⟩ = some (.int .i64 (ah : Int))) (f1 : w.frozen? ⟨g, 1, none⟩ = false) (hne : g ≠ gs) (hS : SkAt w gs m h p) (hh : h ≤ m.length - 1) (hL : m.length ≤ 1000) (ha : ah ≤ 1000) :
    Calls Tryz.prog 93 #[.pointer (some ⟨g, 0, none⟩), .int .u8 c.toNat] w fun e w' => SkFed w g gs ah m h c p e w' := by
  have HF := Hid.mk' (feedR_any w gs m h c p hS hh (by omega))
  have hol := Fm.out_length m h c hh
  have HC : Hid (∀ W, w.grownBy W (some gs) → W.cell? ⟨g, 0, none⟩ = some (.pointer (some ⟨gs, 0, none⟩)) ∧ W.cell? ⟨g, 1, none⟩ = some (.int .i64 (ah : Int)) ∧ W.frozen? ⟨g, 1, none⟩ = false) := fun W hG => by
    have hn : (some g : Option Nat) ≠ some gs := fun e => hne (by injection e)
    refine ⟨hG.cell c0 hn, hG.cell c1 hn, ?_⟩
    rw [World.frozen?_of_block (a := ⟨g, 1, none⟩) (hG.block g (World.block_lt_of_cell? w _ c0) hn)]; exact f1
  have hMk : ∀ (w1 : World) (ao ao2 : Option Addr) (cap n k : Nat), OwnB w1 w.heap.size 5 ao cap (Sk.out m h c) → SkAt w1 gs m (Sk.after m h c) p → w.grownBy w1 (some gs) → k = min ah (Sk.out m h c).length → n = (Sk.out m h c).length - k → (cap ≠ k → ao2 = ao.map (·.add k)) → (cap = k → ao2 = ao) → SkFed w g gs ah m h c p (.returned (.tuple #[.slice ao2 n (cap - k), .bool (Sk.found m h c)])) (w1.setCell ⟨g, 1, none⟩ (.int .i64 ((ah - (Sk.out m h c).length : Nat) : Int))) := fun w1 ao ao2 cap n k hO hS2 hG hk hn h1 h2 => by
    subst hk
    have hd : (Sk.out m h c).drop ah = (Sk.out m h c).drop (min ah (Sk.out m h c).length) := by
      rcases Nat.le_total ah (Sk.out m h c).length with e | e
      · rw [Nat.min_eq_left e]
      · rw [Nat.min_eq_right e, List.drop_eq_nil_of_le e, List.drop_eq_nil_of_le (Nat.le_refl _)]
    have hcut := hO.isB.cut (ao' := ao2) (min ah (Sk.out m h c).length) (Sk.out m h c).length (Nat.min_le_right _ _) (Nat.le_refl _) h1
    rw [List.take_of_length_le (by rw [List.length_drop]; omega), ← hd] at hcut
    refine .mk w1 ao2 (cap - min ah (Sk.out m h c).length) n rfl (by rw [hd, List.length_drop]; exact hn) rfl hcut (fun a e => ?_) hS2 hG
    by_cases hc : cap = min ah (Sk.out m h c).length
    · rw [h2 hc] at e; exact (hO.block a e).1
    · rw [h1 hc] at e
      cases ao with
      | none => cases e
      | some a0 => simp at e; subst e; rw [add_block]; exact (hO.block a0 rfl).1
  have HMk := Hid.mk' hMk
  generalize hout : Sk.out m h c = out at *
  generalize hfd : Sk.found m h c = fd at *
  obtain ⟨no, hno⟩ : ∃ no, out.length = no := ⟨_, rfl⟩
  have HNo := Hid.mk' hno
  rw [hno] at HF hol HMk
  clear hMk c1 f1 hS hout hfd hno
  go_enter Tryz.func93, Tryz.ntmps93
  go_wp2_with fail
  refine HF.out.mono ?_
  rintro e w1 ⟨ao, cap, rfl, hO, hS2, hG⟩
  clear c0
  obtain ⟨c0, c1, f1⟩ := HC.out w1 hG
  have hcap : no ≤ cap := by have := hO.isB.1; rw [HNo.out] at this; exact this
  have hnil : ao = none → cap = 0 := hO.isB.2.1
  have HR := Hid.mk' (fun ao2 n k => HMk.out w1 ao ao2 cap n k hO hS2 hG)
  clear hO hS2 hG HF HMk
  by_cases hle : ah ≤ no
  · have e1 : min (ah : Int) (no : Int) = ah := by omega
    have e2 : ah - no = 0 := by omega
    have e3 : min ah no = ah := Nat.min_eq_left hle
    rw [e2, e3] at HR
    by_cases hac : cap = ah
    · obtain rfl : no = ah := by omega
      subst hac
      go_wp2
      go_ret2
      have := HR.out ao 0 cap rfl (by omega) (fun e => absurd rfl e) (fun _ => rfl)
      simpa using this
    · cases ao with
      | none => have := hnil rfl; omega
      | some a0 =>
        go_wp2
        go_ret2
        exact HR.out _ _ ah rfl rfl (fun _ => rfl) (fun e => absurd e hac)
  · have e1 : min (ah : Int) (no : Int) = no := by omega
    have e3 : min ah no = no := Nat.min_eq_right (by omega)
    have e4 : ((ah - no : Nat) : Int) = (ah : Int) - no := by omega
    rw [e3, e4] at HR
    by_cases hac : cap = no
    · subst hac
      go_wp2
      go_ret2
      have := HR.out ao 0 cap rfl (by omega) (fun e => absurd rfl e) (fun _ => rfl)
      simpa using this
    · cases ao with
      | none => have := hnil rfl; omega
      | some a0 =>
        go_wp2
        go_ret2
        have := HR.out (some (a0.add no)) 0 no rfl (by omega) (fun _ => rfl) (fun e => absurd e hac)
        simpa using this
end Go.Proofs.YtjpenioloeplgadGreatDoor

/- The document's own answer: MediaOf: what lies in memory while it runs. -/
namespace Go.Proofs.YtjpenioloeplgadGreatDoor
open Go.RowKit

/-- what is told, and what was reckoned -/
def MedIs (m : Nat ⊕ (List UInt8 × List Pm.Par)) (word : ByteArray) (ps : List (ByteArray × ByteArray)) (code : Nat) : Prop :=
  match m with
  | .inl c => code = c ∧ word = ⟨#[]⟩ ∧ ps = []
  | .inr x => code = 0 ∧ word.data.toList = x.1 ∧ parL ps = x.2
/-- what is answered -/
def MedOut (w : World) (m : Nat ⊕ (List UInt8 × List Pm.Par)) (e : Ending) (w' : World) : Prop :=
  ∃ word ps ao cap, ∃ code : Nat, e = .returned (.tuple #[.agg #[.string word, .slice ao ps.length cap], .int .i64 (code : Int)]) ∧ MedIs m word ps code ∧ OwnV w' w.heap.size 97 2 ao cap ps.length (pairV ps) ∧ Below w.heap.size w w'
theorem MedOut.bad {w w' : World} {m : Nat ⊕ (List UInt8 × List Pm.Par)} {c : Nat} (hm : m = .inl c) (hb : Below w.heap.size w w') : MedOut w m (.returned (.tuple #[.agg #[.string ⟨#[]⟩, .slice none 0 0], .int .i64 (c : Int)])) w' := by
  subst hm
  exact ⟨⟨#[]⟩, [], none, 0, c, rfl, ⟨rfl, rfl, rfl⟩, OwnV.nil _ _ _ _, hb⟩
/-- the value that grows, and beside it the answer's place -/
structure MedAt (w : World) (word : ByteArray) (ps : List (ByteArray × ByteArray)) (ao : Option Addr) (cap : Nat) (wr : World) : Prop where
  res : wr.heap[w.heap.size]? = some (.cells #[.string ⟨#[]⟩, .slice none 0 0] 61 (0, 0))
  med : wr.heap[w.heap.size + 1]? = some (.cells #[.string word, .slice ao ps.length cap] 61 (0, 0))
  own : OwnV wr (w.heap.size + 2) 97 2 ao cap ps.length (pairV ps)
  below : Below w.heap.size w wr
section
variable {w wr w' : World} {word : ByteArray} {ps : List (ByteArray × ByteArray)} {ao : Option Addr} {cap : Nat}
theorem MedAt.size (h : MedAt w word ps ao cap wr) : w.heap.size + 2 ≤ wr.heap.size := by
  have := (Array.getElem?_eq_some_iff.1 h.med).1; omega
theorem MedAt.keep (h : MedAt w word ps ao cap wr) (hb : Below wr.heap.size wr w') : MedAt w word ps ao cap w' := by
  have hs := h.size
  exact ⟨(hb.block _ (by omega)).trans h.res, (hb.block _ (by omega)).trans h.med, h.own.stay hb, h.below.trans (hb.mono (by omega))⟩
theorem MedAt.cells (h : MedAt w word ps ao cap wr) : wr.cell? ⟨w.heap.size, 0, none⟩ = some (.string ⟨#[]⟩) ∧ wr.cell? ⟨w.heap.size, 1, none⟩ = some (.slice none 0 0) ∧ wr.frozen? ⟨w.heap.size, 0, none⟩ = false ∧ wr.frozen? ⟨w.heap.size, 1, none⟩ = false ∧
    wr.cell? ⟨w.heap.size + 1, 0, none⟩ = some (.string word) ∧ wr.cell? ⟨w.heap.size + 1, 1, none⟩ = some (.slice ao ps.length cap) ∧ wr.frozen? ⟨w.heap.size + 1, 0, none⟩ = false ∧ wr.frozen? ⟨w.heap.size + 1, 1, none⟩ = false :=
  ⟨cell_of_row wr _ 0 _ _ _ h.res, cell_of_row wr _ 1 _ _ _ h.res, frozen_of_row wr _ 0 _ _ h.res, frozen_of_row wr _ 1 _ _ h.res, cell_of_row wr _ 0 _ _ _ h.med, cell_of_row wr _ 1 _ _ _ h.med, frozen_of_row wr _ 0 _ _ h.med, frozen_of_row wr _ 1 _ _ h.med⟩
/-- its word is laid anew -/
theorem MedAt.word_ (h : MedAt w word ps ao cap wr) (x : ByteArray) : MedAt w x ps ao cap (wr.setCell ⟨w.heap.size + 1, 0, none⟩ (.string x)) := by
  refine ⟨?_, ?_, h.own.turns (Turns.setCell (fun i => i = w.heap.size + 1) wr _ _ rfl) (fun a e e2 => by have := (h.own.block a e).1; omega), h.below.setCell (by simp) _⟩
  · rw [heap_setCell_other _ _ _ _ (by simp)]; exact h.res
  · rw [heap_setCell_same wr (w.heap.size + 1) 0 _ _ _ h.med]; rfl
/-- its parameters are laid anew -/
theorem MedAt.pars {ps' : List (ByteArray × ByteArray)} {ao' : Option Addr} {cap' : Nat} (h : MedAt w word ps ao cap wr) (ho : OwnV w' (w.heap.size + 2) 97 2 ao' cap' ps'.length (pairV ps')) (hb : Below (w.heap.size + 2) wr w') (n : Nat) (hn : n = ps'.length) : MedAt w word ps' ao' cap' (w'.setCell ⟨w.heap.size + 1, 1, none⟩ (.slice ao' n cap')) := by
  subst hn
  have hr := (hb.block (w.heap.size) (by omega)).trans h.res
  have hm := (hb.block (w.heap.size + 1) (by omega)).trans h.med
  refine ⟨?_, ?_, ho.turns (Turns.setCell (fun i => i = w.heap.size + 1) w' _ _ rfl) (fun a e e2 => by have := (ho.block a e).1; omega), (h.below.trans (hb.mono (by omega))).setCell (by simp) _⟩
  · rw [heap_setCell_other _ _ _ _ (by simp)]; exact hr
  · rw [heap_setCell_same w' (w.heap.size + 1) 1 _ _ _ hm]; rfl
theorem MedAt.drewN (h : MedAt w word ps ao cap wr) (n : Nat) : MedAt w word ps ao cap (wr.drewN n) := h.keep ⟨rfl, rfl, rfl, Nat.le_refl _, fun _ _ => rfl⟩
theorem MedAt.start (w : World) (x : ByteArray) (n : Nat) : MedAt w x [] none 0 (((w.alloc (.cells #[.string ⟨#[]⟩, .slice none 0 0] 61)).drewN n).alloc (.cells #[.string x, .slice none 0 0] 61)) := by
  have e1 := heap_alloc_new w (.cells #[.string ⟨#[]⟩, .slice none 0 0] 61)
  have e2 := heap_alloc_new ((w.alloc (.cells #[.string ⟨#[]⟩, .slice none 0 0] 61)).drewN n) (.cells #[.string x, .slice none 0 0] 61)
  have hz : ((w.alloc (.cells #[.string ⟨#[]⟩, .slice none 0 0] 61)).drewN n).heap.size = w.heap.size + 1 := by simp [World.drewN]
  rw [hz] at e2
  have b1 : Below w.heap.size w (w.alloc (.cells #[.string ⟨#[]⟩, .slice none 0 0] 61)) := (Below.refl _ _).alloc (Nat.le_refl _) _
  have b2 : Below w.heap.size w ((w.alloc (.cells #[.string ⟨#[]⟩, .slice none 0 0] 61)).drewN n) := b1.trans ⟨rfl, rfl, rfl, Nat.le_refl _, fun _ _ => rfl⟩
  refine ⟨?_, e2, OwnV.nil _ _ _ _, b2.alloc (by rw [hz]; omega) _⟩
  rw [(World.grownBy_alloc _ _ none).block w.heap.size (by rw [hz]; omega) (by simp)]
  exact e1
/-- a parameter that is read beside it, at block q -/
structure MedPar (w : World) (word : ByteArray) (ps : List (ByteArray × ByteArray)) (ao : Option Addr) (cap q : Nat) (nm v : ByteArray) (wr : World) : Prop where
  med : MedAt w word ps ao cap wr
  par : wr.heap[q]? = some (.cells #[.string nm, .string v] 97 (0, 0))
  q_ : w.heap.size + 2 ≤ q
  apart : ∀ a, ao = some a → a.block ≠ q
variable {q : Nat} {nm v : ByteArray}
theorem MedPar.start (h : MedAt w word ps ao cap wr) (n : Nat) (nm : ByteArray) : MedPar w word ps ao cap wr.heap.size nm ⟨#[]⟩ ((wr.drewN n).alloc (.cells #[.string nm, .string ⟨#[]⟩] 97)) := by
  have hs := h.size
  refine ⟨(h.drewN n).keep ((Below.refl _ _).alloc (Nat.le_refl _) _), heap_alloc_new (wr.drewN n) _, hs, fun a e e2 => ?_⟩
  have := (h.own.block a e).2
  omega
theorem MedPar.keep (h : MedPar w word ps ao cap q nm v wr) (hb : Below wr.heap.size wr w') : MedPar w word ps ao cap q nm v w' :=
  ⟨h.med.keep hb, (hb.block _ (Array.getElem?_eq_some_iff.1 h.par).1).trans h.par, h.q_, h.apart⟩
theorem MedPar.drewN (h : MedPar w word ps ao cap q nm v wr) (n : Nat) : MedPar w word ps ao cap q nm v (wr.drewN n) := h.keep ⟨rfl, rfl, rfl, Nat.le_refl _, fun _ _ => rfl⟩
theorem MedPar.cells (h : MedPar w word ps ao cap q nm v wr) : wr.cell? ⟨q, 0, none⟩ = some (.string nm) ∧ wr.cell? ⟨q, 1, none⟩ = some (.string v) ∧ wr.frozen? ⟨q, 0, none⟩ = false ∧ wr.frozen? ⟨q, 1, none⟩ = false :=
  ⟨cell_of_row wr _ 0 _ _ _ h.par, cell_of_row wr _ 1 _ _ _ h.par, frozen_of_row wr _ 0 _ _ h.par, frozen_of_row wr _ 1 _ _ h.par⟩
/-- behind an append -/
theorem MedPar.row (h : MedPar w word ps ao cap q nm v wr) (o : Obj) {w3 : World} (hG : (wr.alloc o).grownBy w3 (blockOf ao)) : Below (w.heap.size + 2) wr w3 := by
  have hs := h.med.size
  refine ((Below.refl _ _).alloc hs o).grown hG (by simp; omega) (fun k e => ?_)
  cases ao with
  | none => simp [blockOf] at e
  | some a => simp only [blockOf, Option.some.injEq] at e; have := (h.med.own.block a rfl).1; omega
theorem MedPar.name (h : MedPar w word ps ao cap q nm v wr) (x : ByteArray) : MedPar w word ps ao cap q x v (wr.setCell ⟨q, 0, none⟩ (.string x)) := by
  have hq := h.q_
  refine ⟨⟨?_, ?_, h.med.own.turns (Turns.setCell (fun i => i = q) wr _ _ rfl) (fun a e e2 => h.apart a e e2), h.med.below.setCell (show w.heap.size ≤ q by omega) _⟩, ?_, hq, h.apart⟩
  · rw [heap_setCell_other _ _ _ _ (show w.heap.size ≠ q by omega)]; exact h.med.res
  · rw [heap_setCell_other _ _ _ _ (show w.heap.size + 1 ≠ q by omega)]; exact h.med.med
  · rw [heap_setCell_same wr q 0 _ _ _ h.par]; rfl
theorem MedPar.value (h : MedPar w word ps ao cap q nm v wr) (x : ByteArray) : MedPar w word ps ao cap q nm x (wr.setCell ⟨q, 1, none⟩ (.string x)) := by
  have hq := h.q_
  refine ⟨⟨?_, ?_, h.med.own.turns (Turns.setCell (fun i => i = q) wr _ _ rfl) (fun a e e2 => h.apart a e e2), h.med.below.setCell (show w.heap.size ≤ q by omega) _⟩, ?_, hq, h.apart⟩
  · rw [heap_setCell_other _ _ _ _ (show w.heap.size ≠ q by omega)]; exact h.med.res
  · rw [heap_setCell_other _ _ _ _ (show w.heap.size + 1 ≠ q by omega)]; exact h.med.med
  · rw [heap_setCell_same wr q 1 _ _ _ h.par]; rfl
end
end Go.Proofs.YtjpenioloeplgadGreatDoor
