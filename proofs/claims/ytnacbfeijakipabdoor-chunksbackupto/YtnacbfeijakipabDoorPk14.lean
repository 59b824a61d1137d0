/- Small texts, one behind the other: CkIn, FbTz, MemS, FbBits. -/
import Derived.Test.YtnacbfeijakipabDoorPk13
import Derived.Test.YtnacbfeijakipabDoorPk2
import Derived.Test.YtnacbfeijakipabDoorProg
import Derived.Test.YtnacbfeijakipabDoorPk1
import Derived.Lib.AppendStr
import Derived.Test.YtnacbfeijakipabDoorPk4
import Derived.Test.YtnacbfeijakipabDoorPk3
import Derived.Laws.Bits64b
/- A reader of a body in chunks that a law holds, and apart from it the bytes that came; all that was there ahead stays. -/
namespace Go.Proofs.YtnacbfeijakipabDoor
open Go.RowKit

/-- made behind world w0: the reader at block g, and apart from it the bytes got -/
structure CkIn (w0 : World) (g : Nat) (s : Ck.St) (ao : Option Addr) (cap : Nat) (got : List UInt8) (wr : World) : Prop where
  rd : ∃ S, CkAt wr S g s ∧ (∀ a, ao = some a → ¬ S a.block) ∧ ∀ i, S i → w0.heap.size ≤ i
  good : Ck.Good s
  own : OwnB wr w0.heap.size 5 ao cap got
  below : Below w0.heap.size w0 wr
section
variable {w0 : World} {g : Nat} {s : Ck.St} {ao : Option Addr} {cap : Nat} {got : List UInt8} {wr : World}
theorem newCk_in (w0 : World) :
    Calls Tryd.prog 22 #[] w0 fun e w' => ∃ g, e = .returned (.pointer (some ⟨g, 0, none⟩)) ∧ CkIn w0 g Ck.start none 0 [] w' := by
  refine (newChunks_any w0).mono ?_
  rintro e w' ⟨g, rfl, hC, hB⟩
  exact ⟨g, rfl, ⟨⟨_, hC, (fun a e => by cases e), fun i e => e⟩, Ck.Good.start, OwnB.nil _ _ _, hB⟩⟩
theorem CkIn.feed (h : CkIn w0 g s ao cap got wr) (c : UInt8) :
    Calls Tryd.prog 23 #[.pointer (some ⟨g, 0, none⟩), .int .u8 c.toNat] wr fun e w' => ∃ bo bc, e = .returned (.tuple #[.slice bo (Ck.out s c).length bc, .bool (Ck.over s c), .int .i64 ((Ck.next s c).code : Int)]) ∧ IsB w' bo bc (Ck.out s c) ∧ CkIn w0 g (Ck.next s c) ao cap got w' := by
  obtain ⟨S, hC, ha, hS⟩ := h.rd
  refine (feedChunks_any wr S g s c hC h.good).mono ?_
  rintro e w' ⟨bo, bc, he, hI, hC', hT⟩
  subst he
  have hsz := h.below.size
  refine ⟨bo, bc, rfl, hI, ⟨⟨orNew S wr, hC', fun a e k => ?_, fun i k => ?_⟩, h.good.next c, h.own.turns hT ha, h.below.trans (hT.below hS hsz)⟩⟩
  · rcases k with k | k
    · exact ha a e k
    · have := (h.own.block a e).2; omega
  · rcases k with k | k
    · exact hS i k
    · omega
/-- the bytes grew -/
theorem CkIn.grow (h : CkIn w0 g s ao cap got wr) {w' : World} {ao' : Option Addr} {cap' : Nat} {got' : List UInt8} (hO : OwnB w' w0.heap.size 5 ao' cap' got') (hg : wr.grownBy w' (blockOf ao)) (hat : blockOf ao' = blockOf ao ∨ blockOf ao' = some wr.heap.size) : CkIn w0 g s ao' cap' got' w' := by
  obtain ⟨S, hC, ha, hS⟩ := h.rd
  have hT : Turns (fun k => blockOf ao = some k) wr w' := Turns.of_grown hg (fun k e => e)
  refine ⟨⟨fun k => S k ∧ k < wr.heap.size, (hC.mono (fun k hk e => ⟨e, hk⟩)).turns hT (fun k e e2 => ?_), fun a e k => ?_, fun i e => hS i e.1⟩, h.good, hO, h.below.trans (hT.below (fun k e => ?_) h.below.size)⟩
  · cases ao with
    | none => cases e2
    | some a => injection e2 with e2; exact ha a rfl (e2 ▸ e.1)
  · subst e
    rcases hat with e | e
    · cases ao with
      | none => cases e
      | some a' => injection e with e; exact ha a' rfl (e ▸ k.1)
    · injection e with e
      have := k.2; omega
  · cases ao with
    | none => cases e
    | some a => injection e with e; have := (h.own.block a rfl).1; omega
theorem CkIn.drewN (h : CkIn w0 g s ao cap got wr) (n : Nat) : CkIn w0 g s ao cap got (wr.drewN n) := by
  obtain ⟨S, hC, ha, hS⟩ := h.rd
  have hT : Turns (fun _ => False) wr (wr.drewN n) := Turns.drewN _ _ _
  exact ⟨⟨S, hC.turns hT (fun _ _ e => e), ha, hS⟩, h.good, h.own.turns hT (fun _ _ e => e), h.below.trans (drewN_below ⟨n, rfl⟩ |>.mono h.below.size)⟩
end
end Go.Proofs.YtnacbfeijakipabDoor

/- math/bits.TrailingZeros of 16, walked: the library's own table holds 4 at place 15. -/
namespace Go.Proofs.YtnacbfeijakipabDoor
open Go.RowKit

/-- the library's table of trailing zeros, at the place that 16 leads to -/
def TzAt (w : World) : Prop := w.cell? ⟨5, 15, none⟩ = some (.int .u8 4)
theorem TzAt.stay {w w' : World} (h : TzAt w) (hb : Below w.heap.size w w') : TzAt w' := by
  unfold TzAt at h ⊢
  rw [hb.cell (World.block_lt_of_cell? w _ h)]; exact h

theorem tz_key : IntKind.u64.wrap (bits BinOp.and IntKind.u64 16 (IntKind.u64.wrap (-16)) * 285870213051353865) / 288230376151711744 = 15 := by decide +kernel

theorem tz64_16 (w : World) (hT : TzAt w) :
    Calls Tryd.prog 97 #[.int .u64 16] w fun e w' => e = .returned (.int .i64 4) ∧ w' = w := by
  have h15 : w.cell? ⟨5, 15, none⟩ = some (.int .u8 4) := hT
  clear hT
  have key := tz_key
  go_enter Tryd.func97, Tryd.ntmps97
  go_wp2
  go_ret
  exact ⟨rfl, rfl⟩

theorem tz_16 (w : World) (hT : TzAt w) :
    Calls Tryd.prog 93 #[.int .u64 16] w fun e w' => e = .returned (.int .i64 4) ∧ w' = w := by
  have HT := Hid.mk' (tz64_16 w hT)
  clear hT
  go_enter Tryd.func93, Tryd.ntmps93
  go_wp2_with fail
  refine HT.out.mono ?_
  rintro e w1 ⟨rfl, hw⟩
  subst hw
  go_wp2
  go_ret
  exact ⟨rfl, rfl⟩

theorem pow2_16 (w : World) :
    Calls Tryd.prog 92 #[.int .i64 16] w fun e w' => e = .returned (.bool true) ∧ w' = w := by
  go_enter Tryd.func92, Tryd.ntmps92
  go_wp2
  go_ret
  exact ⟨rfl, rfl⟩
end Go.Proofs.YtnacbfeijakipabDoor

/- 'append(b, s...)', b bytes of the call's own, s a text; of whatever program. -/
namespace Go.Proofs.YtnacbfeijakipabDoor
open Go.RowKit

theorem strCells_eq (s : ByteArray) : Lib.strCells s = byteV s.data.toList := rfl
theorem wpList_append_s {P : Program} {w : World} {ops : Array Oper} {rest : List Oper} {o : Oper} {a : Act} {Q : Exit → Act → World → Prop} (hgd : o.guard = none) (s x : Operand) (t u : TypeId)
    (ho : o.op = .call { callee := .builtin .append, args := #[s, x], argTypes := #[t, u] })
    (base : Nat) (e : TypeId) (i : TypeInfo) (ht : P.underlying t = some (.slice e)) (hu : P.underlying u = some .string) (hi : P.info? e = some i) (hz : i.zero = some (.int .u8 0)) (hz1 : i.size = 1) (hz2 : i.bytes = 1)
    {ao : Option Addr} {cap n : Nat} {l : List UInt8} (hs : a.eval s = .slice ao n cap) (hn : l.length = n) (hown : OwnB w base e ao cap l) (str : ByteArray) (hx : a.eval x = .string str)
    (hlen : n + str.size ≤ 140737488355328) (hbase : base ≤ w.heap.size)
    (h : ∀ ao' cap' w', OwnB w' base e ao' cap' (l ++ str.data.toList) → w.grownBy w' (blockOf ao) → wpList P ops Q rest (a.put o.dst (.slice ao' (n + str.size) cap')) w') : wpList P ops Q (o :: rest) a w := by
  subst hn
  refine Lib.wpList_append_own_string w hgd s x t u ho base e i ht hu hi hz hz1 hz2 _ l.length (byteV l) hs hown str hx (by unfold maxLen; omega) hlen hbase ?_
  intro v' w' hown' hg _
  rw [strCells_eq, ← byteV_append] at hown'
  have hsz : str.data.toList.length = str.size := by rw [Array.length_toList]; rfl
  obtain ⟨ao', cap', rfl, hB⟩ := OwnB.of (by rw [List.length_append, hsz]) hown'
  rw [ownBlock_slice] at hg
  have := h ao' cap' w' hB hg
  rw [List.length_append, hsz]
  exact this
/-- an append to what lies from base on turns nothing below it -/
theorem grown_base {w w' : World} {base t : Nat} {ao : Option Addr} {cap : Nat} {l : List UInt8} (hown : OwnB w base t ao cap l) (hg : w.grownBy w' (blockOf ao)) (hb : base ≤ w.heap.size) : Below base w w' :=
  ⟨hg.os, hg.tape, hg.output, hg.size, fun k hk => hg.block k (by omega) (fun e => by
    cases ao with
    | none => cases e
    | some a => injection e with e; have := (hown.block a rfl).1; omega)⟩
end Go.Proofs.YtnacbfeijakipabDoor

/- internal/strconv.formatBits to the base 16, walked; AppendUint, AppendInt. -/
namespace Go.Proofs.YtnacbfeijakipabDoor
open Go.RowKit

/-- behind k digits, the last ones first -/
structure FbRel (w : World) (base : Nat) (ao : Option Addr) (cap : Nat) (l : List UInt8) (n k u : Nat) (wr : World) : Prop where
  row : ∃ cs : Array Value, wr.heap[w.heap.size]? = some (.cells cs 107 (0, 0)) ∧ cs.size = 65 ∧ ∃ tail : List UInt8, tail.length = k ∧ (∀ j (hj : j < tail.length), cs[65 - k + j]? = some (.int .u8 (tail[j].toNat : Int))) ∧ Ch.hexF 5 n = Ch.hexF (5 - k) u ++ tail
  k_ : k ≤ 5
  u_ : u < 16 ^ (6 - k)
  own : OwnB wr base 5 ao cap l
  below : Below w.heap.size w wr

/-- a digit -/
theorem digit36 (d : Nat) (h : d < 16) (h' : d < (⟨#[48, 49, 50, 51, 52, 53, 54, 55, 56, 57, 97, 98, 99, 100, 101, 102, 103, 104, 105, 106, 107, 108, 109, 110, 111, 112, 113, 114, 115, 116, 117, 118, 119, 120, 121, 122]⟩ : ByteArray).size) :
    (⟨#[48, 49, 50, 51, 52, 53, 54, 55, 56, 57, 97, 98, 99, 100, 101, 102, 103, 104, 105, 106, 107, 108, 109, 110, 111, 112, 113, 114, 115, 116, 117, 118, 119, 120, 121, 122]⟩ : ByteArray)[d] = Ch.hexs.getD d 0 :=
  (show ∀ j : Fin 16, (⟨#[48, 49, 50, 51, 52, 53, 54, 55, 56, 57, 97, 98, 99, 100, 101, 102, 103, 104, 105, 106, 107, 108, 109, 110, 111, 112, 113, 114, 115, 116, 117, 118, 119, 120, 121, 122]⟩ : ByteArray)[j.val]'(Nat.lt_of_lt_of_le j.isLt (by decide)) = Ch.hexs.getD j.val 0 by decide +kernel) ⟨d, h⟩
theorem band15 (u : Nat) (h : u < 16777216) : bits BinOp.and IntKind.u64 (u : Int) 15 = ((u % 16 : Nat) : Int) := by
  have := bits_and_u64_nat u 15 (by omega) (by omega)
  rw [show ((15 : Nat) : Int) = (15 : Int) from rfl] at this
  rw [this, show (15 : Nat) = 2 ^ 4 - 1 from rfl, Nat.and_two_pow_sub_one_eq_mod]
section
variable {w : World} {base : Nat} {ao : Option Addr} {cap : Nat} {l : List UInt8} {n k u : Nat} {wr : World}
theorem FbRel.cell (h : FbRel w base ao cap l n k u wr) : (∃ v, wr.cell? ⟨w.heap.size, 65 - k - 1, none⟩ = some v) ∧ wr.frozen? ⟨w.heap.size, 65 - k - 1, none⟩ = false := by
  obtain ⟨cs, hg, hs, _⟩ := h.row
  refine ⟨⟨cs[65 - k - 1]'(by omega), cell_of_row wr w.heap.size (65 - k - 1) _ _ _ hg |>.trans ?_⟩, frozen_of_row wr _ _ _ _ hg⟩
  rw [Array.getElem?_eq_getElem (by omega)]
/-- one digit more: all but what is told of u -/
theorem FbRel.put (h : FbRel w base ao cap l n k u wr) (c : UInt8) : OwnB (wr.setCell ⟨w.heap.size, 65 - k - 1, none⟩ (.int .u8 (c.toNat : Int))) base 5 ao cap l ∧ Below w.heap.size w (wr.setCell ⟨w.heap.size, 65 - k - 1, none⟩ (.int .u8 (c.toNat : Int))) ∧
    ∃ cs : Array Value, (wr.setCell ⟨w.heap.size, 65 - k - 1, none⟩ (.int .u8 (c.toNat : Int))).heap[w.heap.size]? = some (.cells cs 107 (0, 0)) ∧ cs.size = 65 ∧ ∃ tail : List UInt8, tail.length = k + 1 ∧ (∀ j (hj : j < tail.length), cs[65 - (k + 1) + j]? = some (.int .u8 (tail[j].toNat : Int))) ∧ ∃ t', tail = c :: t' ∧ Ch.hexF 5 n = Ch.hexF (5 - k) u ++ t' := by
  obtain ⟨cs, hg, hs, tail, hl, hc, hx⟩ := h.row
  have hk := h.k_
  refine ⟨h.own.turns (Turns.setCell (fun i => i = w.heap.size) wr _ _ rfl) (fun a e e2 => ?_), h.below.setCell (Nat.le_refl _) _, cs.setIfInBounds (65 - k - 1) (.int .u8 (c.toNat : Int)), heap_setCell_same wr _ _ _ _ _ hg, by simp [hs], c :: tail, by simp [hl], fun j hj => ?_, tail, rfl, hx⟩
  · have := row_ne hg h.own (by decide)
    rw [ownBlock_slice, e] at this
    exact this (by simp [blockOf, e2])
  · cases j with
    | zero =>
      rw [show 65 - (k + 1) + 0 = 65 - k - 1 by omega, Array.getElem?_setIfInBounds_self_of_lt (by omega)]
      rfl
    | succ j =>
      rw [Array.getElem?_setIfInBounds_ne (by omega), show 65 - (k + 1) + (j + 1) = 65 - k + j by omega]
      exact hc j (by simpa using hj)
theorem FbRel.step (h : FbRel w base ao cap l n k u wr) (hk : k < 5) (hu : 16 ≤ u) (c : UInt8) (hc : c = Ch.hexs.getD (u % 16) 0) : FbRel w base ao cap l n (k + 1) (u / 16) (wr.setCell ⟨w.heap.size, 65 - k - 1, none⟩ (.int .u8 (c.toNat : Int))) := by
  obtain ⟨h1, h2, cs, h3, h4, tail, h5, h6, t', h7, h8⟩ := h.put c
  refine ⟨⟨cs, h3, h4, tail, h5, h6, ?_⟩, by omega, ?_, h1, h2⟩
  · rw [h8, h7, show 5 - k = (5 - (k + 1)) + 1 by omega]
    conv => lhs; unfold Ch.hexF
    rw [if_neg (by omega), hc]
    simp
  · have := h.u_
    rw [show 6 - k = (6 - (k + 1)) + 1 by omega, Nat.pow_succ] at this
    omega
theorem FbRel.last (h : FbRel w base ao cap l n k u wr) (hu : u < 16) (c : UInt8) (hc : c = Ch.hexs.getD u 0) : OwnB (wr.setCell ⟨w.heap.size, 65 - k - 1, none⟩ (.int .u8 (c.toNat : Int))) base 5 ao cap l ∧ Below w.heap.size w (wr.setCell ⟨w.heap.size, 65 - k - 1, none⟩ (.int .u8 (c.toNat : Int))) ∧
    (Ch.hexF 5 n).length = k + 1 ∧ IsB (wr.setCell ⟨w.heap.size, 65 - k - 1, none⟩ (.int .u8 (c.toNat : Int))) (some ⟨w.heap.size, 65 - k - 1, none⟩) (k + 1) (Ch.hexF 5 n) := by
  obtain ⟨h1, h2, cs, h3, h4, tail, h5, h6, t', h7, h8⟩ := h.put c
  have hk := h.k_
  have e : Ch.hexF 5 n = tail := by rw [h8, h7, Ch.hexF_small _ _ hu, hc]; rfl
  rw [e]
  refine ⟨h1, h2, h5, ⟨by omega, (fun e => by cases e), fun j hj => ⟨_, rfl, ?_⟩⟩⟩
  rw [Addr.add_lit, cell_of_row _ _ _ _ _ _ h3 |>.trans rfl, show 65 - k - 1 + j = 65 - (k + 1) + j by omega]
  exact h6 j hj
end

set_option maxRecDepth 100000 in
set_option maxHeartbeats 1600000 in
theorem formatBits_16 (w : World) (base : Nat) (n : Nat) (hn : n < 16777216) (ao : Option Addr) (cap m : Nat) (l : List UInt8) (hl : l.length = m) (hown : OwnB w base 5 ao cap l) (hb : base ≤ w.heap.size) (hm : m ≤ 1000000000) (hT : TzAt w) :
    Calls Tryd.prog 82 #[.slice ao m cap, .int .u64 n, .int .i64 16, .bool false, .bool true] w fun e w' => ∃ ao' cap', e = .returned (.tuple #[.slice ao' (m + (Ch.hexF 5 n).length) cap', .string ⟨#[]⟩]) ∧ OwnB w' base 5 ao' cap' (l ++ Ch.hexF 5 n) ∧ Below base w w' := by
  have HT := Hid.mk' (fun W (hW : Below w.heap.size w W) => tz_16 W (hT.stay hW))
  have HO := Hid.mk' hown
  clear hown hT
  go_enter Tryd.func82, Tryd.ntmps82
  go_wp2_with fail
  refine (pow2_16 _).mono ?_
  rintro e w1 ⟨rfl, hw⟩
  subst hw
  go_wp2_with fail
  refine (HT.out _ ((Below.refl _ _).alloc (Nat.le_refl _) _)).mono ?_
  rintro e w1 ⟨rfl, hw⟩
  subst hw
  clear HT
  have HR : Hid (FbRel w base ao cap l n 0 n (w.alloc (.cells Tryd.zeroCells107 107))) :=
    ⟨⟨_, heap_alloc_new w _, by kernel_rfl, [], rfl, (fun j hj => by cases hj), by simp⟩, by omega, hn, HO.out.alloc _, (Below.refl _ _).alloc (Nat.le_refl _) _⟩
  go_wp2
  go_loopw [1, 13] (fun vu vi wr => ∃ k u : Nat, vu = .int .u64 u ∧ vi = .int .i64 (65 - (k : Int)) ∧ FbRel w base ao cap l n k u wr) (fun vu _ _ => (intOf vu).toNat)
  case atStart => exact ⟨0, n, rfl, rfl, HR.out⟩
  case round =>
    clear HR HO
    obtain ⟨k, u, rfl, rfl, hR⟩ := hrel
    have HR := Hid.mk' hR
    have hk := hR.k_
    have hu := hR.u_
    have hu64 : u < 16777216 := Nat.lt_of_lt_of_le hu (by have : 16 ^ (6 - k) ≤ 16 ^ 6 := Nat.pow_le_pow_right (by decide) (by omega); simpa using this)
    clear hR
    by_cases h16 : 16 ≤ u
    · have hk4 : k < 5 := by
        rcases Nat.lt_or_ge k 5 with h | h
        · exact h
        · exfalso
          obtain rfl : k = 5 := by omega
          simp at hu; omega
      have t16 : decide ((u : Int) ≥ 16) = true := decide_eq_true (by omega)
      have hband := band15 u hu64
      obtain ⟨d, hd⟩ : ∃ d, d = u % 16 := ⟨_, rfl⟩
      have hd16 : d < 16 := by omega
      rw [← hd] at hband
      have HS := Hid.mk' (HR.out.step hk4 h16 (Ch.hexs.getD d 0) (by rw [hd]))
      obtain ⟨⟨v, c0⟩, f0⟩ := HR.out.cell
      have hdg := digit36 d hd16
      clear hu hd
      go_wp2
      go_roundw
      case rel => exact ⟨k + 1, u / 16, by go_num, by go_num, HS.out⟩
      case measure => simp [intOf]; omega
    · have t16 : decide ((u : Int) ≥ 16) = false := decide_eq_false (by omega)
      have hdg := digit36 u (by omega)
      obtain ⟨o1, b1, l1, i1⟩ := HR.out.last (by omega) (Ch.hexs.getD u 0) rfl
      generalize Ch.hexs.getD u 0 = c at *
      obtain ⟨⟨v, c0⟩, f0⟩ := HR.out.cell
      have hal : Tryd.prog.arrayLen 107 = 65 := by simp [Program.arrayLen, Tryd.underlying107]
      have hel : Tryd.prog.elem 107 = 5 := by simp [Program.elem, Tryd.underlying107]
      obtain ⟨i0, hi0, hz0, hz1, hz2⟩ := info_parts info_u8
      have hsl : ∀ W, (Instr.sliceAt 107 (.pointer (some ⟨w.heap.size, 0, none⟩)) (some (.int .i64 (65 - (k : Int) - 1))) none none).run Tryd.prog W = .ok (.slice (some ⟨w.heap.size, 65 - k - 1, none⟩) (k + 1) (k + 1)) W := fun W => by
        rw [run_sliceAt_array_l W 107 ⟨w.heap.size, 0, none⟩ (by rw [hal, hel]; exact Tryd.underlying107) .i64 (65 - (k : Int) - 1) (by omega) (by rw [hal]; omega), hal, hel]
        have e1 : (65 - (k : Int) - 1).toNat = 65 - k - 1 := by omega
        simp [sizeOf, typeInfo, hi0, hz1, slicedAt, e1, Addr.add_lit]
        omega
      have Hi := Hid.mk' hi0; have Hz0 := Hid.mk' hz0; have Hz1 := Hid.mk' hz1; have Hz2 := Hid.mk' hz2
      have HO := Hid.mk' o1; have HB := Hid.mk' b1; have HI := Hid.mk' i1; have HL := Hid.mk' l1
      clear hu o1 b1 i1 l1 hi0 hz0 hz1 hz2 HR
      generalize hhx : Ch.hexF 5 n = hx at *
      have HX := Hid.mk' hhx
      clear hhx
      go_wp2_with (at_builtin; refine wpList_append_at rfl (.tmp 95) (.tmp 97) 36 rfl base 5 i0 Tryd.underlying36 Hi.out Hz0.out Hz1.out Hz2.out (l := l) (l2 := hx) rfl hl HO.out rfl HL.out HI.out (by omega) (by have := HB.out.size; omega) ?_; intro ao3 cap3 w3 hO3 hG3 _; have HO3 := Hid.mk' hO3; have HG3 := Hid.mk' (grown_base HO.out hG3 (Nat.le_trans hb HB.out.size)); clear hO3 hG3)
      go_ret2
      have hx' := HX.out
      subst hx'
      exact ⟨ao3, cap3, by rw [HL.out]; rfl, HO3.out, (HB.out.mono hb).trans HG3.out⟩

/-- what an append of a number to the base 16 comes to -/
def AppOut (w : World) (base : Nat) (m : Nat) (l : List UInt8) (n : Nat) (e : Ending) (w' : World) : Prop := ∃ ao' cap', e = .returned (.slice ao' (m + (Ch.hexF 5 n).length) cap') ∧ OwnB w' base 5 ao' cap' (l ++ Ch.hexF 5 n) ∧ Below base w w'
section
variable (w : World) (base : Nat) (n : Nat) (hn : n < 16777216) (ao : Option Addr) (cap m : Nat) (l : List UInt8) (hl : l.length = m) (hown : OwnB w base 5 ao cap l) (hb : base ≤ w.heap.size) (hm : m ≤ 1000000000) (hT : TzAt w)
include hn hl hown hb hm hT
theorem appendUint_16 :
    Calls Tryd.prog 69 #[.slice ao m cap, .int .u64 n, .int .i64 16] w fun e w' => AppOut w base m l n e w' := by
  have HF := Hid.mk' (formatBits_16 w base n hn ao cap m l hl hown hb hm hT)
  clear hn hl hown hb hm hT
  go_enter Tryd.func69, Tryd.ntmps69
  go_wp2_with fail
  refine HF.out.mono ?_
  rintro e w1 ⟨ao', cap', rfl, h1, h2⟩
  have H1 := Hid.mk' h1; have H2 := Hid.mk' h2
  clear h1 h2
  go_wp2
  go_ret
  exact ⟨ao', cap', rfl, H1.out, H2.out⟩
theorem appendIntI_16 :
    Calls Tryd.prog 51 #[.slice ao m cap, .int .i64 n, .int .i64 16] w fun e w' => AppOut w base m l n e w' := by
  have HF := Hid.mk' (appendUint_16 w base n hn ao cap m l hl hown hb hm hT)
  have hw : IntKind.u64.wrap (n : Int) = (n : Int) := by rw [IntKind.wrap_u64]; omega
  clear hl hown hb hm hT
  go_enter Tryd.func51, Tryd.ntmps51
  go_wp2_with fail
  refine HF.out.mono ?_
  rintro e w1 ⟨ao', cap', rfl, h1, h2⟩
  have H1 := Hid.mk' h1; have H2 := Hid.mk' h2
  clear h1 h2
  go_wp2
  go_ret
  exact ⟨ao', cap', rfl, H1.out, H2.out⟩
theorem appendInt_16 :
    Calls Tryd.prog 35 #[.slice ao m cap, .int .i64 n, .int .i64 16] w fun e w' => AppOut w base m l n e w' := by
  have HF := Hid.mk' (appendIntI_16 w base n hn ao cap m l hl hown hb hm hT)
  clear hn hl hown hb hm hT
  go_enter Tryd.func35, Tryd.ntmps35
  go_wp2_with fail
  refine HF.out.mono ?_
  rintro e w1 ⟨ao', cap', rfl, h1, h2⟩
  have H1 := Hid.mk' h1; have H2 := Hid.mk' h2
  clear h1 h2
  go_wp2
  go_ret
  exact ⟨ao', cap', rfl, H1.out, H2.out⟩
end
end Go.Proofs.YtnacbfeijakipabDoor
