/- Small texts, one behind the other: RfMedA, TuM, RfMedP, RfMedL2, RfMedL3, RfMedL1, RfMedia. -/
import Derived.Test.YtdclmpdjjkjfjaaGreatDoorPk1
import Derived.Test.YtdclmpdjjkjfjaaGreatDoorPk14
import Derived.Test.YtdclmpdjjkjfjaaGreatDoorPk5
import Derived.Test.YtdclmpdjjkjfjaaGreatDoorPk12
import Derived.Deep.RegionHeld3
import Derived.Deep.DeepCutAuto
import Derived.Test.YtdclmpdjjkjfjaaGreatDoorPk6
/- The document's own answer: MediaOf: what lies in memory while it runs. -/
namespace Go.Proofs.YtdclmpdjjkjfjaaGreatDoor
open Go.RowKit

/-- what is told, and what was reckoned -/
def MedIs (m : Nat ⊕ (List UInt8 × List Pm.Par)) (word : ByteArray) (ps : List (ByteArray × ByteArray)) (code : Nat) : Prop :=
  match m with
  | .inl c => code = c ∧ word = ⟨#[]⟩ ∧ ps = []
  | .inr x => code = 0 ∧ word.data.toList = x.1 ∧ parL ps = x.2
/-- what is answered -/
def MedOut (w : World) (m : Nat ⊕ (List UInt8 × List Pm.Par)) (e : Ending) (w' : World) : Prop :=
  ∃ word ps ao cap, ∃ code : Nat, e = .returned (.tuple #[.agg #[.string word, .slice ao ps.length cap], .int .i64 (code : Int)]) ∧ MedIs m word ps code ∧ OwnV w' w.heap.size 133 2 ao cap ps.length (pairV ps) ∧ Below w.heap.size w w'
theorem MedOut.bad {w w' : World} {m : Nat ⊕ (List UInt8 × List Pm.Par)} {c : Nat} (hm : m = .inl c) (hb : Below w.heap.size w w') : MedOut w m (.returned (.tuple #[.agg #[.string ⟨#[]⟩, .slice none 0 0], .int .i64 (c : Int)])) w' := by
  subst hm
  exact ⟨⟨#[]⟩, [], none, 0, c, rfl, ⟨rfl, rfl, rfl⟩, OwnV.nil _ _ _ _, hb⟩
/-- the value that grows, and beside it the answer's place -/
structure MedAt (w : World) (word : ByteArray) (ps : List (ByteArray × ByteArray)) (ao : Option Addr) (cap : Nat) (wr : World) : Prop where
  res : wr.heap[w.heap.size]? = some (.cells #[.string ⟨#[]⟩, .slice none 0 0] 113 (0, 0))
  med : wr.heap[w.heap.size + 1]? = some (.cells #[.string word, .slice ao ps.length cap] 113 (0, 0))
  own : OwnV wr (w.heap.size + 2) 133 2 ao cap ps.length (pairV ps)
  below : Below w.heap.size w wr
section
variable {w wr w' : World} {word : ByteArray} {ps : List (ByteArray × ByteArray)} {ao : Option Addr} {cap : Nat}
theorem MedAt.size (h : MedAt w word ps ao cap wr) : w.heap.size + 2 ≤ wr.heap.size := by
  have := (Array.getElem?_eq_some_iff.1 h.med).1; omega
theorem MedAt.keep (h : MedAt w word ps ao cap wr) (hb : Below wr.heap.size wr w') : MedAt w word ps ao cap w' := by
  have hs := h.size
  exact ⟨(hb.block _ (by omega)).trans h.res, (hb.block _ (by omega)).trans h.med, h.own.stay hb, h.below.trans (hb.mono (by omega))⟩
theorem MedAt.cells (h : MedAt w word ps ao cap wr) : wr.cell? ⟨w.heap.size, 0, none⟩ = some (.string ⟨#[]⟩) ∧ wr.cell? ⟨w.heap.size, 1, none⟩ = some (.slice none 0 0) ∧ wr.frozen? ⟨w.heap.size, 0, none⟩ = false ∧ wr.frozen? ⟨w.heap.size, 1, none⟩ = false ∧
    wr.cell? ⟨w.heap.size + 1, 0, none⟩ = some (.string word) ∧ wr.cell? ⟨w.heap.size + 1, 1, none⟩ = some (.slice ao ps.length cap) ∧ wr.frozen? ⟨w.heap.size + 1, 0, none⟩ = false ∧ wr.frozen? ⟨w.heap.size + 1, 1, none⟩ = false :=
  ⟨cell_of_row wr _ 0 _ _ _ h.res, cell_of_row wr _ 1 _ _ _ h.res, frozen_of_row wr _ 0 _ _ h.res, frozen_of_row wr _ 1 _ _ h.res, cell_of_row wr _ 0 _ _ _ h.med, cell_of_row wr _ 1 _ _ _ h.med, frozen_of_row wr _ 0 _ _ h.med, frozen_of_row wr _ 1 _ _ h.med⟩
/-- its word is laid anew -/
theorem MedAt.word_ (h : MedAt w word ps ao cap wr) (x : ByteArray) : MedAt w x ps ao cap (wr.setCell ⟨w.heap.size + 1, 0, none⟩ (.string x)) := by
  refine ⟨?_, ?_, h.own.turns (Turns.setCell (fun i => i = w.heap.size + 1) wr _ _ rfl) (fun a e e2 => by have := (h.own.block a e).1; omega), h.below.setCell (by simp) _⟩
  · rw [heap_setCell_other _ _ _ _ (by simp)]; exact h.res
  · rw [heap_setCell_same wr (w.heap.size + 1) 0 _ _ _ h.med]; rfl
/-- its parameters are laid anew -/
theorem MedAt.pars {ps' : List (ByteArray × ByteArray)} {ao' : Option Addr} {cap' : Nat} (h : MedAt w word ps ao cap wr) (ho : OwnV w' (w.heap.size + 2) 133 2 ao' cap' ps'.length (pairV ps')) (hb : Below (w.heap.size + 2) wr w') (n : Nat) (hn : n = ps'.length) : MedAt w word ps' ao' cap' (w'.setCell ⟨w.heap.size + 1, 1, none⟩ (.slice ao' n cap')) := by
  subst hn
  have hr := (hb.block (w.heap.size) (by omega)).trans h.res
  have hm := (hb.block (w.heap.size + 1) (by omega)).trans h.med
  refine ⟨?_, ?_, ho.turns (Turns.setCell (fun i => i = w.heap.size + 1) w' _ _ rfl) (fun a e e2 => by have := (ho.block a e).1; omega), (h.below.trans (hb.mono (by omega))).setCell (by simp) _⟩
  · rw [heap_setCell_other _ _ _ _ (by simp)]; exact hr
  · rw [heap_setCell_same w' (w.heap.size + 1) 1 _ _ _ hm]; rfl
theorem MedAt.drewN (h : MedAt w word ps ao cap wr) (n : Nat) : MedAt w word ps ao cap (wr.drewN n) := h.keep ⟨rfl, rfl, rfl, Nat.le_refl _, fun _ _ => rfl⟩
theorem MedAt.start (w : World) (x : ByteArray) (n : Nat) : MedAt w x [] none 0 (((w.alloc (.cells #[.string ⟨#[]⟩, .slice none 0 0] 113)).drewN n).alloc (.cells #[.string x, .slice none 0 0] 113)) := by
  have e1 := heap_alloc_new w (.cells #[.string ⟨#[]⟩, .slice none 0 0] 113)
  have e2 := heap_alloc_new ((w.alloc (.cells #[.string ⟨#[]⟩, .slice none 0 0] 113)).drewN n) (.cells #[.string x, .slice none 0 0] 113)
  have hz : ((w.alloc (.cells #[.string ⟨#[]⟩, .slice none 0 0] 113)).drewN n).heap.size = w.heap.size + 1 := by simp [World.drewN]
  rw [hz] at e2
  have b1 : Below w.heap.size w (w.alloc (.cells #[.string ⟨#[]⟩, .slice none 0 0] 113)) := (Below.refl _ _).alloc (Nat.le_refl _) _
  have b2 : Below w.heap.size w ((w.alloc (.cells #[.string ⟨#[]⟩, .slice none 0 0] 113)).drewN n) := b1.trans ⟨rfl, rfl, rfl, Nat.le_refl _, fun _ _ => rfl⟩
  refine ⟨?_, e2, OwnV.nil _ _ _ _, b2.alloc (by rw [hz]; omega) _⟩
  rw [(World.grownBy_alloc _ _ none).block w.heap.size (by rw [hz]; omega) (by simp)]
  exact e1
/-- a parameter that is read beside it, at block q -/
structure MedPar (w : World) (word : ByteArray) (ps : List (ByteArray × ByteArray)) (ao : Option Addr) (cap q : Nat) (nm v : ByteArray) (wr : World) : Prop where
  med : MedAt w word ps ao cap wr
  par : wr.heap[q]? = some (.cells #[.string nm, .string v] 133 (0, 0))
  q_ : w.heap.size + 2 ≤ q
  apart : ∀ a, ao = some a → a.block ≠ q
variable {q : Nat} {nm v : ByteArray}
theorem MedPar.start (h : MedAt w word ps ao cap wr) (n : Nat) (nm : ByteArray) : MedPar w word ps ao cap wr.heap.size nm ⟨#[]⟩ ((wr.drewN n).alloc (.cells #[.string nm, .string ⟨#[]⟩] 133)) := by
  have hs := h.size
  refine ⟨(h.drewN n).keep ((Below.refl _ _).alloc (Nat.le_refl _) _), heap_alloc_new (wr.drewN n) _, hs, fun a e e2 => ?_⟩
  have := (h.own.block a e).2
  omega
theorem MedPar.keep (h : MedPar w word ps ao cap q nm v wr) (hb : Below wr.heap.size wr w') : MedPar w word ps ao cap q nm v w' :=
  ⟨h.med.keep hb, (hb.block _ (Array.getElem?_eq_some_iff.1 h.par).1).trans h.par, h.q_, h.apart⟩
theorem MedPar.drewN (h : MedPar w word ps ao cap q nm v wr) (n : Nat) : MedPar w word ps ao cap q nm v (wr.drewN n) := h.keep ⟨rfl, rfl, rfl, Nat.le_refl _, fun _ _ => rfl⟩
theorem MedPar.cells (h : MedPar w word ps ao cap q nm v wr) : wr.cell? ⟨q, 0, none⟩ = some (.string nm) ∧ wr.cell? ⟨q, 1, none⟩ = some (.string v) ∧ wr.frozen? ⟨q, 0, none⟩ = false ∧ wr.frozen? ⟨q, 1, none⟩ = false :=
  ⟨cell_of_row wr _ 0 _ _ _ h.par, cell_of_row wr _ 1 _ _ _ h.par, frozen_of_row wr _ 0 _ _ h.par, frozen_of_row wr _ 1 _ _ h.par⟩
/-- behind an append -/
theorem MedPar.row (h : MedPar w word ps ao cap q nm v wr) (o : Obj) {w3 : World} (hG : (wr.alloc o).grownBy w3 (blockOf ao)) : Below (w.heap.size + 2) wr w3 := by
  have hs := h.med.size
  refine ((Below.refl _ _).alloc hs o).grown hG (by simp; omega) (fun k e => ?_)
  cases ao with
  | none => simp [blockOf] at e
  | some a => simp only [blockOf, Option.some.injEq] at e; have := (h.med.own.block a rfl).1; omega
theorem MedPar.name (h : MedPar w word ps ao cap q nm v wr) (x : ByteArray) : MedPar w word ps ao cap q x v (wr.setCell ⟨q, 0, none⟩ (.string x)) := by
  have hq := h.q_
  refine ⟨⟨?_, ?_, h.med.own.turns (Turns.setCell (fun i => i = q) wr _ _ rfl) (fun a e e2 => h.apart a e e2), h.med.below.setCell (show w.heap.size ≤ q by omega) _⟩, ?_, hq, h.apart⟩
  · rw [heap_setCell_other _ _ _ _ (show w.heap.size ≠ q by omega)]; exact h.med.res
  · rw [heap_setCell_other _ _ _ _ (show w.heap.size + 1 ≠ q by omega)]; exact h.med.med
  · rw [heap_setCell_same wr q 0 _ _ _ h.par]; rfl
theorem MedPar.value (h : MedPar w word ps ao cap q nm v wr) (x : ByteArray) : MedPar w word ps ao cap q nm x (wr.setCell ⟨q, 1, none⟩ (.string x)) := by
  have hq := h.q_
  refine ⟨⟨?_, ?_, h.med.own.turns (Turns.setCell (fun i => i = q) wr _ _ rfl) (fun a e e2 => h.apart a e e2), h.med.below.setCell (show w.heap.size ≤ q by omega) _⟩, ?_, hq, h.apart⟩
  · rw [heap_setCell_other _ _ _ _ (show w.heap.size ≠ q by omega)]; exact h.med.res
  · rw [heap_setCell_other _ _ _ _ (show w.heap.size + 1 ≠ q by omega)]; exact h.med.med
  · rw [heap_setCell_same wr q 1 _ _ _ h.par]; rfl
end
end Go.Proofs.YtdclmpdjjkjfjaaGreatDoor

/- The document's own answer: whether a value is of the type that pieces have. -/
namespace Go.Proofs.YtdclmpdjjkjfjaaGreatDoor
open Go.RowKit

theorem MedIs.off {v : List UInt8} {word : ByteArray} {ps : List (ByteArray × ByteArray)} {code : Nat} (h : MedIs (Pm.media v) word ps code) : Tu.isOff v = (decide (code = 0) && decide (word = Tu.vOff)) := by
  unfold Tu.isOff
  unfold MedIs at h
  cases hm : Pm.media v with
  | inl c =>
    rw [hm] at h
    obtain ⟨_, rfl, _⟩ := h
    have : decide ((⟨#[]⟩ : ByteArray) = Tu.vOff) = false := by decide
    rw [this]; simp
  | inr x =>
    rw [hm] at h
    obtain ⟨rfl, h2, _⟩ := h
    rw [Bool.eq_iff_iff]
    simp only [decide_eq_true_eq, Bool.and_eq_true]
    refine ⟨fun e => ⟨trivial, ?_⟩, fun e => ?_⟩
    · rw [← h2] at e
      cases word; rename_i d
      unfold Tu.vOff at e ⊢
      simp only at e
      congr 1
      exact Array.toList_inj.1 e
    · rw [← h2, e.2]
end Go.Proofs.YtdclmpdjjkjfjaaGreatDoor

/- The document's own answer: MediaOf: pieces of its text, and what they may answer. -/
namespace Go.Proofs.YtdclmpdjjkjfjaaGreatDoor
open Go.RowKit

/-- a piece of a text, by the way to it -/
def subAt : List Nat → Code → Code
  | [], c => c
  | 0 :: p, .seq x _ => subAt p x
  | _ :: p, .seq _ y => subAt p y
  | _ :: p, .loop c => subAt p c
  | _ :: p, .block _ c => subAt p c
  | _ :: p, .scope c => subAt p c
  | 0 :: p, .cond _ x _ => subAt p x
  | _ :: p, .cond _ _ y => subAt p y
  | _, c => c
noncomputable def medLoop1 : Code := subAt [1, 1, 1, 1, 1, 1, 1, 1, 0] (Tryz.f61.body.getD .skip)
noncomputable def medLoop2 : Code := subAt [1, 1, 1, 1, 1, 1, 1, 1, 0, 0, 0, 1, 1, 1, 1, 1, 1, 1, 1, 0, 1, 0, 1, 1, 0, 0] (Tryz.f61.body.getD .skip)
noncomputable def medLoop3 : Code := subAt [1, 1, 1, 1, 1, 1, 1, 1, 0, 0, 0, 1, 1, 1, 1, 1, 1, 1, 1, 1, 0, 1, 0] (Tryz.f61.body.getD .skip)
/-- what is answered from within -/
def MedRet (w : World) (m : Nat ⊕ (List UInt8 × List Pm.Par)) (Q0 : Exit → Act → World → Prop) : Prop :=
  ∀ (tm : Array Value) (c : Int) (v0 v1 : Value) (w' : World), tm[2]? = some (.pointer (some ⟨w.heap.size, 0, none⟩)) → tm[3]? = some (.int .i64 c) → w'.cell? ⟨w.heap.size, 0, none⟩ = some v0 → w'.cell? ⟨w.heap.size, 1, none⟩ = some v1 →
    MedOut w m (.returned (.tuple #[.agg #[v0, v1], .int .i64 c])) w' → Q0 .ret ⟨tm, []⟩ w'
theorem MedRet.bad {w : World} {m : Nat ⊕ (List UInt8 × List Pm.Par)} {Q0 : Exit → Act → World → Prop} (H : MedRet w m Q0) {c : Nat} (hm : m = .inl c) (tm : Array Value) (w' : World) (h2 : tm[2]? = some (.pointer (some ⟨w.heap.size, 0, none⟩))) (h3 : tm[3]? = some (.int .i64 (c : Int)))
    (hc0 : w'.cell? ⟨w.heap.size, 0, none⟩ = some (.string ⟨#[]⟩)) (hc1 : w'.cell? ⟨w.heap.size, 1, none⟩ = some (.slice none 0 0)) (hb : Below w.heap.size w w') : Q0 .ret ⟨tm, []⟩ w' :=
  H tm c _ _ w' h2 h3 hc0 hc1 (MedOut.bad hm hb)
/-- a code from within a loop -/
def CodeRet (w : World) (c : Nat) (P : Prop) (Q0 : Exit → Act → World → Prop) : Prop :=
  ∀ (tm : Array Value) (w' : World), tm[2]? = some (.pointer (some ⟨w.heap.size, 0, none⟩)) → tm[3]? = some (.int .i64 (c : Int)) → w'.cell? ⟨w.heap.size, 0, none⟩ = some (.string ⟨#[]⟩) → w'.cell? ⟨w.heap.size, 1, none⟩ = some (.slice none 0 0) → Below w.heap.size w w' → P → Q0 .ret ⟨tm, []⟩ w'
theorem zero_cells {w wr : World} (c0 : wr.cell? ⟨w.heap.size, 0, none⟩ = some (.string ⟨#[]⟩)) (c1 : wr.cell? ⟨w.heap.size, 1, none⟩ = some (.slice none 0 0)) :
    ((wr.setCell ⟨w.heap.size, 0, none⟩ (.string ⟨#[]⟩)).setCell ⟨w.heap.size, 1, none⟩ (.slice none 0 0)).cell? ⟨w.heap.size, 0, none⟩ = some (.string ⟨#[]⟩) ∧ ((wr.setCell ⟨w.heap.size, 0, none⟩ (.string ⟨#[]⟩)).setCell ⟨w.heap.size, 1, none⟩ (.slice none 0 0)).cell? ⟨w.heap.size, 1, none⟩ = some (.slice none 0 0) := by
  constructor
  · rw [World.cell?_setCell_other (h := by intro h; injection h with _ h2; cases h2), World.cell?_setCell_same wr _ _ c0]
  · exact World.cell?_setCell_same _ _ _ (by rw [World.cell?_setCell_other (h := by intro h; injection h with _ h2; cases h2)]; exact c1)
end Go.Proofs.YtdclmpdjjkjfjaaGreatDoor

/- The document's own answer, walked: MediaOf's loop over a quoted text. -/
namespace Go.Proofs.YtdclmpdjjkjfjaaGreatDoor
open Go.RowKit

set_option maxRecDepth 100000 in
set_option maxHeartbeats 4000000 in
theorem medLoop2_any (s : ByteArray) (w wr0 : World) (hs : s.size ≤ 2000) (i3 : Nat) (hlt3 : i3 < s.size) (wo nm : ByteArray) (ps : List (ByteArray × ByteArray)) (ao : Option Addr) (cap q : Nat) (hP0 : MedPar w wo ps ao cap q nm ⟨#[]⟩ wr0) (Q0 : Exit → Act → World → Prop)
    (x1 x3 x5 x6 x9 x10 x11 x12 x13 x14 x15 x16 x17 x18 x19 x20 x21 x22 x23 x24 x25 x26 x27 x28 x29 x30 x31 x32 x33 x34 x35 x36 x37 x38 x39 x40 x41 x42 x43 x44 x45 x46 x47 x48 x49 x50 x51 x52 x53 x54 x55 x56 x57 x58 x59 x60 x61 x62 x63 x64 x65 x66 x67 x68 x69 x70 x71 x72 x73 x74 x75 x76 x77 x78 x79 x80 x81 x82 x83 x84 x85 x86 x87 x88 x89 x90 x91 x92 x93 x94 x95 x96 x97 x98 x99 x100 x101 x102 x103 x104 x105 x106 x107 x108 x109 x110 x111 x112 x113 x114 x115 x116 x117 x118 x119 x120 x121 x122 x123 x124 x125 x126 x127 x128 x129 x130 x131 x132 x133 x134 x135 x136 x137 x138 x139 x140 x141 x142 x143 x144 x145 x146 x147 x148 x149 x150 x151 x152 x153 x154 x155 x156 x157 x158 x159 x160 x161 x162 x163 x164 x165 x166 x167 x168 x169 x170 x171 x172 x173 x174 x175 x176 x177 x178 x179 x180 x181 x182 x183 x184 x185 x186 x187 x188 x189 x190 x191 x192 x193 x194 x195 x196 x197 x198 x199 x200 x201 x202 x203 x204 x205 x206 x207 x208 x209 x210 x211 x212 x213 x214 x215 x216 x217 x218 x219 x220 x221 x222 : Value)
    (hret : CodeRet w 14 (Pm.quo [] (s.data.toList.drop (i3 + 1)) = none) Q0)
    (hexit : ∀ (k : Nat) (v : ByteArray) (cl : Bool) (w' : World) (y3 y131 y132 y133 y134 y135 y136 y137 y138 y139 y140 y141 y142 y143 y144 y145 y146 y147 y148 y149 y150 y151 y152 y153 y154 y155 y156 y157 y158 y159 y160 y161 y162 y163 y164 y165 y166 y167 y168 y169 y170 y171 y172 y173 y174 y175 : Value), i3 ≤ k → k ≤ s.size → MedPar w wo ps ao cap q nm v w' → (cl = true → Pm.quo [] (s.data.toList.drop (i3 + 1)) = some (v.data.toList, s.data.toList.drop k)) → (cl = false → Pm.quo [] (s.data.toList.drop (i3 + 1)) = none) →
      Q0 (.exit 2) ⟨(List.toArray ((.string s) :: x1 :: (.pointer (some ⟨w.heap.size, 0, none⟩)) :: (y3) :: (.int .i64 (k : Int)) :: x5 :: x6 :: (.pointer (some ⟨q, 0, none⟩)) :: (.bool cl) :: x9 :: x10 :: x11 :: x12 :: x13 :: x14 :: x15 :: x16 :: x17 :: x18 :: x19 :: x20 :: x21 :: x22 :: x23 :: x24 :: x25 :: x26 :: x27 :: x28 :: x29 :: x30 :: x31 :: x32 :: x33 :: x34 :: x35 :: x36 :: x37 :: x38 :: x39 :: x40 :: x41 :: x42 :: x43 :: x44 :: x45 :: x46 :: x47 :: x48 :: x49 :: x50 :: x51 :: x52 :: x53 :: x54 :: x55 :: x56 :: x57 :: x58 :: x59 :: x60 :: x61 :: x62 :: x63 :: x64 :: x65 :: x66 :: x67 :: x68 :: x69 :: x70 :: x71 :: x72 :: x73 :: x74 :: x75 :: x76 :: x77 :: x78 :: x79 :: x80 :: x81 :: x82 :: x83 :: x84 :: x85 :: x86 :: x87 :: x88 :: x89 :: x90 :: x91 :: x92 :: x93 :: x94 :: x95 :: x96 :: x97 :: x98 :: x99 :: x100 :: x101 :: x102 :: x103 :: x104 :: x105 :: x106 :: x107 :: x108 :: x109 :: x110 :: x111 :: x112 :: x113 :: x114 :: x115 :: x116 :: x117 :: x118 :: x119 :: x120 :: x121 :: x122 :: x123 :: x124 :: x125 :: x126 :: x127 :: x128 :: x129 :: x130 :: (y131) :: (y132) :: (y133) :: (y134) :: (y135) :: (y136) :: (y137) :: (y138) :: (y139) :: (y140) :: (y141) :: (y142) :: (y143) :: (y144) :: (y145) :: (y146) :: (y147) :: (y148) :: (y149) :: (y150) :: (y151) :: (y152) :: (y153) :: (y154) :: (y155) :: (y156) :: (y157) :: (y158) :: (y159) :: (y160) :: (y161) :: (y162) :: (y163) :: (y164) :: (y165) :: (y166) :: (y167) :: (y168) :: (y169) :: (y170) :: (y171) :: (y172) :: (y173) :: (y174) :: (y175) :: x176 :: x177 :: x178 :: x179 :: x180 :: x181 :: x182 :: x183 :: x184 :: x185 :: x186 :: x187 :: x188 :: x189 :: x190 :: x191 :: x192 :: x193 :: x194 :: x195 :: x196 :: x197 :: x198 :: x199 :: x200 :: x201 :: x202 :: x203 :: x204 :: x205 :: x206 :: x207 :: x208 :: x209 :: x210 :: x211 :: x212 :: x213 :: x214 :: x215 :: x216 :: x217 :: x218 :: x219 :: x220 :: x221 :: x222 :: [])), []⟩ w') :
    Code.wp Tryz.prog medLoop2 Q0 ⟨(List.toArray ((.string s) :: x1 :: (.pointer (some ⟨w.heap.size, 0, none⟩)) :: x3 :: (.int .i64 ((i3 : Int) + 1)) :: x5 :: x6 :: (.pointer (some ⟨q, 0, none⟩)) :: (.bool false) :: x9 :: x10 :: x11 :: x12 :: x13 :: x14 :: x15 :: x16 :: x17 :: x18 :: x19 :: x20 :: x21 :: x22 :: x23 :: x24 :: x25 :: x26 :: x27 :: x28 :: x29 :: x30 :: x31 :: x32 :: x33 :: x34 :: x35 :: x36 :: x37 :: x38 :: x39 :: x40 :: x41 :: x42 :: x43 :: x44 :: x45 :: x46 :: x47 :: x48 :: x49 :: x50 :: x51 :: x52 :: x53 :: x54 :: x55 :: x56 :: x57 :: x58 :: x59 :: x60 :: x61 :: x62 :: x63 :: x64 :: x65 :: x66 :: x67 :: x68 :: x69 :: x70 :: x71 :: x72 :: x73 :: x74 :: x75 :: x76 :: x77 :: x78 :: x79 :: x80 :: x81 :: x82 :: x83 :: x84 :: x85 :: x86 :: x87 :: x88 :: x89 :: x90 :: x91 :: x92 :: x93 :: x94 :: x95 :: x96 :: x97 :: x98 :: x99 :: x100 :: x101 :: x102 :: x103 :: x104 :: x105 :: x106 :: x107 :: x108 :: x109 :: x110 :: x111 :: x112 :: x113 :: x114 :: x115 :: x116 :: x117 :: x118 :: x119 :: x120 :: x121 :: x122 :: x123 :: x124 :: x125 :: x126 :: x127 :: x128 :: x129 :: x130 :: x131 :: x132 :: x133 :: x134 :: x135 :: x136 :: x137 :: x138 :: x139 :: x140 :: x141 :: x142 :: x143 :: x144 :: x145 :: x146 :: x147 :: x148 :: x149 :: x150 :: x151 :: x152 :: x153 :: x154 :: x155 :: x156 :: x157 :: x158 :: x159 :: x160 :: x161 :: x162 :: x163 :: x164 :: x165 :: x166 :: x167 :: x168 :: x169 :: x170 :: x171 :: x172 :: x173 :: x174 :: x175 :: x176 :: x177 :: x178 :: x179 :: x180 :: x181 :: x182 :: x183 :: x184 :: x185 :: x186 :: x187 :: x188 :: x189 :: x190 :: x191 :: x192 :: x193 :: x194 :: x195 :: x196 :: x197 :: x198 :: x199 :: x200 :: x201 :: x202 :: x203 :: x204 :: x205 :: x206 :: x207 :: x208 :: x209 :: x210 :: x211 :: x212 :: x213 :: x214 :: x215 :: x216 :: x217 :: x218 :: x219 :: x220 :: x221 :: x222 :: [])), []⟩ wr0 := by
  have hl : s.data.toList.length = s.size := by rw [Array.length_toList]; rfl
  have HL := Hid.mk' hl
  have HP := Hid.mk' hP0
  have HRt := Hid.mk' hret
  have HX := Hid.mk' hexit
  clear hl hP0 hret hexit
  conv => arg 2; whnf
  go_loopw [4, 8] (fun vi vc wr => ∃ (k : Nat) (v : ByteArray) (cl : Bool), i3 ≤ k ∧ k ≤ s.size ∧ vi = .int .i64 k ∧ vc = .bool cl ∧ MedPar w wo ps ao cap q nm v wr ∧ v.size ≤ k ∧ Pm.quo [] (s.data.toList.drop (i3 + 1)) = if cl then some (v.data.toList, s.data.toList.drop k) else Pm.quo v.data.toList (s.data.toList.drop k)) (fun vi _ _ => s.size - (intOf vi).toNat)
  case atStart => exact ⟨i3 + 1, ⟨#[]⟩, false, by omega, by omega, by go_num, rfl, HP.out, Nat.zero_le _, rfl⟩
  case round =>
    clear HP
    obtain ⟨k, v, cl, hk1, hk2, rfl, rfl, hP, hvz, hqu⟩ := hrel
    have HP := Hid.mk' hP
    have HQ := Hid.mk' hqu
    clear hP hqu
    obtain ⟨c0, c1, f0, f1, d0, d1, g0, g1⟩ := HP.out.med.cells
    obtain ⟨p0, p1, pf0, pf1⟩ := HP.out.cells
    have HA := Hid.mk' HP.out.med
    have HZ := Hid.mk' (zero_cells c0 c1)
    cases cl
    · by_cases hkl : k < s.size
      · have hd : s.data.toList.drop k = s[k] :: s.data.toList.drop (k + 1) := by
          rw [List.drop_eq_getElem_cons (show k < s.data.toList.length by rw [HL.out]; exact hkl), list_at s k hkl]
        have hq := HQ.out
        rw [if_neg (by simp), hd] at hq
        have hkl' : (k : Int) < s.size := by omega
        by_cases h34 : s[k] = 34
        · have t34 : ((s[k].toNat : Int) == 34) = true := by rw [h34]; rfl
          rw [h34, Pm.quo_end] at hq
          have HQ2 := Hid.mk' hq
          clear hq hd h34 HQ
          go_wp2
          go_roundw
          case rel => exact ⟨k + 1, v, true, by omega, by omega, by go_num, rfl, HP.out, by omega, by rw [HQ2.out]; rfl⟩
          case measure => simp [intOf]; omega
        · have t34 : ((s[k].toNat : Int) == 34) = false := byte_ne' h34
          by_cases h92 : s[k] = 92
          · have t92 : ((s[k].toNat : Int) == 92) = true := by rw [h92]; rfl
            rw [h92] at hq
            by_cases hk2l : k + 1 < s.size
            · have te2 : ((k : Int) + 1 == s.size) = false := by rw [beq_eq_false_iff_ne]; omega
              have hd2 : s.data.toList.drop (k + 1) = s[k + 1] :: s.data.toList.drop (k + 2) := by
                rw [List.drop_eq_getElem_cons (show k + 1 < s.data.toList.length by rw [HL.out]; exact hk2l), list_at s (k + 1) hk2l]
              rw [hd2, Pm.quo_back] at hq
              have HX1 := Hid.mk' (Ch.one_at s (k + 1) hk2l)
              have HQ2 : Hid (Pm.quo [] (s.data.toList.drop (i3 + 1)) = Pm.quo (v ++ s.extract (k + 1) (k + 2)).data.toList (s.data.toList.drop (k + 2))) := by
                unfold Hid
                rw [hq, Ch.data_append, HX1.out]
              have hxz : (s.extract (k + 1) (k + 2)).size ≤ 1 := by simp; omega
              have HN := Hid.mk' (fun z => (HP.out.drewN z).value (v ++ s.extract (k + 1) (k + 2)))
              have e1 : (k : Int) + 2 ≤ s.size := by omega
              have e2 : (k : Int) + 1 ≤ (k : Int) + 2 := by omega
              have e3 : ((k : Int) + 2).toNat = k + 2 := by omega
              have e4 : IntKind.i64.wrap ((k : Int) + 2) = (k : Int) + 2 := wrap_id (by omega) (by omega)
              have e5 : ((k : Int) + 1).toNat = k + 1 := by omega
              have e6 : IntKind.i64.wrap ((k : Int) + 1) = (k : Int) + 1 := wrap_id (by omega) (by omega)
              have e7 : (0 : Int) ≤ (k : Int) + 1 := by omega
              clear hq hd hd2 h34 h92 HQ HX1 HZ
              go_wp2
              go_region
              all_goals
                go_wp2
                go_roundw
                case rel => exact ⟨k + 2, v ++ s.extract (k + 1) (k + 2), false, by omega, by omega, by go_num, rfl, HN.out _, by rw [ByteArray.size_append]; omega, HQ2.out⟩
                case measure => simp [intOf]; omega
            · obtain hke : k + 1 = s.size := by omega
              have te2 : ((k : Int) + 1 == s.size) = true := by rw [beq_iff_eq]; omega
              have HR : Hid (Pm.quo [] (s.data.toList.drop (i3 + 1)) = none) := by
                rw [List.drop_eq_nil_of_le (show s.data.toList.length ≤ k + 1 by rw [HL.out]; omega), Pm.quo_back_nil] at hq
                exact hq
              clear HQ hq hd h34 h92
              go_wp2
              refine HRt.out _ _ rfl rfl ?_ ?_ ?_ HR.out
              · first | exact c0 | exact HZ.out.1
              · first | exact c1 | exact HZ.out.2
              · first | exact HA.out.below | exact (HA.out.below.setCell (Nat.le_refl _) _).setCell (Nat.le_refl _) _
          · have t92 : ((s[k].toNat : Int) == 92) = false := byte_ne' h92
            rw [Pm.quo_byte _ _ _ h34 h92] at hq
            have HX1 := Hid.mk' (Ch.one_at s k hkl)
            have HQ2 : Hid (Pm.quo [] (s.data.toList.drop (i3 + 1)) = Pm.quo (v ++ s.extract k (k + 1)).data.toList (s.data.toList.drop (k + 1))) := by
              unfold Hid
              rw [hq, Ch.data_append, HX1.out]
            have hxz : (s.extract k (k + 1)).size ≤ 1 := by simp; omega
            have HN := Hid.mk' (fun z => (HP.out.drewN z).value (v ++ s.extract k (k + 1)))
            have e1 : (k : Int) + 1 ≤ s.size := by omega
            have e2 : (k : Int) ≤ (k : Int) + 1 := by omega
            have e5 : ((k : Int) + 1).toNat = k + 1 := by omega
            have e6 : IntKind.i64.wrap ((k : Int) + 1) = (k : Int) + 1 := wrap_id (by omega) (by omega)
            clear hq hd h34 h92 HQ HX1 HZ
            go_wp2
            go_region
            all_goals
              go_wp2
              go_roundw
              case rel => exact ⟨k + 1, v ++ s.extract k (k + 1), false, by omega, by omega, by go_num, rfl, HN.out _, by rw [ByteArray.size_append]; omega, HQ2.out⟩
              case measure => simp [intOf]; omega
      · obtain rfl : k = s.size := by omega
        have HR : Hid (Pm.quo [] (s.data.toList.drop (i3 + 1)) = none) := by
          have h3 := HQ.out
          rw [if_neg (by simp), show s.data.toList.drop s.size = [] from List.drop_eq_nil_of_le (by rw [HL.out]; exact Nat.le_refl _), Pm.quo_nil] at h3
          exact h3
        clear HQ HZ
        go_wp2
        exact HX.out s.size v false _ _ _ _ _ _ _ _ _ _ _ _ _ _ _ _ _ _ _ _ _ _ _ _ _ _ _ _ _ _ _ _ _ _ _ _ _ _ _ _ _ _ _ _ _ _ _ hk1 hk2 HP.out (fun e => by cases e) (fun _ => HR.out)
    · have HQ2 : Hid (Pm.quo [] (s.data.toList.drop (i3 + 1)) = some (v.data.toList, s.data.toList.drop k)) := by
        have h3 := HQ.out
        rw [if_pos rfl] at h3
        exact h3
      clear HQ HZ
      by_cases hkl : k < s.size
      · have hkl' : (k : Int) < s.size := by omega
        go_wp2
        exact HX.out k v true _ _ _ _ _ _ _ _ _ _ _ _ _ _ _ _ _ _ _ _ _ _ _ _ _ _ _ _ _ _ _ _ _ _ _ _ _ _ _ _ _ _ _ _ _ _ _ hk1 hk2 HP.out (fun _ => HQ2.out) (fun e => by cases e)
      · obtain rfl : k = s.size := by omega
        go_wp2
        exact HX.out s.size v true _ _ _ _ _ _ _ _ _ _ _ _ _ _ _ _ _ _ _ _ _ _ _ _ _ _ _ _ _ _ _ _ _ _ _ _ _ _ _ _ _ _ _ _ _ _ _ hk1 hk2 HP.out (fun _ => HQ2.out) (fun e => by cases e)
end Go.Proofs.YtdclmpdjjkjfjaaGreatDoor

/- The document's own answer, walked: MediaOf's loop over the names that were there. -/
namespace Go.Proofs.YtdclmpdjjkjfjaaGreatDoor
open Go.RowKit

set_option maxRecDepth 100000 in
set_option maxHeartbeats 4000000 in
theorem medLoop3_any (s : ByteArray) (w wr0 : World) (wo nm v : ByteArray) (ps : List (ByteArray × ByteArray)) (h8 : ps.length ≤ 8) (ao : Option Addr) (cap q : Nat) (hP0 : MedPar w wo ps ao cap q nm v wr0) (Q0 : Exit → Act → World → Prop)
    (x1 x3 x4 x5 x8 x10 x11 x12 x13 x14 x15 x16 x17 x18 x19 x20 x21 x22 x23 x24 x25 x26 x27 x28 x29 x30 x31 x32 x33 x34 x35 x36 x37 x38 x39 x40 x41 x42 x43 x44 x45 x46 x47 x48 x49 x50 x51 x52 x53 x54 x55 x56 x57 x58 x59 x60 x61 x62 x63 x64 x65 x66 x67 x68 x69 x70 x71 x72 x73 x74 x75 x76 x77 x78 x79 x80 x81 x82 x83 x84 x85 x86 x87 x88 x89 x90 x91 x92 x93 x94 x95 x96 x97 x98 x99 x100 x101 x102 x103 x104 x105 x106 x107 x108 x109 x110 x111 x112 x113 x114 x115 x116 x117 x118 x119 x120 x121 x122 x123 x124 x125 x126 x127 x128 x129 x130 x131 x132 x133 x134 x135 x136 x137 x138 x139 x140 x141 x142 x143 x144 x145 x146 x147 x148 x149 x150 x151 x152 x153 x154 x155 x156 x157 x158 x159 x160 x161 x162 x163 x164 x165 x166 x167 x168 x169 x170 x171 x172 x173 x174 x175 x176 x177 x178 x179 x180 x181 x182 x183 x184 x185 x186 x187 x188 x189 x190 x191 x192 x193 x194 x195 x196 x197 x198 x199 x200 x201 x202 x203 x204 x205 x206 x207 x208 x209 x210 x211 x212 x213 x214 x215 x216 x217 x218 x219 x220 x221 x222 : Value)
    (hret : CodeRet w 9 (((parL ps).any fun q => q.1 == nm.data.toList) = true) Q0)
    (hexit : ∀ (w' : World) (y3 y195 y196 y197 y198 y199 y200 y201 y202 y203 y204 y205 y206 y207 y208 y209 y210 y211 : Value), MedPar w wo ps ao cap q nm v w' → (((parL ps).any fun q => q.1 == nm.data.toList) = false) →
      Q0 (.exit 4) ⟨(List.toArray ((.string s) :: x1 :: (.pointer (some ⟨w.heap.size, 0, none⟩)) :: (y3) :: x4 :: x5 :: (.pointer (some ⟨w.heap.size + 1, 0, none⟩)) :: (.pointer (some ⟨q, 0, none⟩)) :: x8 :: (.int .i64 (ps.length : Int)) :: x10 :: x11 :: x12 :: x13 :: x14 :: x15 :: x16 :: x17 :: x18 :: x19 :: x20 :: x21 :: x22 :: x23 :: x24 :: x25 :: x26 :: x27 :: x28 :: x29 :: x30 :: x31 :: x32 :: x33 :: x34 :: x35 :: x36 :: x37 :: x38 :: x39 :: x40 :: x41 :: x42 :: x43 :: x44 :: x45 :: x46 :: x47 :: x48 :: x49 :: x50 :: x51 :: x52 :: x53 :: x54 :: x55 :: x56 :: x57 :: x58 :: x59 :: x60 :: x61 :: x62 :: x63 :: x64 :: x65 :: x66 :: x67 :: x68 :: x69 :: x70 :: x71 :: x72 :: x73 :: x74 :: x75 :: x76 :: x77 :: x78 :: x79 :: x80 :: x81 :: x82 :: x83 :: x84 :: x85 :: x86 :: x87 :: x88 :: x89 :: x90 :: x91 :: x92 :: x93 :: x94 :: x95 :: x96 :: x97 :: x98 :: x99 :: x100 :: x101 :: x102 :: x103 :: x104 :: x105 :: x106 :: x107 :: x108 :: x109 :: x110 :: x111 :: x112 :: x113 :: x114 :: x115 :: x116 :: x117 :: x118 :: x119 :: x120 :: x121 :: x122 :: x123 :: x124 :: x125 :: x126 :: x127 :: x128 :: x129 :: x130 :: x131 :: x132 :: x133 :: x134 :: x135 :: x136 :: x137 :: x138 :: x139 :: x140 :: x141 :: x142 :: x143 :: x144 :: x145 :: x146 :: x147 :: x148 :: x149 :: x150 :: x151 :: x152 :: x153 :: x154 :: x155 :: x156 :: x157 :: x158 :: x159 :: x160 :: x161 :: x162 :: x163 :: x164 :: x165 :: x166 :: x167 :: x168 :: x169 :: x170 :: x171 :: x172 :: x173 :: x174 :: x175 :: x176 :: x177 :: x178 :: x179 :: x180 :: x181 :: x182 :: x183 :: x184 :: x185 :: x186 :: x187 :: x188 :: x189 :: x190 :: x191 :: x192 :: x193 :: x194 :: (y195) :: (y196) :: (y197) :: (y198) :: (y199) :: (y200) :: (y201) :: (y202) :: (y203) :: (y204) :: (y205) :: (y206) :: (y207) :: (y208) :: (y209) :: (y210) :: (y211) :: x212 :: x213 :: x214 :: x215 :: x216 :: x217 :: x218 :: x219 :: x220 :: x221 :: x222 :: [])), []⟩ w') :
    Code.wp Tryz.prog medLoop3 Q0 ⟨(List.toArray ((.string s) :: x1 :: (.pointer (some ⟨w.heap.size, 0, none⟩)) :: x3 :: x4 :: x5 :: (.pointer (some ⟨w.heap.size + 1, 0, none⟩)) :: (.pointer (some ⟨q, 0, none⟩)) :: x8 :: (.int .i64 0) :: x10 :: x11 :: x12 :: x13 :: x14 :: x15 :: x16 :: x17 :: x18 :: x19 :: x20 :: x21 :: x22 :: x23 :: x24 :: x25 :: x26 :: x27 :: x28 :: x29 :: x30 :: x31 :: x32 :: x33 :: x34 :: x35 :: x36 :: x37 :: x38 :: x39 :: x40 :: x41 :: x42 :: x43 :: x44 :: x45 :: x46 :: x47 :: x48 :: x49 :: x50 :: x51 :: x52 :: x53 :: x54 :: x55 :: x56 :: x57 :: x58 :: x59 :: x60 :: x61 :: x62 :: x63 :: x64 :: x65 :: x66 :: x67 :: x68 :: x69 :: x70 :: x71 :: x72 :: x73 :: x74 :: x75 :: x76 :: x77 :: x78 :: x79 :: x80 :: x81 :: x82 :: x83 :: x84 :: x85 :: x86 :: x87 :: x88 :: x89 :: x90 :: x91 :: x92 :: x93 :: x94 :: x95 :: x96 :: x97 :: x98 :: x99 :: x100 :: x101 :: x102 :: x103 :: x104 :: x105 :: x106 :: x107 :: x108 :: x109 :: x110 :: x111 :: x112 :: x113 :: x114 :: x115 :: x116 :: x117 :: x118 :: x119 :: x120 :: x121 :: x122 :: x123 :: x124 :: x125 :: x126 :: x127 :: x128 :: x129 :: x130 :: x131 :: x132 :: x133 :: x134 :: x135 :: x136 :: x137 :: x138 :: x139 :: x140 :: x141 :: x142 :: x143 :: x144 :: x145 :: x146 :: x147 :: x148 :: x149 :: x150 :: x151 :: x152 :: x153 :: x154 :: x155 :: x156 :: x157 :: x158 :: x159 :: x160 :: x161 :: x162 :: x163 :: x164 :: x165 :: x166 :: x167 :: x168 :: x169 :: x170 :: x171 :: x172 :: x173 :: x174 :: x175 :: x176 :: x177 :: x178 :: x179 :: x180 :: x181 :: x182 :: x183 :: x184 :: x185 :: x186 :: x187 :: x188 :: x189 :: x190 :: x191 :: x192 :: x193 :: x194 :: x195 :: x196 :: x197 :: x198 :: x199 :: x200 :: x201 :: x202 :: x203 :: x204 :: x205 :: x206 :: x207 :: x208 :: x209 :: x210 :: x211 :: x212 :: x213 :: x214 :: x215 :: x216 :: x217 :: x218 :: x219 :: x220 :: x221 :: x222 :: [])), []⟩ wr0 := by
  have HP := Hid.mk' hP0
  have HRt := Hid.mk' hret
  have HX := Hid.mk' hexit
  clear hP0 hret hexit
  conv => arg 2; whnf
  go_loopw [9] (fun t wr => ∃ k : Nat, k ≤ ps.length ∧ t = .int .i64 k ∧ MedPar w wo ps ao cap q nm v wr ∧ ∀ p ∈ ps.take k, p.1.data.toList ≠ nm.data.toList) (fun t _ => ps.length - (intOf t).toNat)
  case atStart => exact ⟨0, Nat.zero_le _, rfl, HP.out, fun p hp => by simp at hp⟩
  case round =>
    clear HP
    obtain ⟨k, hk, rfl, hP, hno⟩ := hrel
    have HP := Hid.mk' hP
    have HN := Hid.mk' hno
    clear hP hno
    obtain ⟨c0, c1, f0, f1, d0, d1, g0, g1⟩ := HP.out.med.cells
    obtain ⟨p0, p1, pf0, pf1⟩ := HP.out.cells
    have HA := Hid.mk' HP.out.med
    by_cases hkl : k < ps.length
    · obtain ⟨bb, oo, rfl, hcs⟩ := HP.out.med.own.isV.lit (by rw [pairV_length]; omega)
      have hc0 := hcs _ _ (pairV_at ps k hkl).1
      clear hcs
      have hkl' : (k : Int) < ps.length := by omega
      have hx := same_text ps[k].1 nm
      have HT : Hid (ps.take (k + 1) = ps.take k ++ [ps[k]]) := List.take_succ_eq_append_getElem hkl
      by_cases he : ps[k].1.data.toList = nm.data.toList
      · rw [decide_eq_true he] at hx
        have HR := Hid.mk' (parL_any hkl he)
        clear he HT HN
        generalize ps[k] = p at *
        go_wp2
        go_quiet (fail)
        go_wp2
        have HA2 := Hid.mk' (HA.out.drewN nq)
        have HZ := Hid.mk' (zero_cells HA2.out.cells.1 HA2.out.cells.2.1)
        refine HRt.out _ _ rfl rfl ?_ ?_ ?_ HR.out
        · first | exact HA2.out.cells.1 | exact HZ.out.1
        · first | exact HA2.out.cells.2.1 | exact HZ.out.2
        · first | exact HA2.out.below | exact (HA2.out.below.setCell (Nat.le_refl _) _).setCell (Nat.le_refl _) _
      · rw [decide_eq_false he] at hx
        have HE := Hid.mk' he
        clear he
        generalize ps[k] = p at *
        go_wp2
        go_quiet (fail)
        go_wp2
        go_roundw
        case rel =>
          refine ⟨k + 1, by omega, by go_num, HP.out.drewN _, fun r hr => ?_⟩
          rw [HT.out, List.mem_append] at hr
          rcases hr with hr | hr
          · exact HN.out r hr
          · rw [List.mem_singleton] at hr; subst hr; exact HE.out
        case measure => simp [intOf]; omega
    · obtain rfl : k = ps.length := by omega
      have HNo := Hid.mk' (parL_none (fun p hp => HN.out p (by rw [List.take_length]; exact hp)))
      clear HN
      go_wp2
      exact HX.out _ _ _ _ _ _ _ _ _ _ _ _ _ _ _ _ _ _ _ HP.out HNo.out
end Go.Proofs.YtdclmpdjjkjfjaaGreatDoor

/- The document's own answer, walked: MediaOf's loop over parameters. -/
namespace Go.Proofs.YtdclmpdjjkjfjaaGreatDoor
open Go.RowKit

set_option maxRecDepth 100000 in
set_option maxHeartbeats 8000000 in
theorem medLoop1_any (s : ByteArray) (w wr0 : World) (hs : s.size ≤ 2000) (i : Nat) (wo : ByteArray) (hi : i ≤ s.size) (hA0 : MedAt w wo [] none 0 wr0) (hM0 : Pm.media s.data.toList = Pm.fin (s.data.toList.length + 1) wo.data.toList (s.data.toList.drop i) []) (Q0 : Exit → Act → World → Prop)
    (x1 x3 x5 x7 x8 x9 x10 x11 x12 x13 x14 x15 x16 x17 x18 x19 x20 x21 x22 x23 x24 x25 x26 x27 x28 x29 x30 x31 x32 x33 x34 x35 x36 x37 x38 x39 x40 x41 x42 x43 x44 x45 x46 x47 x48 x49 x50 x51 x52 x53 x54 x55 x56 x57 x58 x59 x60 x61 x62 x63 x64 x65 x66 x67 x68 x69 x70 x71 x72 x73 x74 x75 x76 x77 x78 x79 x80 x81 x82 x83 x84 x85 x86 x87 x88 x89 x90 x91 x92 x93 x94 x95 x96 x97 x98 x99 x100 x101 x102 x103 x104 x105 x106 x107 x108 x109 x110 x111 x112 x113 x114 x115 x116 x117 x118 x119 x120 x121 x122 x123 x124 x125 x126 x127 x128 x129 x130 x131 x132 x133 x134 x135 x136 x137 x138 x139 x140 x141 x142 x143 x144 x145 x146 x147 x148 x149 x150 x151 x152 x153 x154 x155 x156 x157 x158 x159 x160 x161 x162 x163 x164 x165 x166 x167 x168 x169 x170 x171 x172 x173 x174 x175 x176 x177 x178 x179 x180 x181 x182 x183 x184 x185 x186 x187 x188 x189 x190 x191 x192 x193 x194 x195 x196 x197 x198 x199 x200 x201 x202 x203 x204 x205 x206 x207 x208 x209 x210 x211 x212 x213 x214 x215 x216 x217 x218 x219 x220 x221 x222 : Value)
    (hret : MedRet w (Pm.media s.data.toList) Q0) :
    Code.wp Tryz.prog medLoop1 Q0 ⟨(List.toArray ((.string s) :: x1 :: (.pointer (some ⟨w.heap.size, 0, none⟩)) :: x3 :: (.int .i64 (i : Int)) :: x5 :: (.pointer (some ⟨w.heap.size + 1, 0, none⟩)) :: x7 :: x8 :: x9 :: x10 :: x11 :: x12 :: x13 :: x14 :: x15 :: x16 :: x17 :: x18 :: x19 :: x20 :: x21 :: x22 :: x23 :: x24 :: x25 :: x26 :: x27 :: x28 :: x29 :: x30 :: x31 :: x32 :: x33 :: x34 :: x35 :: x36 :: x37 :: x38 :: x39 :: x40 :: x41 :: x42 :: x43 :: x44 :: x45 :: x46 :: x47 :: x48 :: x49 :: x50 :: x51 :: x52 :: x53 :: x54 :: x55 :: x56 :: x57 :: x58 :: x59 :: x60 :: x61 :: x62 :: x63 :: x64 :: x65 :: x66 :: x67 :: x68 :: x69 :: x70 :: x71 :: x72 :: x73 :: x74 :: x75 :: x76 :: x77 :: x78 :: x79 :: x80 :: x81 :: x82 :: x83 :: x84 :: x85 :: x86 :: x87 :: x88 :: x89 :: x90 :: x91 :: x92 :: x93 :: x94 :: x95 :: x96 :: x97 :: x98 :: x99 :: x100 :: x101 :: x102 :: x103 :: x104 :: x105 :: x106 :: x107 :: x108 :: x109 :: x110 :: x111 :: x112 :: x113 :: x114 :: x115 :: x116 :: x117 :: x118 :: x119 :: x120 :: x121 :: x122 :: x123 :: x124 :: x125 :: x126 :: x127 :: x128 :: x129 :: x130 :: x131 :: x132 :: x133 :: x134 :: x135 :: x136 :: x137 :: x138 :: x139 :: x140 :: x141 :: x142 :: x143 :: x144 :: x145 :: x146 :: x147 :: x148 :: x149 :: x150 :: x151 :: x152 :: x153 :: x154 :: x155 :: x156 :: x157 :: x158 :: x159 :: x160 :: x161 :: x162 :: x163 :: x164 :: x165 :: x166 :: x167 :: x168 :: x169 :: x170 :: x171 :: x172 :: x173 :: x174 :: x175 :: x176 :: x177 :: x178 :: x179 :: x180 :: x181 :: x182 :: x183 :: x184 :: x185 :: x186 :: x187 :: x188 :: x189 :: x190 :: x191 :: x192 :: x193 :: x194 :: x195 :: x196 :: x197 :: x198 :: x199 :: x200 :: x201 :: x202 :: x203 :: x204 :: x205 :: x206 :: x207 :: x208 :: x209 :: x210 :: x211 :: x212 :: x213 :: x214 :: x215 :: x216 :: x217 :: x218 :: x219 :: x220 :: x221 :: x222 :: [])), []⟩ wr0 := by
  have hl : s.data.toList.length = s.size := by rw [Array.length_toList]; rfl
  have HL := Hid.mk' hl
  have HBl := Hid.mk' (fun W (i : Nat) (hi : i ≤ s.size) => blanks_any s i W (by omega) hi)
  have HWd := Hid.mk' (fun W (i : Nat) (hi : i ≤ s.size) => word_any s i W (by omega) hi)
  have HRt := Hid.mk' hret
  have HA := Hid.mk' hA0
  have HM := Hid.mk' hM0
  clear hl hret hA0 hM0
  conv => arg 2; whnf
  go_loopw [4] (fun t wr => ∃ (i f : Nat) (ps : List (ByteArray × ByteArray)) (ao : Option Addr) (cap : Nat), i ≤ s.size ∧ t = .int .i64 i ∧ MedAt w wo ps ao cap wr ∧ s.size < f + i ∧ ps.length ≤ 8 ∧ Pm.media s.data.toList = Pm.fin f wo.data.toList (s.data.toList.drop i) (parL ps)) (fun t _ => s.size - (intOf t).toNat)
  case atStart => exact ⟨i, s.size + 1, [], none, 0, hi, rfl, HA.out, by omega, by simp, by have := HM.out; rw [HL.out] at this; exact this⟩
  case round =>
    clear HA HM hi i
    obtain ⟨i, f, ps, ao, cap, hi, rfl, hA, hf, h8, hM⟩ := hrel
    obtain ⟨f', rfl⟩ : ∃ f', f = f' + 1 := ⟨f - 1, by omega⟩
    rw [Pm.fin_at s.data.toList f' i _ _ (by rw [HL.out]; exact hi), HL.out] at hM
    have hb1 := Pm.blanks_le s.data.toList i (by rw [HL.out]; exact hi)
    have hb2 := Pm.blanks_ge s.data.toList i
    rw [HL.out] at hb1
    have HB1 := Hid.mk' (HBl.out wr i hi)
    generalize Pm.blanks s.data.toList i = i1 at *
    have HA := Hid.mk' hA
    have HM := Hid.mk' hM
    clear hM hA
    obtain ⟨c0, c1, f0, f1, d0, d1, g0, g1⟩ := HA.out.cells
    go_wp2_with fail
    refine HB1.out.mono ?_
    rintro e w2 ⟨rfl, hw⟩
    subst hw
    clear HB1
    by_cases hend : i1 = s.size
    · subst hend
      have HR : Hid (Pm.media s.data.toList = .inr (wo.data.toList, parL ps)) := by have := HM.out; rw [if_pos rfl] at this; exact this
      clear HM
      go_wp2
      have HZ2 : Hid (((w2.setCell ⟨w.heap.size, 0, none⟩ (.string wo)).setCell ⟨w.heap.size, 1, none⟩ (.slice ao ps.length cap)).cell? ⟨w.heap.size, 0, none⟩ = some (.string wo) ∧ ((w2.setCell ⟨w.heap.size, 0, none⟩ (.string wo)).setCell ⟨w.heap.size, 1, none⟩ (.slice ao ps.length cap)).cell? ⟨w.heap.size, 1, none⟩ = some (.slice ao ps.length cap)) := by
        constructor
        · rw [World.cell?_setCell_other (h := by intro h; injection h with _ h2; cases h2), World.cell?_setCell_same w2 _ _ c0]
        · exact World.cell?_setCell_same _ _ _ (by rw [World.cell?_setCell_other (h := by intro h; injection h with _ h2; cases h2)]; exact c1)
      refine HRt.out _ 0 _ _ _ rfl rfl HZ2.out.1 HZ2.out.2 ⟨wo, ps, ao, cap, 0, rfl, by rw [HR.out]; exact ⟨rfl, rfl, rfl⟩, ?_, ?_⟩
      · refine OwnV.turns (S := fun k => k = w.heap.size) (OwnV.turns (S := fun k => k = w.heap.size) (HA.out.own.mono (by omega)) (Turns.setCell _ _ _ _ rfl) (fun a e e2 => ?_)) (Turns.setCell _ _ _ _ rfl) (fun a e e2 => ?_) <;> (have := (HA.out.own.block a e).1; omega)
      · first | exact HA.out.below | exact (HA.out.below.setCell (Nat.le_refl _) _).setCell (Nat.le_refl _) _
    · have hlt : i1 < s.size := by omega
      have hM := HM.out
      rw [if_neg hend, Pm.par_at] at hM
      have hat : s.data.toList[i1]? = some s[i1] := by rw [List.getElem?_eq_getElem (by rw [HL.out]; exact hlt), list_at s i1 hlt]
      rw [hat] at hM
      have hlt' : (i1 : Int) < s.size := by omega
      have te : ((i1 : Int) == s.size) = false := by rw [beq_eq_false_iff_ne]; omega
      clear HM hat hend
      by_cases h59 : s[i1] = 59
      · have t59 : ((s[i1].toNat : Int) != 59) = false := by rw [h59]; rfl
        rw [if_pos (by rw [h59])] at hM
        clear h59
        have hb3 := Pm.blanks_le s.data.toList (i1 + 1) (by rw [HL.out]; omega)
        have hb4 := Pm.blanks_ge s.data.toList (i1 + 1)
        have hw3 := Pm.word_le s.data.toList _ hb3
        rw [HL.out] at hb3 hw3
        have hbl := HBl.out w2 (i1 + 1) (by omega)
        have hwd := HWd.out w2 _ hb3
        generalize Pm.blanks s.data.toList (i1 + 1) = i2 at *
        generalize Pm.word s.data.toList i2 = n2 at *
        simp only [Int.natCast_add, Int.cast_ofNat_Int] at hbl
        have HB2 := Hid.mk' hbl
        have HW2 := Hid.mk' hwd
        have HM := Hid.mk' hM
        clear hbl hwd hM
        go_wp2_with fail
        refine HB2.out.mono ?_
        rintro e w3 ⟨rfl, hw⟩
        subst hw
        go_wp2_with fail
        refine HW2.out.mono ?_
        rintro e w3 ⟨rfl, hw⟩
        subst hw
        clear HB2 HW2
        by_cases hz : n2 = 0
        · subst hz
          have HR : Hid (Pm.media s.data.toList = .inl 5) := by have := HM.out; rw [if_pos rfl] at this; exact this
          clear HM
          go_wp2
          refine HRt.out.bad (c := 5) HR.out _ _ rfl rfl ?_ ?_ ?_
          · first | exact c0 | exact (zero_cells c0 c1).1
          · first | exact c1 | exact (zero_cells c0 c1).2
          · first | exact HA.out.below | exact (HA.out.below.setCell (Nat.le_refl _) _).setCell (Nat.le_refl _) _
        · have tz : ((n2 : Int) == 0) = false := by rw [beq_eq_false_iff_ne]; omega
          have hM := HM.out
          rw [if_neg hz] at hM
          clear HM
          by_cases hfull : i2 + n2 = s.size
          · have tf : ((i2 : Int) + n2 == s.size) = true := by rw [beq_iff_eq]; omega
            have HR : Hid (Pm.media s.data.toList = .inl 5) := by
              rw [if_neg (by rw [List.getElem?_eq_none (by rw [HL.out]; omega)]; simp)] at hM; exact hM
            clear hM
            go_wp2
            refine HRt.out.bad (c := 5) HR.out _ _ rfl rfl ?_ ?_ ?_
            · first | exact c0 | exact (zero_cells c0 c1).1
            · first | exact c1 | exact (zero_cells c0 c1).2
            · first | exact HA.out.below | exact (HA.out.below.setCell (Nat.le_refl _) _).setCell (Nat.le_refl _) _
          · have tf : ((i2 : Int) + n2 == s.size) = false := by rw [beq_eq_false_iff_ne]; omega
            have hlt2 : i2 + n2 < s.size := by omega
            have hlt2' : (i2 : Int) + n2 < s.size := by omega
            rw [List.getElem?_eq_getElem (show i2 + n2 < s.data.toList.length by rw [HL.out]; exact hlt2), list_at s (i2 + n2) hlt2] at hM
            by_cases h61 : s[i2 + n2] = 61
            · have t61 : ((s[i2 + n2].toNat : Int) != 61) = false := by rw [h61]; rfl
              rw [if_pos (by rw [h61])] at hM
              clear h61
              have e1 : (i2 : Int) + n2 ≤ s.size := by omega
              have e2 : (i2 : Int) ≤ (i2 : Int) + n2 := by omega
              have e3 : ((i2 : Int) + n2).toNat = i2 + n2 := by omega
              have e4 : IntKind.i64.wrap ((i2 : Int) + n2) = (i2 : Int) + n2 := wrap_id (by omega) (by omega)
              have HSm := Hid.mk' (fun W => small_any (s.extract i2 (i2 + n2)) W (by simp; omega))
              have HX : Hid ((s.extract i2 (i2 + n2)).data.toList = (s.data.toList.drop i2).take n2) := by
                unfold Hid; rw [Lib.extract_data]; simp
              rw [HX.out] at HSm
              generalize hx : (⟨(Ch.lower ((s.data.toList.drop i2).take n2)).toArray⟩ : ByteArray) = nm at HSm
              have HNm : Hid (nm.data.toList = Ch.lower ((s.data.toList.drop i2).take n2)) := by rw [← hx]; rfl
              rw [← HNm.out] at hM
              have HM := Hid.mk' hM
              clear hx hM HX
              go_wp2_with fail
              refine (HSm.out _).mono ?_
              rintro e w4 ⟨rfl, q4, hw⟩
              subst hw
              have HP := Hid.mk' (((MedPar.start HA.out q4 ⟨#[]⟩).name nm).value ⟨#[]⟩)
              have a0c : ((w3.drewN q4).alloc (.cells #[.string ⟨#[]⟩, .string ⟨#[]⟩] 133)).cell? ⟨w3.heap.size, 0, none⟩ = some (.string ⟨#[]⟩) := World.cell?_alloc_mark (w3.drewN q4) _ _ _ 0
              have a0f : ((w3.drewN q4).alloc (.cells #[.string ⟨#[]⟩, .string ⟨#[]⟩] 133)).frozen? ⟨w3.heap.size, 0, none⟩ = false := World.frozen?_alloc_mark (w3.drewN q4) _ _ _ _ 0
              have a1c : ((w3.drewN q4).alloc (.cells #[.string ⟨#[]⟩, .string ⟨#[]⟩] 133)).cell? ⟨w3.heap.size, 1, none⟩ = some (.string ⟨#[]⟩) := World.cell?_alloc_mark (w3.drewN q4) _ _ _ 1
              have a1f : ((w3.drewN q4).alloc (.cells #[.string ⟨#[]⟩, .string ⟨#[]⟩] 133)).frozen? ⟨w3.heap.size, 1, none⟩ = false := World.frozen?_alloc_mark (w3.drewN q4) _ _ _ _ 1
              have hi3 : i2 + n2 + 1 ≤ s.size := by omega
              go_upto_region 26 with fail
              go_cut [4, 128] from 68 to 222 (fun vi t wd => vi = .int .i64 ((i2 + n2 + 1 : Nat) : Int) ∧ t = .bool (decide (s.data.toList[i2 + n2 + 1]? = some 34)) ∧ MedPar w wo ps ao cap w3.heap.size nm ⟨#[]⟩ wd)
              case first =>
                by_cases hlt3 : i2 + n2 + 1 < s.size
                · have HE : Hid (s.data.toList[i2 + n2 + 1]? = some s[i2 + n2 + 1]) := by unfold Hid; rw [List.getElem?_eq_getElem (by rw [HL.out]; exact hlt3), list_at s (i2 + n2 + 1) hlt3]
                  have hlt3' : (i2 : Int) + (n2 + 1) < s.size := by omega
                  have hlt3'' : (i2 : Int) + n2 + 1 < s.size := by omega
                  by_cases h34 : s[i2 + n2 + 1] = 34
                  · have t34 : ((s[i2 + n2 + 1].toNat : Int) == 34) = true := by rw [h34]; rfl
                    have HD : Hid (decide (s.data.toList[i2 + n2 + 1]? = some 34) = true) := by unfold Hid; rw [HE.out, h34]; simp
                    clear h34 HE
                    go_wp2
                    go_meet
                    exact ⟨by go_num, by rw [HD.out] <;> exact congrArg Value.bool t34, HP.out⟩
                  · have t34 : ((s[i2 + n2 + 1].toNat : Int) == 34) = false := byte_ne' h34
                    have HD : Hid (decide (s.data.toList[i2 + n2 + 1]? = some 34) = false) := by unfold Hid; rw [HE.out]; simpa using h34
                    clear h34 HE
                    go_wp2
                    go_meet
                    exact ⟨by go_num, by rw [HD.out] <;> exact congrArg Value.bool t34, HP.out⟩
                · have hlt3' : ¬ (i2 : Int) + (n2 + 1) < s.size := by omega
                  have HD : Hid (decide (s.data.toList[i2 + n2 + 1]? = some 34) = false) := by
                    unfold Hid; rw [decide_eq_false_iff_not, List.getElem?_eq_none (by rw [HL.out]; omega)]; simp
                  go_wp2
                  go_meet
                  exact ⟨by go_num, by rw [HD.out] <;> exact congrArg Value.bool t34, HP.out⟩
              case rest =>
                obtain ⟨rfl, rfl, hP⟩ := hcut
                clear HP HSm e1 e2 e3 e4 c0 c1 f0 f1 d0 d1 g0 g1 HNm HA a0c a0f a1c a1f
                have HP := Hid.mk' hP
                clear hP
                generalize w3.heap.size = q at *
                have hi3g : i1 < i2 + n2 + 1 := by omega
                clear t61 hlt2' tf hfull hlt2 tz hz hw3 hb3 hb4
                generalize i2 + n2 + 1 = i3 at *
                generalize hb34 : decide (s.data.toList[i3]? = some 34) = b34
                have HB34 := Hid.mk' hb34
                clear hb34
                go_upto_if 128 with fail
                go_cut [4, 5, 8] from 68 to 222 (fun vi _ _ wd => ∃ (i4 : Nat) (v : ByteArray), i3 ≤ i4 ∧ i4 ≤ s.size ∧ vi = .int .i64 i4 ∧ MedPar w wo ps ao cap q nm v wd ∧ Pm.val (s.data.toList.drop i3) = .inr (v.data.toList, s.data.toList.drop i4))
                case first =>
                  cases b34
                  · skip
                    obtain ⟨c0, c1, f0, f1, d0, d1, g0, g1⟩ := HP.out.med.cells
                    obtain ⟨p0, p1, pf0, pf1⟩ := HP.out.cells
                    have HA := Hid.mk' HP.out.med
                    have hw3 := Pm.word_le s.data.toList i3 (by rw [HL.out]; exact hi3)
                    rw [HL.out] at hw3
                    have HW3 := Hid.mk' (HWd.out wc i3 hi3)
                    have hval := Pm.val_at s.data.toList i3
                    rw [if_neg (of_decide_eq_false HB34.out)] at hval
                    generalize Pm.word s.data.toList i3 = n3 at *
                    have HVl := Hid.mk' hval
                    clear hval HB34
                    go_wp2_with fail
                    refine HW3.out.mono ?_
                    rintro e w5 ⟨rfl, hw⟩
                    subst hw
                    clear HW3
                    by_cases hz3 : n3 = 0
                    · subst hz3
                      have HR : Hid (Pm.media s.data.toList = .inl 5) := by
                        have h1 := HM.out
                        have h2 := HVl.out
                        rw [if_pos rfl] at h2
                        rw [h2] at h1
                        exact h1
                      clear HM HVl
                      go_wp2
                      refine HRt.out.bad (c := 5) HR.out _ _ rfl rfl ?_ ?_ ?_
                      · first | exact c0 | exact (zero_cells c0 c1).1
                      · first | exact c1 | exact (zero_cells c0 c1).2
                      · first | exact HA.out.below | exact (HA.out.below.setCell (Nat.le_refl _) _).setCell (Nat.le_refl _) _
                    · have tz3 : ((n3 : Int) == 0) = false := by rw [beq_eq_false_iff_ne]; omega
                      have e1 : (i3 : Int) + n3 ≤ s.size := by omega
                      have e2 : (i3 : Int) ≤ (i3 : Int) + n3 := by omega
                      have e3 : ((i3 : Int) + n3).toNat = i3 + n3 := by omega
                      have e4 : IntKind.i64.wrap ((i3 : Int) + n3) = (i3 : Int) + n3 := wrap_id (by omega) (by omega)
                      have HX : Hid ((s.extract i3 (i3 + n3)).data.toList = (s.data.toList.drop i3).take n3) := by
                        unfold Hid; rw [Lib.extract_data]; simp
                      have HV2 : Hid (Pm.val (s.data.toList.drop i3) = .inr ((s.extract i3 (i3 + n3)).data.toList, s.data.toList.drop (i3 + n3))) := by
                        have h2 := HVl.out
                        rw [if_neg hz3, ← HX.out] at h2
                        exact h2
                      have HN := Hid.mk' (HP.out.value (s.extract i3 (i3 + n3)))
                      clear HVl HX
                      go_wp2
                      go_meet
                      exact ⟨i3 + n3, s.extract i3 (i3 + n3), by omega, by omega, by go_num, HN.out, HV2.out⟩
                  · have h34 := of_decide_eq_true HB34.out
                    have hlt3 : i3 < s.size := by
                      have := (List.getElem?_eq_some_iff.1 h34).1
                      rwa [HL.out] at this
                    have hval := Pm.val_at s.data.toList i3
                    rw [if_pos h34] at hval
                    have HVl := Hid.mk' hval
                    clear hval h34 HB34
                    go_wp2
                    refine medLoop2_any s w _ hs i3 hlt3 wo nm ps ao cap q HP.out _ _ _ _ _ _ _ _ _ _ _ _ _ _ _ _ _ _ _ _ _ _ _ _ _ _ _ _ _ _ _ _ _ _ _ _ _ _ _ _ _ _ _ _ _ _ _ _ _ _ _ _ _ _ _ _ _ _ _ _ _ _ _ _ _ _ _ _ _ _ _ _ _ _ _ _ _ _ _ _ _ _ _ _ _ _ _ _ _ _ _ _ _ _ _ _ _ _ _ _ _ _ _ _ _ _ _ _ _ _ _ _ _ _ _ _ _ _ _ _ _ _ _ _ _ _ _ _ _ _ _ _ _ _ _ _ _ _ _ _ _ _ _ _ _ _ _ _ _ _ _ _ _ _ _ _ _ _ _ _ _ _ _ _ _ _ _ _ _ _ _ _ _ _ _ _ _ _ _ _ _ _ _ _ _ _ _ _ _ _ _ _ _ _ _ _ _ _ _ _ _ _ _ _ _ _ _ _ _ _ _ _ _ _ _ _ _ _ _ ?_ ?_
                    · intro tm w' h2 h3 hc0 hc1 hb hn
                      have HR : Pm.media s.data.toList = .inl 14 := by
                        have h1 := HM.out
                        have h2 := HVl.out
                        rw [hn] at h2
                        rw [h2] at h1
                        exact h1
                      exact HRt.out.bad (c := 14) HR _ _ h2 h3 hc0 hc1 hb
                    · intro k v cl w6 y3 y131 y132 y133 y134 y135 y136 y137 y138 y139 y140 y141 y142 y143 y144 y145 y146 y147 y148 y149 y150 y151 y152 y153 y154 y155 y156 y157 y158 y159 y160 y161 y162 y163 y164 y165 y166 y167 y168 y169 y170 y171 y172 y173 y174 y175 hk1 hk2 hP6 hyes hno6
                      clear HP
                      have HP := Hid.mk' hP6
                      have HY := Hid.mk' hyes
                      have HNo := Hid.mk' hno6
                      clear hP6 hyes hno6
                      obtain ⟨c0, c1, f0, f1, d0, d1, g0, g1⟩ := HP.out.med.cells
                      have HA := Hid.mk' HP.out.med
                      (try simp only [Exit.inBlock, Exit.then])
                      cases cl
                      · have HR : Hid (Pm.media s.data.toList = .inl 14) := by
                          have h1 := HM.out
                          have h2 := HVl.out
                          rw [HNo.out rfl] at h2
                          rw [h2] at h1
                          exact h1
                        clear HM HVl HY HNo
                        go_wp2
                        refine HRt.out.bad (c := 14) HR.out _ _ rfl rfl ?_ ?_ ?_
                        · first | exact c0 | exact (zero_cells c0 c1).1
                        · first | exact c1 | exact (zero_cells c0 c1).2
                        · first | exact HA.out.below | exact (HA.out.below.setCell (Nat.le_refl _) _).setCell (Nat.le_refl _) _
                      · have HV2 : Hid (Pm.val (s.data.toList.drop i3) = .inr (v.data.toList, s.data.toList.drop k)) := by
                          have h2 := HVl.out
                          rw [HY.out rfl] at h2
                          exact h2
                        clear HVl HY HNo
                        go_wp2
                        go_meet
                        exact ⟨k, v, hk1, hk2, rfl, HP.out, HV2.out⟩
                case rest =>
                  obtain ⟨i4, v, h4a, h4b, rfl, hP, hval⟩ := hcut
                  clear HP
                  have HP := Hid.mk' hP
                  have hM := HM.out
                  rw [hval] at hM
                  simp only [] at hM
                  have HM2 := Hid.mk' hM
                  clear hP hM hval HM HB34
                  go_wp2
                  refine medLoop3_any s w _ wo nm v ps h8 ao cap q HP.out _ _ _ _ _ _ _ _ _ _ _ _ _ _ _ _ _ _ _ _ _ _ _ _ _ _ _ _ _ _ _ _ _ _ _ _ _ _ _ _ _ _ _ _ _ _ _ _ _ _ _ _ _ _ _ _ _ _ _ _ _ _ _ _ _ _ _ _ _ _ _ _ _ _ _ _ _ _ _ _ _ _ _ _ _ _ _ _ _ _ _ _ _ _ _ _ _ _ _ _ _ _ _ _ _ _ _ _ _ _ _ _ _ _ _ _ _ _ _ _ _ _ _ _ _ _ _ _ _ _ _ _ _ _ _ _ _ _ _ _ _ _ _ _ _ _ _ _ _ _ _ _ _ _ _ _ _ _ _ _ _ _ _ _ _ _ _ _ _ _ _ _ _ _ _ _ _ _ _ _ _ _ _ _ _ _ _ _ _ _ _ _ _ _ _ _ _ _ _ _ _ _ _ _ _ _ _ _ _ _ _ _ _ _ _ _ _ _ _ ?_ ?_
                  · intro tm w' h2 h3 hc0 hc1 hb hn
                    have HR : Pm.media s.data.toList = .inl 9 := by
                      have := HM2.out
                      rw [if_pos hn] at this
                      exact this
                    exact HRt.out.bad (c := 9) HR _ _ h2 h3 hc0 hc1 hb
                  · intro w7 y3 y195 y196 y197 y198 y199 y200 y201 y202 y203 y204 y205 y206 y207 y208 y209 y210 y211 hP7 hno7
                    clear HP
                    have HP := Hid.mk' hP7
                    obtain ⟨c0, c1, f0, f1, d0, d1, g0, g1⟩ := HP.out.med.cells
                    obtain ⟨p0, p1, pf0, pf1⟩ := HP.out.cells
                    have HA := Hid.mk' HP.out.med
                    have hM := HM2.out
                    rw [if_neg (by rw [hno7]; simp), parL_length] at hM
                    clear HM2 hno7 hP7
                    (try simp only [Exit.inBlock, Exit.then])
                    by_cases h8e : ps.length = 8
                    · have t8 : ((ps.length : Int) == 8) = true := by rw [beq_iff_eq]; omega
                      have HR : Hid (Pm.media s.data.toList = .inl 8) := by rw [if_pos h8e] at hM; exact hM
                      clear hM
                      go_wp2
                      refine HRt.out.bad (c := 8) HR.out _ _ rfl rfl ?_ ?_ ?_
                      · first | exact c0 | exact (zero_cells c0 c1).1
                      · first | exact c1 | exact (zero_cells c0 c1).2
                      · first | exact HA.out.below | exact (HA.out.below.setCell (Nat.le_refl _) _).setCell (Nat.le_refl _) _
                    · have t8 : ((ps.length : Int) == 8) = false := by rw [beq_eq_false_iff_ne]; omega
                      rw [if_neg h8e] at hM
                      have HM3 := Hid.mk' hM
                      clear hM
                      obtain ⟨t0, hi0, hz0, hz1, hz2⟩ := info_parts info_param
                      have Hi := Hid.mk' hi0; have Hz0 := Hid.mk' hz0; have Hz1 := Hid.mk' hz1; have Hz2 := Hid.mk' hz2
                      clear hi0 hz0 hz1 hz2
                      go_wp2_with (at_builtin; refine wpList_append_v rfl (.tmp 218) (.tmp 220) 111 rfl (w.heap.size + 2) 133 t0 (.agg #[.string ⟨#[]⟩, .string ⟨#[]⟩]) 2 32 Tryz.underlying111 Hi.out Hz0.out Hz1.out Hz2.out rfl (by decide) rfl (HA.out.own.alloc _) rfl (IsV.made _ _ 1 _ _) rfl (fun u hu => by simp at hu; rcases hu with rfl | rfl <;> rfl) (by omega) (by omega) (by have := HA.out.size; simp; omega) ?_; intro ao5 cap5 w5 hO5 hG5 _; have hB5 := HP.out.row _ hG5; have hm5 := (hB5.block (w.heap.size + 1) (by omega)).trans HA.out.med; have m1 : w5.cell? ⟨w.heap.size + 1, 1, none⟩ = some (.slice ao ps.length cap) := cell_of_row w5 _ 1 _ _ _ hm5; have mf : w5.frozen? ⟨w.heap.size + 1, 1, none⟩ = false := frozen_of_row w5 _ 1 _ _ hm5; have HO5 := Hid.mk' hO5; have HB5 := Hid.mk' hB5; clear hO5 hG5 hB5 hm5)
                      go_roundw
                      case rel =>
                        have hO := HO5.out
                        rw [show pairV ps ++ (#[Value.string nm, Value.string v]).toList = pairV (ps ++ [(nm, v)]) by rw [pairV_append]; rfl] at hO
                        refine ⟨i4, f', ps ++ [(nm, v)], ao5, cap5, h4b, rfl, HA.out.pars (ps' := ps ++ [(nm, v)]) (by rw [List.length_append]; exact hO) HB5.out _ (by rw [List.length_append]; rfl), by omega, by rw [List.length_append]; simp; omega, ?_⟩
                        rw [HM3.out, parL_append]; rfl
                      case measure => simp [intOf]; omega
            · have t61 : ((s[i2 + n2].toNat : Int) != 61) = true := byte_ne h61
              have HR : Hid (Pm.media s.data.toList = .inl 5) := by rw [if_neg (by intro e; injection e with e; exact h61 e)] at hM; exact hM
              clear hM h61
              go_wp2
              refine HRt.out.bad (c := 5) HR.out _ _ rfl rfl ?_ ?_ ?_
              · first | exact c0 | exact (zero_cells c0 c1).1
              · first | exact c1 | exact (zero_cells c0 c1).2
              · first | exact HA.out.below | exact (HA.out.below.setCell (Nat.le_refl _) _).setCell (Nat.le_refl _) _
      · have t59 : ((s[i1].toNat : Int) != 59) = true := byte_ne h59
        have HR : Hid (Pm.media s.data.toList = .inl 5) := by rw [if_neg (by intro e; injection e with e; exact h59 e)] at hM; exact hM
        clear hM h59
        go_wp2
        refine HRt.out.bad (c := 5) HR.out _ _ rfl rfl ?_ ?_ ?_
        · first | exact c0 | exact (zero_cells c0 c1).1
        · first | exact c1 | exact (zero_cells c0 c1).2
        · first | exact HA.out.below | exact (HA.out.below.setCell (Nat.le_refl _) _).setCell (Nat.le_refl _) _
end Go.Proofs.YtdclmpdjjkjfjaaGreatDoor

/- The document's own answer, walked: MediaOf. -/
namespace Go.Proofs.YtdclmpdjjkjfjaaGreatDoor
open Go.RowKit

set_option maxRecDepth 100000 in
theorem media_not (s : ByteArray) (w : World) (hs : s.size ≤ 2000) (hv : Ch.isVisible s.data.toList = false) :
    Calls Tryz.prog 61 #[.string s] w fun e w' => MedOut w (Pm.media s.data.toList) e w' := by
  have HM : Hid (Pm.media s.data.toList = .inl 3) := by unfold Hid Pm.media; rw [if_pos hv]
  have HS := Hid.mk' (seenText_any s (w.alloc (.cells #[.string ⟨#[]⟩, .slice none 0 0] 113)) (by unfold maxLen; omega))
  rw [hv] at HS
  have HB : Hid (Below w.heap.size w (w.alloc (.cells #[.string ⟨#[]⟩, .slice none 0 0] 113))) := (Below.refl _ _).alloc (Nat.le_refl _) _
  have c0 : (w.alloc (.cells #[.string ⟨#[]⟩, .slice none 0 0] 113)).cell? ⟨w.heap.size, 0, none⟩ = some (.string ⟨#[]⟩) := World.cell?_alloc_mark w _ _ _ 0
  have c1 : (w.alloc (.cells #[.string ⟨#[]⟩, .slice none 0 0] 113)).cell? ⟨w.heap.size, 1, none⟩ = some (.slice none 0 0) := World.cell?_alloc_mark w _ _ _ 1
  clear hv
  go_enter Tryz.func61, Tryz.ntmps61
  go_wp2_with fail
  refine HS.out.mono ?_
  rintro e w1 ⟨rfl, hw⟩
  subst hw
  go_wp2
  refine bodyPost_ret (v := .tuple #[.agg #[.string ⟨#[]⟩, .slice none 0 0], .int .i64 3]) (by simp [results, Tryz.results61, go_sem, c0, c1]) rfl (MedOut.bad (c := 3) HM.out ?_)
  first | exact HB.out | exact (HB.out.setCell (Nat.le_refl _) _).setCell (Nat.le_refl _) _

set_option maxRecDepth 100000 in
set_option maxHeartbeats 4000000 in
theorem media_main (s : ByteArray) (w : World) (hs : s.size ≤ 2000) (hv : Ch.isVisible s.data.toList = true) :
    Calls Tryz.prog 61 #[.string s] w fun e w' => MedOut w (Pm.media s.data.toList) e w' := by
  have hl : s.data.toList.length = s.size := by rw [Array.length_toList]; rfl
  have HS := Hid.mk' (seenText_any s (w.alloc (.cells #[.string ⟨#[]⟩, .slice none 0 0] 113)) (by unfold maxLen; omega))
  rw [hv] at HS
  have HB : Hid (Below w.heap.size w (w.alloc (.cells #[.string ⟨#[]⟩, .slice none 0 0] 113))) := (Below.refl _ _).alloc (Nat.le_refl _) _
  have c0 : (w.alloc (.cells #[.string ⟨#[]⟩, .slice none 0 0] 113)).cell? ⟨w.heap.size, 0, none⟩ = some (.string ⟨#[]⟩) := World.cell?_alloc_mark w _ _ _ 0
  have c1 : (w.alloc (.cells #[.string ⟨#[]⟩, .slice none 0 0] 113)).cell? ⟨w.heap.size, 1, none⟩ = some (.slice none 0 0) := World.cell?_alloc_mark w _ _ _ 1
  have HBl := Hid.mk' (fun W (i : Nat) (hi : i ≤ s.size) => blanks_any s i W (by omega) hi)
  have HWd := Hid.mk' (fun W (i : Nat) (hi : i ≤ s.size) => word_any s i W (by omega) hi)
  have hb0 := Pm.blanks_le s.data.toList 0 (Nat.zero_le _)
  have hw0 := Pm.word_le s.data.toList _ hb0
  rw [hl] at hb0 hw0
  have hbl0 := HBl.out (w.alloc (.cells #[.string ⟨#[]⟩, .slice none 0 0] 113)) 0 (Nat.zero_le _)
  have hwd0 := HWd.out (w.alloc (.cells #[.string ⟨#[]⟩, .slice none 0 0] 113)) _ hb0
  have HB0 := Hid.mk' hbl0
  have HW0 := Hid.mk' hwd0
  have HM := Hid.mk' (Pm.media_at s.data.toList hv _ _ rfl rfl)
  clear hv hbl0 hwd0
  generalize Pm.blanks s.data.toList 0 = i0 at *
  generalize hn0 : Pm.word s.data.toList i0 = n0 at *
  have HL := Hid.mk' hl
  clear hl hn0
  go_enter Tryz.func61, Tryz.ntmps61
  go_wp2_with fail
  refine HS.out.mono ?_
  rintro e w1 ⟨rfl, hw⟩
  subst hw
  go_wp2_with fail
  refine HB0.out.mono ?_
  rintro e w1 ⟨rfl, hw⟩
  subst hw
  go_wp2_with fail
  refine HW0.out.mono ?_
  rintro e w1 ⟨rfl, hw⟩
  subst hw
  clear HS HB0 HW0
  by_cases hz : n0 = 0
  · subst hz
    have HR : Hid (Pm.media s.data.toList = .inl 5) := by have := HM.out; rw [if_pos rfl] at this; exact this
    clear HM
    go_wp2
    refine bodyPost_ret (v := .tuple #[.agg #[.string ⟨#[]⟩, .slice none 0 0], .int .i64 5]) (by simp [results, Tryz.results61, go_sem, c0, c1]) rfl (MedOut.bad (c := 5) HR.out ?_)
    first | exact HB.out | exact (HB.out.setCell (Nat.le_refl _) _).setCell (Nat.le_refl _) _
  · have hM := HM.out
    rw [if_neg hz] at hM
    have HM1 := Hid.mk' hM
    clear HM hM
    have tz : ((n0 : Int) == 0) = false := by rw [beq_eq_false_iff_ne]; omega
    have e1 : (i0 : Int) + n0 ≤ s.size := by omega
    have e2 : (i0 : Int) ≤ (i0 : Int) + n0 := by omega
    have e3 : ((i0 : Int) + n0).toNat = i0 + n0 := by omega
    have e4 : IntKind.i64.wrap ((i0 : Int) + n0) = (i0 : Int) + n0 := wrap_id (by omega) (by omega)
    have HSm := Hid.mk' (fun W => small_any (s.extract i0 (i0 + n0)) W (by simp; omega))
    have HX : Hid ((s.extract i0 (i0 + n0)).data.toList = (s.data.toList.drop i0).take n0) := by
      unfold Hid; rw [Lib.extract_data]; simp
    rw [HX.out] at HSm
    generalize hx : (⟨(Ch.lower ((s.data.toList.drop i0).take n0)).toArray⟩ : ByteArray) = x at HSm
    have HXl : Hid (x.data.toList = Ch.lower ((s.data.toList.drop i0).take n0)) := by rw [← hx]; rfl
    clear hx
    go_wp2_with fail
    refine (HSm.out _).mono ?_
    rintro e w1 ⟨rfl, q1, hw⟩
    subst hw
    have HA : Hid (MedAt w x [] none 0 (((w.alloc (.cells #[.string ⟨#[]⟩, .slice none 0 0] 113)).drewN q1).alloc (.cells #[.string x, .slice none 0 0] 113))) := MedAt.start w x q1
    clear c0 c1 HB HSm HX
    go_upto_region 9 with fail
    go_cut [42] (fun t wc => t = .bool (decide (s.data.toList[i0 + n0]? = some 47)) ∧ MedAt w x [] none 0 wc)
    case first =>
      by_cases hlt : i0 + n0 < s.size
      · have hat := list_at s (i0 + n0) hlt
        have HE : Hid (s.data.toList[i0 + n0]? = some s[i0 + n0]) := by unfold Hid; rw [List.getElem?_eq_getElem (by rw [HL.out]; exact hlt), hat]
        clear hat
        have tl : decide ((i0 : Int) + n0 < s.size) = true := by rw [decide_eq_true_eq]; omega
        have hlt' : (i0 : Int) + n0 < s.size := by omega
        by_cases h47 : s[i0 + n0] = 47
        · have t47 : ((s[i0 + n0].toNat : Int) == 47) = true := by rw [h47]; rfl
          have HD : Hid (decide (s.data.toList[i0 + n0]? = some 47) = true) := by unfold Hid; rw [HE.out, h47]; simp
          clear h47 HE
          go_wp2
          go_meet
          exact ⟨by rw [HD.out], HA.out⟩
        · have t47 : ((s[i0 + n0].toNat : Int) == 47) = false := byte_ne' h47
          have HD : Hid (decide (s.data.toList[i0 + n0]? = some 47) = false) := by unfold Hid; rw [HE.out]; simpa using h47
          clear h47 HE
          go_wp2
          go_meet
          exact ⟨by rw [HD.out], HA.out⟩
      · have tl : decide ((i0 : Int) + n0 < s.size) = false := by rw [decide_eq_false_iff_not]; omega
        have HD : Hid (decide (s.data.toList[i0 + n0]? = some 47) = false) := by
          unfold Hid; rw [decide_eq_false_iff_not, List.getElem?_eq_none (by rw [HL.out]; omega)]; simp
        go_wp2
        go_meet
        exact ⟨by rw [HD.out], HA.out⟩
    case rest =>
      obtain ⟨rfl, hA⟩ := hcut
      clear HA
      have HA := Hid.mk' hA
      clear hA
      obtain ⟨c0, c1, f0, f1, d0, d1, g0, g1⟩ := HA.out.cells
      generalize hb47 : decide (s.data.toList[i0 + n0]? = some 47) = b47
      have HB47 := Hid.mk' hb47
      clear hb47
      go_upto_if 42 with fail
      go_cut [4, 5] (fun vi _ wd => ∃ (i : Nat) (wo : ByteArray), i ≤ s.size ∧ vi = .int .i64 i ∧ MedAt w wo [] none 0 wd ∧ Pm.media s.data.toList = Pm.fin (s.data.toList.length + 1) wo.data.toList (s.data.toList.drop i) [])
      case first =>
        cases b47
        · have HM2 : Hid (Pm.media s.data.toList = Pm.fin (s.data.toList.length + 1) x.data.toList (s.data.toList.drop (i0 + n0)) []) := by
            have := HM1.out
            rw [if_neg (of_decide_eq_false HB47.out), ← HXl.out] at this
            exact this
          go_wp2
          go_meet
          exact ⟨i0 + n0, x, by omega, by go_num, HA.out, HM2.out⟩
        · have h47 := of_decide_eq_true HB47.out
          have hlt : i0 + n0 < s.size := by
            have := (List.getElem?_eq_some_iff.1 h47).1
            rwa [HL.out] at this
          have hM := HM1.out
          rw [if_pos h47] at hM
          have hw1 := Pm.word_le s.data.toList (i0 + n0 + 1) (by rw [HL.out]; omega)
          rw [HL.out] at hw1
          have hwd1 := HWd.out wc (i0 + n0 + 1) (by omega)
          generalize Pm.word s.data.toList (i0 + n0 + 1) = n1 at *
          simp only [Int.natCast_add, Int.cast_ofNat_Int] at hwd1
          have HW1 := Hid.mk' hwd1
          have HM2 := Hid.mk' hM
          clear hM hwd1 h47 HM1 HB47
          go_wp2_with fail
          refine HW1.out.mono ?_
          rintro e w2 ⟨rfl, hw⟩
          subst hw
          by_cases hz1 : n1 = 0
          · subst hz1
            have HR : Hid (Pm.media s.data.toList = .inl 5) := by have := HM2.out; rw [if_pos rfl] at this; exact this
            clear HM2
            go_wp2
            refine bodyPost_ret (v := .tuple #[.agg #[.string ⟨#[]⟩, .slice none 0 0], .int .i64 5]) (by simp [results, Tryz.results61, go_sem, c0, c1]) rfl (MedOut.bad (c := 5) HR.out ?_)
            first | exact HA.out.below | exact (HA.out.below.setCell (Nat.le_refl _) _).setCell (Nat.le_refl _) _
          · have tz1 : ((n1 : Int) == 0) = false := by rw [beq_eq_false_iff_ne]; omega
            have hM := HM2.out
            rw [if_neg hz1] at hM
            have HSm := Hid.mk' (fun W => small_any (s.extract (i0 + n0 + 1) (i0 + n0 + 1 + n1)) W (by simp; omega))
            have HX : Hid ((s.extract (i0 + n0 + 1) (i0 + n0 + 1 + n1)).data.toList = (s.data.toList.drop (i0 + n0 + 1)).take n1) := by
              unfold Hid; rw [Lib.extract_data]; simp
            rw [HX.out] at HSm
            generalize hy : (⟨(Ch.lower ((s.data.toList.drop (i0 + n0 + 1)).take n1)).toArray⟩ : ByteArray) = y at HSm
            have HY : Hid (y.data.toList = Ch.lower ((s.data.toList.drop (i0 + n0 + 1)).take n1)) := by rw [← hy]; rfl
            have hyz : y.size ≤ 2000 := by
              have := Ch.size_of_list HY.out
              rw [Ch.lower_length, List.length_take] at this
              omega
            have hxz : x.size ≤ 2000 := by
              have := Ch.size_of_list HXl.out
              rw [Ch.lower_length, List.length_take] at this
              omega
            rw [← HY.out, ← HXl.out] at hM
            have HM3 := Hid.mk' hM
            have HN : Hid (∀ q, MedAt w (x ++ (⟨#[47]⟩ ++ y)) [] none 0 ((w2.drewN q).setCell ⟨w.heap.size + 1, 0, none⟩ (.string (x ++ (⟨#[47]⟩ ++ y))))) := fun q => (HA.out.drewN q).word_ _
            clear hM HM2 hy HX
            have k1 : (i0 : Int) + n0 + 1 + n1 ≤ s.size := by omega
            have k2 : (i0 : Int) + n0 + 1 ≤ (i0 : Int) + n0 + 1 + n1 := by omega
            have k3 : ((i0 : Int) + n0 + 1 + n1).toNat = i0 + n0 + 1 + n1 := by omega
            have k4 : ((i0 : Int) + n0 + 1).toNat = i0 + n0 + 1 := by omega
            have k5 : IntKind.i64.wrap ((i0 : Int) + n0 + 1 + n1) = (i0 : Int) + n0 + 1 + n1 := wrap_id (by omega) (by omega)
            have k6 : IntKind.i64.wrap ((i0 : Int) + n0 + 1) = (i0 : Int) + n0 + 1 := wrap_id (by omega) (by omega)
            have k7 : (0 : Int) ≤ (i0 : Int) + n0 + 1 := by omega
            go_wp2
            go_region_with (go_at_call 67; refine (HSm.out _).mono ?_; rintro e w4 ⟨rfl, q4, rfl⟩)
            all_goals
              go_wp2
              go_meet
              exact ⟨i0 + n0 + 1 + n1, x ++ (⟨#[47]⟩ ++ y), by omega, by go_num, HN.out _, by rw [HM3.out, Ch.data_append, Ch.data_append, List.append_assoc]⟩
      case rest =>
        obtain ⟨i, wo, hi, rfl, hA, hM⟩ := hcut
        clear HA HM1 HB47 c0 c1 f0 f1 d0 d1 g0 g1 tz e1 e2 e3 e4 hz hw0 hb0 HXl
        have HA := Hid.mk' hA
        have HM := Hid.mk' hM
        clear hA hM
        go_wp2
        refine medLoop1_any s w _ hs i wo hi HA.out HM.out _ _ _ _ _ _ _ _ _ _ _ _ _ _ _ _ _ _ _ _ _ _ _ _ _ _ _ _ _ _ _ _ _ _ _ _ _ _ _ _ _ _ _ _ _ _ _ _ _ _ _ _ _ _ _ _ _ _ _ _ _ _ _ _ _ _ _ _ _ _ _ _ _ _ _ _ _ _ _ _ _ _ _ _ _ _ _ _ _ _ _ _ _ _ _ _ _ _ _ _ _ _ _ _ _ _ _ _ _ _ _ _ _ _ _ _ _ _ _ _ _ _ _ _ _ _ _ _ _ _ _ _ _ _ _ _ _ _ _ _ _ _ _ _ _ _ _ _ _ _ _ _ _ _ _ _ _ _ _ _ _ _ _ _ _ _ _ _ _ _ _ _ _ _ _ _ _ _ _ _ _ _ _ _ _ _ _ _ _ _ _ _ _ _ _ _ _ _ _ _ _ _ _ _ _ _ _ _ _ _ _ _ _ _ _ _ _ _ _ _ ?_
        intro tm c v0 v1 w' h2 h3 hc0 hc1 hout
        (try simp only [Exit.inBlock])
        refine bodyPost_ret (v := .tuple #[.agg #[v0, v1], .int .i64 c]) ?_ rfl hout
        simp [results, Tryz.results61, go_sem, h2, h3, hc0, hc1]
theorem mediaOf_any (s : ByteArray) (w : World) (hs : s.size ≤ 2000) :
    Calls Tryz.prog 61 #[.string s] w fun e w' => MedOut w (Pm.media s.data.toList) e w' := by
  cases hv : Ch.isVisible s.data.toList
  · exact media_not s w hs hv
  · exact media_main s w hs hv
end Go.Proofs.YtdclmpdjjkjfjaaGreatDoor
