/- Small texts, one behind the other: RowKitL, RowKitT. -/
import Derived.Test.YtnacbfeijakipabDoorPk15
import Derived.Test.YtnacbfeijakipabDoorPk16
import Derived.Test.YtnacbfeijakipabDoorRows
import Derived.Test.YtnacbfeijakipabDoorPk14
import Derived.ProofKit
import Derived.OpenShut
import Derived.Lib.LaidTab
import Derived.Stop.LaidErr
/- A slice of bytes, and a slice of such, as an argument is read: their elements, once. -/
namespace Go.Proofs.YtnacbfeijakipabDoor
open Go.ChangeShapes Go.WideShapes Go.ChangeAt Go.RowKit

/-- a reading is of so many elements -/
def Spans {H : Type} (d : DataW H) (n : Nat) : Prop := (d = .nil ∧ n = 0) ∨ ∃ elems spare, d = .slice elems spare ∧ elems.length = n
section
variable {H : Type} {enc : TypeId × Value → H} {P : Program} {w : World} {base : Nat} {held : Bool}
/-- a slice of bytes -/
theorem open_bytes {u e : TypeId} {fuel : Nat} {cs : List Value} {d : DataW H} {p : List MemPlace} (hu : P.underlying u = some (.slice e)) (he : P.underlying e = some (.int .u8)) (hc : P.cellsOf e = 1)
    (h : DataW.trod enc P w base (fun _ => true) held fuel u cs = some (d, p)) :
    ∃ (a0 : Option Addr) (cap : Nat) (l : List UInt8), cs = [.slice a0 l.length cap] ∧ IsB w a0 cap l ∧ Spans d l.length := by
  rcases open_ints hu he hc h with ⟨hcs, hx⟩ | ⟨a, len, cap, zs, hcs, _, hl, _, hz, hx, hcell, hwz⟩
  · injection hx with hd _
    exact ⟨none, 0, [], hcs, IsB.nil w, Or.inl ⟨hd, rfl⟩⟩
  · simp only [if_true] at hz
    injection hx with hd _
    have hlen : ((zs.take len).map fun z => UInt8.ofNat z.toNat).length = len := by rw [List.length_map, List.length_take]; omega
    refine ⟨some a, cap, (zs.take len).map (fun z => UInt8.ofNat z.toNat), by rw [hlen]; exact hcs, ⟨by omega, (fun h => by cases h), fun j hj => ⟨a, rfl, ?_⟩⟩, Or.inr ⟨_, _, hd, ?_⟩⟩
    · rw [hlen] at hj
      have hj' : j < zs.length := by omega
      rw [hcell j hj']
      have hg : zs.getD j 0 = zs[j] := by simp [List.getD, hj']
      have hw := hwz zs[j] (List.getElem_mem _)
      have hx : 0 ≤ zs[j] ∧ zs[j] ≤ 255 := by simpa [Lit.wf, IntKind.min, IntKind.max, IntKind.signed, IntKind.bits] using hw
      rw [hg]
      simp only [List.getElem_map, List.getElem_take]
      have e : ((UInt8.ofNat zs[j].toNat).toNat : Int) = zs[j] := by
        rw [UInt8.toNat_ofNat']; omega
      rw [e]
    · simp [lits] <;> omega
theorem Spans.light {u e : TypeId} {d : DataW H} {n : Nat} (hu : P.underlying u = some (.slice e)) (hb : P.bytesOf e = 1) (h : Spans d n) (hL : Light P u d) : n ≤ reachBytes := by
  rcases h with ⟨rfl, rfl⟩ | ⟨elems, spare, rfl, rfl⟩
  · exact Nat.zero_le _
  · have := light_len hu hL
    rw [hb] at this
    omega
/-- a slice of slices of bytes -/
theorem open_lists {v u e : TypeId} {fuel : Nat} {cs : List Value} {d : DataW H} {p : List MemPlace} (hv : P.underlying v = some (.slice u)) (hu : P.underlying u = some (.slice e)) (he : P.underlying e = some (.int .u8)) (hc : P.cellsOf e = 1) (hcu : P.cellsOf u = 1)
    (h : DataW.trod enc P w base (fun _ => true) held fuel v cs = some (d, p)) :
    ∃ (a0 : Option Addr) (cap : Nat) (ls : List (List UInt8)), cs = [.slice a0 ls.length cap] ∧ IsL w a0 cap ls ∧
      ((d = .nil ∧ ls = []) ∨ ∃ elems spare, d = .slice elems spare ∧ elems.length = ls.length ∧ ∀ (j : Nat) x l, elems[j]? = some x → ls[j]? = some l → Spans x l.length) := by
  rcases Go.Deep.open_slice1 hv hcu h with ⟨hcs, hx⟩ | ⟨a, len, cap, m, n, V, D, Pl, hcs, _, hl, _, hm, hx, hcell⟩
  · injection hx with hd _
    exact ⟨none, 0, [], hcs, IsL.nil w, Or.inl ⟨hd, rfl⟩⟩
  · simp only [if_true] at hm
    subst hm
    injection hx with hd _
    have each : ∀ i, i < len → ∃ q : Option Addr × Nat × List UInt8, V i = .slice q.1 q.2.2.length q.2.1 ∧ IsB w q.1 q.2.1 q.2.2 ∧ Spans (D i) q.2.2.length := by
      intro i hi
      obtain ⟨_, k2⟩ := hcell i (by omega)
      obtain ⟨a1, c1, l, e1, h1, h2⟩ := open_bytes hu he hc k2
      injection e1 with e1 _
      exact ⟨(a1, c1, l), e1, h1, h2⟩
    obtain ⟨F, hF⟩ := Go.Deep.choose_lt each
    have hlen : ((List.range len).map fun i => (F i).2.2).length = len := by simp
    refine ⟨some a, m, (List.range len).map (fun i => (F i).2.2), by rw [hlen]; exact hcs, ⟨by omega, (fun h => by cases h), fun j hj => ?_⟩, Or.inr ⟨_, _, hd, by simp, fun j x l hx hl => ?_⟩⟩
    · rw [hlen] at hj
      have hf := hF j hj
      have hk := (hcell j (by omega)).1
      rw [hf.1] at hk
      refine ⟨a, (F j).1, (F j).2.1, rfl, ?_, ?_⟩
      · rw [hk]; simp
      · simpa using hf.2.1
    · have hj : j < len := by
        have := (List.getElem?_eq_some_iff.1 hl).1
        rwa [hlen] at this
      have e1 : D j = x := by simpa [hj] using hx
      have e2 : (F j).2.2 = l := by simpa [hj] using hl
      rw [← e1, ← e2]
      exact (hF j hj).2.2
end
end Go.Proofs.YtnacbfeijakipabDoor

/- The tables of the library that rows of this program list: what a row gives of them, and a world that holds them. -/
namespace Go.Proofs.YtnacbfeijakipabDoor
open Go.ChangeShapes Go.WideShapes Go.ChangeAt Go.RowKit

/-- the numbers of a table of integers -/
def tabZ : DataW Unit → List Int
  | .agg l => l.map fun | .lit (.int _ z) => z | _ => 0
  | _ => []
theorem gTz : Tryd.prog.globalNamed "math/bits.deBruijn64tab" = some 5 := by kernel_rfl
theorem gTzType : (Tryd.prog.globals[5]?).map (·.type) = some 117 := by kernel_rfl
theorem cellsTz : Tryd.prog.cellsOf 117 = 64 := by kernel_rfl
theorem cellsTz1 : Tryd.prog.cellsOf 5 = 1 := by kernel_rfl
/-- the table of trailing zeros, out of the row's list -/
theorem tz_of_laid {W : World} {rest : List (String × DataW Unit)} {x : String × DataW Unit} (h : laidMet Tryd.prog (x :: ("math/bits.deBruijn64tab", Rows.laid_math_bits_deBruijn64tab) :: rest) W) : TzAt W := by
  have h1 : laidMet Tryd.prog (("math/bits.deBruijn64tab", Lib.tabData .u8 (tabZ Rows.laid_math_bits_deBruijn64tab)) :: rest) W := h.tail
  have h2 := Lib.tabIs_of_head (rest := rest) gTz gTzType Tryd.underlying117 Tryd.underlying5 cellsTz1 cellsTz h1
  have h3 := h2.cell gTz 15 (by decide)
  exact h3.trans (by rfl)
/-- the tables, laid in a world's variables -/
def laidHeap (h : Array Obj) : Array Obj :=
  ((((h.modify 1 (fun o => match o with | .cells _ t frozen => .cells ((tabZ Rows.laid_internal_strconv_uint64pow10).map fun z => Value.int .u64 z).toArray t frozen | o => o)).modify 2 (fun o => match o with | .cells _ t frozen => .cells (Pinned.utf8FirstZ.map fun n : Nat => Value.int .u8 (n : Int)).toArray t frozen | o => o)).modify 3 (fun o => match o with | .cells _ t frozen => .cells (([128, 191, 160, 191, 128, 159, 144, 191, 128, 143] ++ List.replicate 22 0).map fun n : Nat => Value.int .u8 (n : Int)).toArray t frozen | o => o)).modify 4 (fun o => match o with | .cells _ t frozen => .cells ((tabZ Rows.laid_math_bits_deBruijn32tab).map fun z => Value.int .u8 z).toArray t frozen | o => o)).modify 5 (fun o => match o with | .cells _ t frozen => .cells ((tabZ Rows.laid_math_bits_deBruijn64tab).map fun z => Value.int .u8 z).toArray t frozen | o => o)
end Go.Proofs.YtnacbfeijakipabDoor
