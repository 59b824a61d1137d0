/- Small texts, one behind the other: RfSeenT, RfSmall, StPair, RfMedA. -/
import Derived.Test.YtohddkniphcecabPk8
import Derived.Test.YtohddkniphcecabPk2
import Derived.Test.YtohddkniphcecabPk1
import Derived.Test.YtohddkniphcecabProg
import Derived.Laws.StructEq
import Derived.Test.YtohddkniphcecabPk6
import Derived.Deep.RegionHeld3
import Derived.Deep.DeepCutAuto
/- The document's own answer, walked: SeenText. -/
namespace Go.Proofs.Ytohddkniphcecab
open Go.RowKit

set_option maxHeartbeats 400000 in
theorem seenText_any (s : ByteArray) (w : World) (hs : s.size ≤ maxLen) :
    Calls Try.prog 18 #[.string s] w fun e w' => e = .returned (.bool (Ch.isVisible s.data.toList)) ∧ w' = w := by
  unfold maxLen at hs
  go_enter Try.func18, Try.ntmps18
  go_wp2
  go_loop [3] (fun i => ∃ k : Nat, k ≤ s.size ∧ i = .int .i64 k ∧ ((s.data.toList.take k).all fun b => Ch.visible b.toNat) = true) (fun i => s.size - (intOf i).toNat)
  case atStart => exact ⟨0, Nat.zero_le _, rfl, rfl⟩
  case round =>
    obtain ⟨k, hk, rfl, hno⟩ := hrel
    have HN : Hid (((s.data.toList.take k).all fun b => Ch.visible b.toNat) = true) := hno
    clear hno
    by_cases hlt : k < s.size
    · have hb := s[k].toNat_lt
      cases he : Ch.visible (s[k].toNat : Int)
      · have HE : Hid (Ch.visible (s[k].toNat : Int) = false) := he
        go_wp2_with (go_at_call 39; refine (isSeen_any _ _).mono ?_; rintro e w' ⟨rfl, rfl⟩)
        go_ret
        refine ⟨ret_bool ?_, rfl⟩
        exact (Ch.all_of_take (fun b => Ch.visible b.toNat) s k hlt HE.out).symm
      · have HE : Hid (Ch.visible (s[k].toNat : Int) = true) := he
        go_wp2_with (go_at_call 39; refine (isSeen_any _ _).mono ?_; rintro e w' ⟨rfl, rfl⟩)
        go_round
        case rel => exact ⟨k + 1, by omega, by go_num, by rw [Ch.take_snoc s k hlt, Ch.all_snoc, HN.out, HE.out]; rfl⟩
        case measure => simp [intOf]; omega
    · go_wp2
      go_ret
      refine ⟨ret_bool ?_, rfl⟩
      unfold Ch.isVisible
      rw [← HN.out, Ch.take_all s k (by omega)]
end Go.Proofs.Ytohddkniphcecab

/- The document's own answer, walked: Small. -/
namespace Go.Proofs.Ytohddkniphcecab
open Go.RowKit

set_option maxHeartbeats 400000 in
theorem small_any (s : ByteArray) (w : World) (hs : s.size ≤ 2000) :
    Calls Try.prog 21 #[.string s] w fun e w' => e = .returned (.string ⟨(Ch.lower s.data.toList).toArray⟩) ∧ ∃ n, w' = w.drewN n := by
  go_enter Try.func21, Try.ntmps21
  go_wp2
  go_loopw [3, 4] (fun o i wr => ∃ k n : Nat, ∃ x : ByteArray, k ≤ s.size ∧ i = .int .i64 k ∧ o = .string x ∧ x.data.toList = Ch.lower (s.data.toList.take k) ∧ wr = w.drewN n) (fun _ i _ => s.size - (intOf i).toNat)
  case atStart => exact ⟨0, 0, ⟨#[]⟩, Nat.zero_le _, rfl, rfl, rfl, rfl⟩
  case round =>
    obtain ⟨k, n, x, hk, rfl, rfl, hx, rfl⟩ := hrel
    have hxs : x.size ≤ 2000 := by
      have := Ch.size_of_list hx
      rw [Ch.lower_length] at this
      have h2 : (s.data.toList.take k).length ≤ k := List.length_take_le _ _
      omega
    have HX : Hid (x.data.toList = Ch.lower (s.data.toList.take k)) := hx
    clear hx
    by_cases hlt : k < s.size
    · go_wp2
      go_loopw [5, 6] (fun c i wr => ∃ j n : Nat, ∃ y : ByteArray, j ≤ 26 ∧ i = .int .i64 j ∧ c = .string y ∧ y.data.toList = [Ch.lowTo s[k] j] ∧ wr = w.drewN n) (fun _ i _ => 26 - (intOf i).toNat)
      case atStart => exact ⟨0, n, _, Nat.zero_le _, rfl, rfl, by rw [Ch.one_at s k hlt, Ch.lowTo_zero], rfl⟩
      case round =>
        obtain ⟨j, n, y, hj, rfl, rfl, hy, rfl⟩ := hrel
        have hys : y.size ≤ 1 := by have := Ch.size_of_list hy; simp at this; omega
        have HY : Hid (y.data.toList = [Ch.lowTo s[k] j]) := hy
        clear hy
        by_cases hlj : j < 26
        · go_wp2
          go_quiet (fail)
          go_wp2
          · have he : (((((⟨#[65, 66, 67, 68, 69, 70, 71, 72, 73, 74, 75, 76, 77, 78, 79, 80, 81, 82, 83, 84, 85, 86, 87, 88, 89, 90]⟩ : ByteArray)[j]'hlj).toNat : Nat) : Int) == (s[k].toNat : Int)) = true := by assumption
            go_roundw
            case rel => exact ⟨j + 1, n + nq, _, by omega, by go_num, rfl, Ch.lowTo_hit _ _ hlj he, by simp [World.drewN]⟩
            case measure => simp [intOf]; omega
          · have he : (((((⟨#[65, 66, 67, 68, 69, 70, 71, 72, 73, 74, 75, 76, 77, 78, 79, 80, 81, 82, 83, 84, 85, 86, 87, 88, 89, 90]⟩ : ByteArray)[j]'hlj).toNat : Nat) : Int) == (s[k].toNat : Int)) = false := by assumption
            go_roundw
            case rel => exact ⟨j + 1, n + nq, y, by omega, by go_num, rfl, by rw [HY.out, Ch.lowTo_miss _ _ hlj he], by simp [World.drewN]⟩
            case measure => simp [intOf]; omega
        · obtain rfl : j = 26 := by omega
          go_wp2
          go_roundw
          case rel => exact ⟨k + 1, n, x ++ y, by omega, by go_num, rfl, by rw [Ch.data_append, HX.out, HY.out, Ch.take_snoc s k hlt, Ch.lower_snoc]; rfl, rfl⟩
          case measure => simp [intOf]; omega
    · go_wp2
      go_ret
      exact ⟨ret_str (Ch.str_eq (by rw [HX.out, Ch.take_all s k (by omega)])), n, rfl⟩
end Go.Proofs.Ytohddkniphcecab

/- Two structs of two texts each, compared. -/
namespace Go.Proofs.Ytohddkniphcecab
open Go.RowKit

theorem guard_param : Try.prog.eqGuardType Try.prog.depth 37 = false := by kernel_rfl
theorem held_param : Try.prog.stoodInHeld 37 = false := by kernel_rfl
theorem neq_param (a b c d : ByteArray) (w : World) : (binOp .neq 37 (.agg #[.string a, .string b]) (.agg #[.string c, .string d])).run Try.prog w = .ok (.bool (!((a.toList == c.toList) && (b.toList == d.toList)))) w := by
  rw [run_neq_struct, run_equalIn_agg w _ _ _ _ (by simp [Program.fieldsOf, Try.underlying37]) held_param]
  simp [Program.fieldsOf, Try.underlying37, Op.eqFields, go_sem]
  by_cases h1 : a.toList = c.toList <;> by_cases h2 : b.toList = d.toList <;> simp [h1, h2]
theorem eql_param (a b c d : ByteArray) (w : World) : (binOp .eql 37 (.agg #[.string a, .string b]) (.agg #[.string c, .string d])).run Try.prog w = .ok (.bool ((a.toList == c.toList) && (b.toList == d.toList))) w := by
  rw [run_eql_struct, run_equalIn_agg w _ _ _ _ (by simp [Program.fieldsOf, Try.underlying37]) held_param]
  simp [Program.fieldsOf, Try.underlying37, Op.eqFields, go_sem]
  by_cases h1 : a.toList = c.toList <;> by_cases h2 : b.toList = d.toList <;> simp [h1, h2]
end Go.Proofs.Ytohddkniphcecab

/- The document's own answer: MediaOf: what lies in memory while it runs. -/
namespace Go.Proofs.Ytohddkniphcecab
open Go.RowKit

/-- what is told, and what was reckoned -/
def MedIs (m : Nat ⊕ (List UInt8 × List Pm.Par)) (word : ByteArray) (ps : List (ByteArray × ByteArray)) (code : Nat) : Prop :=
  match m with
  | .inl c => code = c ∧ word = ⟨#[]⟩ ∧ ps = []
  | .inr x => code = 0 ∧ word.data.toList = x.1 ∧ parL ps = x.2
/-- what is answered -/
def MedOut (w : World) (m : Nat ⊕ (List UInt8 × List Pm.Par)) (e : Ending) (w' : World) : Prop :=
  ∃ word ps ao cap, ∃ code : Nat, e = .returned (.tuple #[.agg #[.string word, .slice ao ps.length cap], .int .i64 (code : Int)]) ∧ MedIs m word ps code ∧ OwnV w' w.heap.size 37 2 ao cap ps.length (pairV ps) ∧ Below w.heap.size w w'
theorem MedOut.bad {w w' : World} {m : Nat ⊕ (List UInt8 × List Pm.Par)} {c : Nat} (hm : m = .inl c) (hb : Below w.heap.size w w') : MedOut w m (.returned (.tuple #[.agg #[.string ⟨#[]⟩, .slice none 0 0], .int .i64 (c : Int)])) w' := by
  subst hm
  exact ⟨⟨#[]⟩, [], none, 0, c, rfl, ⟨rfl, rfl, rfl⟩, OwnV.nil _ _ _ _, hb⟩
/-- the value that grows, and beside it the answer's place -/
structure MedAt (w : World) (word : ByteArray) (ps : List (ByteArray × ByteArray)) (ao : Option Addr) (cap : Nat) (wr : World) : Prop where
  res : wr.heap[w.heap.size]? = some (.cells #[.string ⟨#[]⟩, .slice none 0 0] 24 (0, 0))
  med : wr.heap[w.heap.size + 1]? = some (.cells #[.string word, .slice ao ps.length cap] 24 (0, 0))
  own : OwnV wr (w.heap.size + 2) 37 2 ao cap ps.length (pairV ps)
  below : Below w.heap.size w wr
section
variable {w wr w' : World} {word : ByteArray} {ps : List (ByteArray × ByteArray)} {ao : Option Addr} {cap : Nat}
theorem MedAt.size (h : MedAt w word ps ao cap wr) : w.heap.size + 2 ≤ wr.heap.size := by
  have := (Array.getElem?_eq_some_iff.1 h.med).1; omega
theorem MedAt.keep (h : MedAt w word ps ao cap wr) (hb : Below wr.heap.size wr w') : MedAt w word ps ao cap w' := by
  have hs := h.size
  exact ⟨(hb.block _ (by omega)).trans h.res, (hb.block _ (by omega)).trans h.med, h.own.stay hb, h.below.trans (hb.mono (by omega))⟩
theorem MedAt.cells (h : MedAt w word ps ao cap wr) : wr.cell? ⟨w.heap.size, 0, none⟩ = some (.string ⟨#[]⟩) ∧ wr.cell? ⟨w.heap.size, 1, none⟩ = some (.slice none 0 0) ∧ wr.frozen? ⟨w.heap.size, 0, none⟩ = false ∧ wr.frozen? ⟨w.heap.size, 1, none⟩ = false ∧
    wr.cell? ⟨w.heap.size + 1, 0, none⟩ = some (.string word) ∧ wr.cell? ⟨w.heap.size + 1, 1, none⟩ = some (.slice ao ps.length cap) ∧ wr.frozen? ⟨w.heap.size + 1, 0, none⟩ = false ∧ wr.frozen? ⟨w.heap.size + 1, 1, none⟩ = false :=
  ⟨cell_of_row wr _ 0 _ _ _ h.res, cell_of_row wr _ 1 _ _ _ h.res, frozen_of_row wr _ 0 _ _ h.res, frozen_of_row wr _ 1 _ _ h.res, cell_of_row wr _ 0 _ _ _ h.med, cell_of_row wr _ 1 _ _ _ h.med, frozen_of_row wr _ 0 _ _ h.med, frozen_of_row wr _ 1 _ _ h.med⟩
/-- its word is laid anew -/
theorem MedAt.word_ (h : MedAt w word ps ao cap wr) (x : ByteArray) : MedAt w x ps ao cap (wr.setCell ⟨w.heap.size + 1, 0, none⟩ (.string x)) := by
  refine ⟨?_, ?_, h.own.turns (Turns.setCell (fun i => i = w.heap.size + 1) wr _ _ rfl) (fun a e e2 => by have := (h.own.block a e).1; omega), h.below.setCell (by simp) _⟩
  · rw [heap_setCell_other _ _ _ _ (by simp)]; exact h.res
  · rw [heap_setCell_same wr (w.heap.size + 1) 0 _ _ _ h.med]; rfl
/-- its parameters are laid anew -/
theorem MedAt.pars {ps' : List (ByteArray × ByteArray)} {ao' : Option Addr} {cap' : Nat} (h : MedAt w word ps ao cap wr) (ho : OwnV w' (w.heap.size + 2) 37 2 ao' cap' ps'.length (pairV ps')) (hb : Below (w.heap.size + 2) wr w') (n : Nat) (hn : n = ps'.length) : MedAt w word ps' ao' cap' (w'.setCell ⟨w.heap.size + 1, 1, none⟩ (.slice ao' n cap')) := by
  subst hn
  have hr := (hb.block (w.heap.size) (by omega)).trans h.res
  have hm := (hb.block (w.heap.size + 1) (by omega)).trans h.med
  refine ⟨?_, ?_, ho.turns (Turns.setCell (fun i => i = w.heap.size + 1) w' _ _ rfl) (fun a e e2 => by have := (ho.block a e).1; omega), (h.below.trans (hb.mono (by omega))).setCell (by simp) _⟩
  · rw [heap_setCell_other _ _ _ _ (by simp)]; exact hr
  · rw [heap_setCell_same w' (w.heap.size + 1) 1 _ _ _ hm]; rfl
theorem MedAt.drewN (h : MedAt w word ps ao cap wr) (n : Nat) : MedAt w word ps ao cap (wr.drewN n) := h.keep ⟨rfl, rfl, rfl, Nat.le_refl _, fun _ _ => rfl⟩
theorem MedAt.start (w : World) (x : ByteArray) (n : Nat) : MedAt w x [] none 0 (((w.alloc (.cells #[.string ⟨#[]⟩, .slice none 0 0] 24)).drewN n).alloc (.cells #[.string x, .slice none 0 0] 24)) := by
  have e1 := heap_alloc_new w (.cells #[.string ⟨#[]⟩, .slice none 0 0] 24)
  have e2 := heap_alloc_new ((w.alloc (.cells #[.string ⟨#[]⟩, .slice none 0 0] 24)).drewN n) (.cells #[.string x, .slice none 0 0] 24)
  have hz : ((w.alloc (.cells #[.string ⟨#[]⟩, .slice none 0 0] 24)).drewN n).heap.size = w.heap.size + 1 := by simp [World.drewN]
  rw [hz] at e2
  have b1 : Below w.heap.size w (w.alloc (.cells #[.string ⟨#[]⟩, .slice none 0 0] 24)) := (Below.refl _ _).alloc (Nat.le_refl _) _
  have b2 : Below w.heap.size w ((w.alloc (.cells #[.string ⟨#[]⟩, .slice none 0 0] 24)).drewN n) := b1.trans ⟨rfl, rfl, rfl, Nat.le_refl _, fun _ _ => rfl⟩
  refine ⟨?_, e2, OwnV.nil _ _ _ _, b2.alloc (by rw [hz]; omega) _⟩
  rw [(World.grownBy_alloc _ _ none).block w.heap.size (by rw [hz]; omega) (by simp)]
  exact e1
/-- a parameter that is read beside it, at block q -/
structure MedPar (w : World) (word : ByteArray) (ps : List (ByteArray × ByteArray)) (ao : Option Addr) (cap q : Nat) (nm v : ByteArray) (wr : World) : Prop where
  med : MedAt w word ps ao cap wr
  par : wr.heap[q]? = some (.cells #[.string nm, .string v] 37 (0, 0))
  q_ : w.heap.size + 2 ≤ q
  apart : ∀ a, ao = some a → a.block ≠ q
variable {q : Nat} {nm v : ByteArray}
theorem MedPar.start (h : MedAt w word ps ao cap wr) (n : Nat) (nm : ByteArray) : MedPar w word ps ao cap wr.heap.size nm ⟨#[]⟩ ((wr.drewN n).alloc (.cells #[.string nm, .string ⟨#[]⟩] 37)) := by
  have hs := h.size
  refine ⟨(h.drewN n).keep ((Below.refl _ _).alloc (Nat.le_refl _) _), heap_alloc_new (wr.drewN n) _, hs, fun a e e2 => ?_⟩
  have := (h.own.block a e).2
  omega
theorem MedPar.keep (h : MedPar w word ps ao cap q nm v wr) (hb : Below wr.heap.size wr w') : MedPar w word ps ao cap q nm v w' :=
  ⟨h.med.keep hb, (hb.block _ (Array.getElem?_eq_some_iff.1 h.par).1).trans h.par, h.q_, h.apart⟩
theorem MedPar.drewN (h : MedPar w word ps ao cap q nm v wr) (n : Nat) : MedPar w word ps ao cap q nm v (wr.drewN n) := h.keep ⟨rfl, rfl, rfl, Nat.le_refl _, fun _ _ => rfl⟩
theorem MedPar.cells (h : MedPar w word ps ao cap q nm v wr) : wr.cell? ⟨q, 0, none⟩ = some (.string nm) ∧ wr.cell? ⟨q, 1, none⟩ = some (.string v) ∧ wr.frozen? ⟨q, 0, none⟩ = false ∧ wr.frozen? ⟨q, 1, none⟩ = false :=
  ⟨cell_of_row wr _ 0 _ _ _ h.par, cell_of_row wr _ 1 _ _ _ h.par, frozen_of_row wr _ 0 _ _ h.par, frozen_of_row wr _ 1 _ _ h.par⟩
/-- behind an append -/
theorem MedPar.row (h : MedPar w word ps ao cap q nm v wr) (o : Obj) {w3 : World} (hG : (wr.alloc o).grownBy w3 (blockOf ao)) : Below (w.heap.size + 2) wr w3 := by
  have hs := h.med.size
  refine ((Below.refl _ _).alloc hs o).grown hG (by simp; omega) (fun k e => ?_)
  cases ao with
  | none => simp [blockOf] at e
  | some a => simp only [blockOf, Option.some.injEq] at e; have := (h.med.own.block a rfl).1; omega
theorem MedPar.name (h : MedPar w word ps ao cap q nm v wr) (x : ByteArray) : MedPar w word ps ao cap q x v (wr.setCell ⟨q, 0, none⟩ (.string x)) := by
  have hq := h.q_
  refine ⟨⟨?_, ?_, h.med.own.turns (Turns.setCell (fun i => i = q) wr _ _ rfl) (fun a e e2 => h.apart a e e2), h.med.below.setCell (show w.heap.size ≤ q by omega) _⟩, ?_, hq, h.apart⟩
  · rw [heap_setCell_other _ _ _ _ (show w.heap.size ≠ q by omega)]; exact h.med.res
  · rw [heap_setCell_other _ _ _ _ (show w.heap.size + 1 ≠ q by omega)]; exact h.med.med
  · rw [heap_setCell_same wr q 0 _ _ _ h.par]; rfl
theorem MedPar.value (h : MedPar w word ps ao cap q nm v wr) (x : ByteArray) : MedPar w word ps ao cap q nm x (wr.setCell ⟨q, 1, none⟩ (.string x)) := by
  have hq := h.q_
  refine ⟨⟨?_, ?_, h.med.own.turns (Turns.setCell (fun i => i = q) wr _ _ rfl) (fun a e e2 => h.apart a e e2), h.med.below.setCell (show w.heap.size ≤ q by omega) _⟩, ?_, hq, h.apart⟩
  · rw [heap_setCell_other _ _ _ _ (show w.heap.size ≠ q by omega)]; exact h.med.res
  · rw [heap_setCell_other _ _ _ _ (show w.heap.size + 1 ≠ q by omega)]; exact h.med.med
  · rw [heap_setCell_same wr q 1 _ _ _ h.par]; rfl
end
end Go.Proofs.Ytohddkniphcecab
