/- Small texts, one behind the other: Foot, MemO, MemJ. -/
import Derived.Test.YtdclmpdjjkjfjaaGreatDoorPk3
import Derived.Deep.OwnRows
import Derived.Laws.OwnMore
import Derived.Test.YtdclmpdjjkjfjaaGreatDoorPk2
/- What of memory a call may turn: a set of blocks; and what stays by it. -/
namespace Go.Proofs.YtdclmpdjjkjfjaaGreatDoor
open Go.RowKit

/-- blocks of elements of different types differ -/
theorem row_ne {w : World} {g : Nat} {cs : Array Value} {t : Nat} {fr : Nat × Nat} {base e size : Nat} {v : Value} {n : Nat} {xs : List Value} (hg : w.heap[g]? = some (.cells cs t fr)) (h : w.ownsRow base e size v n xs) (hne : t ≠ e) : v.ownBlock ≠ some g := by
  rcases h.2 with ⟨rfl, _⟩ | ⟨g', cap, cur, rfl, _, hg', _⟩
  · simp [Value.ownBlock]
  · intro e
    simp [Value.ownBlock] at e
    subst e
    rw [hg] at hg'
    injection hg' with hg'
    injection hg' with _ e _
    exact hne e
theorem row_is_ne {w : World} {g b : Nat} {cs : Array Value} {t e : Nat} {fr : Nat × Nat} {n : Nat} {f : Nat → Value} (hg : w.heap[g]? = some (.cells cs t fr)) (h : w.rowIs b e n f) (hne : t ≠ e) : b ≠ g := by
  rintro rfl
  obtain ⟨c, hc, _⟩ := h
  rw [hg] at hc
  injection hc with hc
  injection hc with _ e' _
  exact hne e'
/-- all that is outside of the blocks S stays; new blocks may come -/
structure Turns (S : Nat → Prop) (w w' : World) : Prop where
  os : w'.os = w.os
  tape : w'.tape = w.tape
  output : w'.output = w.output
  size : w.heap.size ≤ w'.heap.size
  block : ∀ k, k < w.heap.size → ¬ S k → w'.heap[k]? = w.heap[k]?
/-- S, and all that is new -/
def orNew (S : Nat → Prop) (w : World) : Nat → Prop := fun k => S k ∨ w.heap.size ≤ k
section
variable {S S' : Nat → Prop} {w w1 w' : World}
theorem Turns.refl (S : Nat → Prop) (w : World) : Turns S w w := ⟨rfl, rfl, rfl, Nat.le_refl _, fun _ _ _ => rfl⟩
theorem Turns.mono (h : Turns S w w') (hs : ∀ k, S k → S' k) : Turns S' w w' := ⟨h.os, h.tape, h.output, h.size, fun k hk hn => h.block k hk (fun e => hn (hs k e))⟩
/-- one behind the other -/
theorem Turns.trans (h : Turns S w w1) (k : Turns S' w1 w') (hs : ∀ i, S' i → i < w.heap.size → S i) : Turns S w w' :=
  ⟨k.os.trans h.os, k.tape.trans h.tape, k.output.trans h.output, Nat.le_trans h.size k.size, fun i hi hn => (k.block i (Nat.lt_of_lt_of_le hi h.size) (fun e => hn (hs i e hi))).trans (h.block i hi hn)⟩
theorem Turns.then_ (h : Turns S w w1) (k : Turns (orNew S w) w1 w') : Turns S w w' := h.trans k (fun i e hi => by
  rcases e with e | e
  · exact e
  · omega)
theorem Turns.of_grown {row : Option Nat} (h : w.grownBy w' row) (hr : ∀ k, row = some k → S k) : Turns S w w' := ⟨h.os, h.tape, h.output, h.size, fun k hk hn => h.block k hk (fun e => hn (hr k e.symm))⟩
theorem Turns.of_below (h : Below w.heap.size w w') : Turns S w w' := ⟨h.os, h.tape, h.output, h.size, fun k hk _ => h.block k hk⟩
theorem Turns.drewN (S : Nat → Prop) (w : World) (n : Nat) : Turns S w (w.drewN n) := ⟨rfl, rfl, rfl, Nat.le_refl _, fun _ _ _ => rfl⟩
theorem Turns.setCell (S : Nat → Prop) (w : World) (a : Addr) (v : Value) (h : S a.block) : Turns S w (w.setCell a v) := ⟨rfl, rfl, rfl, by simp [World.setCell], fun k _ hn => heap_setCell_other w a k v (fun e => hn (by rw [e]; exact h))⟩
theorem Turns.below {B : Nat} (h : Turns S w w') (hs : ∀ k, S k → B ≤ k) (hB : B ≤ w.heap.size) : Below B w w' := ⟨h.os, h.tape, h.output, h.size, fun k hk => h.block k (by omega) (fun e => by have := hs k e; omega)⟩
theorem Turns.row (h : Turns S w w') {k : Nat} {o : Obj} (hk : w.heap[k]? = some o) (hn : ¬ S k) : w'.heap[k]? = some o := (h.block k (Array.getElem?_eq_some_iff.1 hk).1 hn).trans hk
theorem OwnB.turns {base t : Nat} {ao : Option Addr} {cap : Nat} {l : List UInt8} (h : OwnB w base t ao cap l) (ht : Turns S w w') (ha : ∀ a, ao = some a → ¬ S a.block) : OwnB w' base t ao cap l := by
  refine ⟨h.1, ?_⟩
  rcases h.2 with hn | ⟨g, cap', cur, e, hg, hh, r⟩
  · exact Or.inl hn
  · refine Or.inr ⟨g, cap', cur, e, hg, ?_, r⟩
    injection e with e1 e2 e3
    exact ht.row hh (ha _ e1)
theorem OwnV.turns {base t k : Nat} {ao : Option Addr} {cap n : Nat} {xs : List Value} (h : OwnV w base t k ao cap n xs) (ht : Turns S w w') (ha : ∀ a, ao = some a → ¬ S a.block) : OwnV w' base t k ao cap n xs := by
  refine ⟨h.1, ?_⟩
  rcases h.2 with hn | ⟨g, cap', cur, e, hg, hh, r⟩
  · exact Or.inl hn
  · refine Or.inr ⟨g, cap', cur, e, hg, ?_, r⟩
    injection e with e1 e2 e3
    exact ht.row hh (ha _ e1)
theorem IsB.turns {ao : Option Addr} {cap : Nat} {l : List UInt8} (h : IsB w ao cap l) (ht : Turns S w w') (ha : ∀ a, ao = Option.some a → ¬ S a.block) : IsB w' ao cap l :=
  h.move fun a e v j hv => by
    have hb := ht.block (a.add j).block (World.block_lt_of_cell? w _ hv) (by rw [add_block]; exact ha a e)
    rw [World.cell?_of_block hb]; exact hv
theorem IsV.turns {ao : Option Addr} {cap n : Nat} {xs : List Value} (h : IsV w ao cap n xs) (ht : Turns S w w') (ha : ∀ a, ao = Option.some a → ¬ S a.block) : IsV w' ao cap n xs :=
  h.move fun a e v j hv => by
    have hb := ht.block (a.add j).block (World.block_lt_of_cell? w _ hv) (by rw [add_block]; exact ha a e)
    rw [World.cell?_of_block hb]; exact hv
end
end Go.Proofs.YtdclmpdjjkjfjaaGreatDoor

/- Events of a stream that a call gathers, of whatever program: a row of its own, what lies within each of them, and all of its memory among some blocks; one more behind them, bytes more of the last one. -/
namespace Go.Proofs.YtdclmpdjjkjfjaaGreatDoor
open Go.RowKit

/-- cells that are read, and where there are some, they lie among the blocks S -/
structure IsVS (w : World) (S : Nat → Prop) (ao : Option Addr) (cap n : Nat) (xs : List Value) : Prop where
  is : IsV w ao cap n xs
  mem : xs ≠ [] → ∀ a, ao = some a → S a.block
structure IsBS (w : World) (S : Nat → Prop) (ao : Option Addr) (cap : Nat) (l : List UInt8) : Prop where
  is : IsB w ao cap l
  mem : l ≠ [] → ∀ a, ao = some a → S a.block
/-- bytes that an append may go on with: of the call's own, among the blocks S; or none, and no room -/
def GrowB (w : World) (S : Nat → Prop) (t : Nat) (ao : Option Addr) (cap : Nat) (l : List UInt8) : Prop :=
  (l ≠ [] ∧ OwnB w 0 t ao cap l ∧ ∀ a, ao = some a → S a.block) ∨ (l = [] ∧ cap = 0)
section
variable {w w' : World} {S S' : Nat → Prop} {t : Nat} {ao : Option Addr} {cap n : Nat} {xs : List Value} {l : List UInt8}
theorem IsVS.nil (w : World) (S : Nat → Prop) : IsVS w S none 0 0 [] := ⟨IsV.nil w, fun e => absurd rfl e⟩
theorem IsBS.nil (w : World) (S : Nat → Prop) : IsBS w S none 0 [] := ⟨IsB.nil w, fun e => absurd rfl e⟩
theorem GrowB.nil (w : World) (S : Nat → Prop) (t : Nat) : GrowB w S t none 0 [] := Or.inr ⟨rfl, rfl⟩
theorem IsVS.mono (h : IsVS w S ao cap n xs) (hs : ∀ k, k < w.heap.size → S k → S' k) : IsVS w S' ao cap n xs := ⟨h.is, fun hx a e => by
  refine hs _ ?_ (h.mem hx a e)
  subst e
  cases xs with
  | nil => exact absurd rfl hx
  | cons u r =>
    have := World.block_lt_of_cell? w _ (h.is.cell (j := 0) rfl)
    rwa [add_block] at this⟩
theorem IsBS.mono (h : IsBS w S ao cap l) (hs : ∀ k, k < w.heap.size → S k → S' k) : IsBS w S' ao cap l := ⟨h.is, fun hx a e => by
  refine hs _ ?_ (h.mem hx a e)
  subst e
  cases l with
  | nil => exact absurd rfl hx
  | cons u r =>
    have := World.block_lt_of_cell? w _ (h.is.cell 0 (by simp))
    rwa [add_block] at this⟩
theorem GrowB.mono (h : GrowB w S t ao cap l) (hs : ∀ k, k < w.heap.size → S k → S' k) : GrowB w S' t ao cap l := by
  rcases h with ⟨h1, h2, h3⟩ | h
  · exact Or.inl ⟨h1, h2, fun a e => hs _ (h2.block a e).2 (h3 a e)⟩
  · exact Or.inr h
theorem IsV.empty (w : World) (h : IsV w' ao cap n []) : IsV w ao cap n [] := ⟨h.1, h.2.1, fun j u hj => by simp at hj⟩
theorem IsB.empty (w : World) (h : IsB w' ao cap []) : IsB w ao cap [] := ⟨h.1, h.2.1, fun j hj => by simp at hj⟩
theorem IsVS.turns (h : IsVS w S ao cap n xs) (ht : Turns S' w w') (hs : ∀ k, S k → ¬ S' k) : IsVS w' S ao cap n xs := by
  refine ⟨?_, h.mem⟩
  by_cases hx : xs = []
  · subst hx; exact IsV.empty w' h.is
  · exact h.is.turns ht (fun a e => hs _ (h.mem hx a e))
theorem IsBS.turns (h : IsBS w S ao cap l) (ht : Turns S' w w') (hs : ∀ k, S k → ¬ S' k) : IsBS w' S ao cap l := by
  refine ⟨?_, h.mem⟩
  by_cases hx : l = []
  · subst hx; exact IsB.empty w' h.is
  · exact h.is.turns ht (fun a e => hs _ (h.mem hx a e))
theorem GrowB.turns (h : GrowB w S t ao cap l) (ht : Turns S' w w') (hs : ∀ k, S k → ¬ S' k) : GrowB w' S t ao cap l := by
  rcases h with ⟨h1, h2, h3⟩ | h
  · exact Or.inl ⟨h1, h2.turns ht (fun a e => hs _ (h3 a e)), h3⟩
  · exact Or.inr h
theorem GrowB.isB (h : GrowB w S t ao cap l) : IsB w ao cap l := by
  rcases h with ⟨_, h2, _⟩ | ⟨rfl, rfl⟩
  · exact h2.isB
  · exact ⟨Nat.le_refl _, fun _ => rfl, fun j hj => by simp at hj⟩
theorem GrowB.isBS (h : GrowB w S t ao cap l) : IsBS w S ao cap l := ⟨h.isB, fun hl a e => by
  rcases h with ⟨_, _, h3⟩ | ⟨h1, _⟩
  · exact h3 a e
  · exact absurd h1 hl⟩
end
/-- what lies within an event, all of it among the blocks S -/
structure InE (w : World) (S : Nat → Prop) (e : EvD) (s : EvS) : Prop where
  fields : IsVS w S s.fo s.fcap e.fields.length (pairV e.fields)
  bytes : IsBS w S s.bo s.bcap e.bytes
  pbytes : IsBS w S s.po s.pcap e.pbytes
theorem InE.mono {w : World} {S S' : Nat → Prop} {e : EvD} {s : EvS} (h : InE w S e s) (hs : ∀ k, k < w.heap.size → S k → S' k) : InE w S' e s := ⟨h.fields.mono hs, h.bytes.mono hs, h.pbytes.mono hs⟩
theorem InE.turns {w w' : World} {S S' : Nat → Prop} {e : EvD} {s : EvS} (h : InE w S e s) (ht : Turns S' w w') (hs : ∀ k, S k → ¬ S' k) : InE w' S e s := ⟨h.fields.turns ht hs, h.bytes.turns ht hs, h.pbytes.turns ht hs⟩
/-- the row of events -/
def rowsV (ps : List (EvD × EvS)) : List Value := ps.flatMap fun p => p.1.cells p.2
theorem rowsV_length (ps : List (EvD × EvS)) : (rowsV ps).length = ps.length * 12 := by
  induction ps with
  | nil => rfl
  | cons p t ih =>
    have e : (p.1.cells p.2).length = 12 := rfl
    simp only [rowsV, List.flatMap_cons, List.length_append, List.length_cons] at ih ⊢
    rw [ih, e]; omega
theorem rowsV_append (a b : List (EvD × EvS)) : rowsV (a ++ b) = rowsV a ++ rowsV b := by simp [rowsV]
theorem cells_one (e : EvD) (s : EvS) : ∀ u ∈ e.cells s, u.oneCell' = true := by
  intro u hu
  simp only [EvD.cells, List.mem_cons, List.not_mem_nil, or_false] at hu
  rcases hu with rfl | rfl | rfl | rfl | rfl | rfl | rfl | rfl | rfl | rfl | rfl | rfl <;> rfl
theorem rowsV_one (ps : List (EvD × EvS)) : ∀ u ∈ rowsV ps, u.oneCell' = true := by
  intro u hu
  obtain ⟨p, _, hp⟩ := List.mem_flatMap.1 hu
  exact cells_one _ _ u hp
theorem rowsV_at : ∀ (ps : List (EvD × EvS)) (i : Nat) (hi : i < ps.length) (j : Nat), j < 12 → (rowsV ps)[i * 12 + j]? = (ps[i].1.cells ps[i].2)[j]?
  | p :: t, 0, _, j, hj => by
    show (p.1.cells p.2 ++ rowsV t)[0 * 12 + j]? = _
    rw [List.getElem?_append_left (by rw [show (p.1.cells p.2).length = 12 from rfl]; omega), Nat.zero_mul, Nat.zero_add]
    rfl
  | p :: t, i + 1, hi, j, hj => by
    show (p.1.cells p.2 ++ rowsV t)[(i + 1) * 12 + j]? = _
    rw [List.getElem?_append_right (by rw [show (p.1.cells p.2).length = 12 from rfl]; omega), show (p.1.cells p.2).length = 12 from rfl, show (i + 1) * 12 + j - 12 = i * 12 + j by omega]
    exact rowsV_at t i (by simpa using hi) j hj
/-- an event in a new block -/
theorem EvD.made (e : EvD) (s : EvS) (W : World) (t : Nat) (fr : Nat × Nat) {k : Nat} (hk : W.heap.size = k) : IsV (W.alloc (.cells #[.int .i64 e.kind, .string e.method, .string e.target, .int .i64 e.minor, .slice s.fo e.fields.length s.fcap, .int .i64 e.length, .slice s.bo e.bytes.length s.bcap, .string e.pname, .string e.pfile, .string e.ptype, .slice s.po e.pbytes.length s.pcap, .int .i64 e.code] t fr)) (some ⟨k, 0, none⟩) 1 1 (e.cells s) := by
  subst hk
  exact IsV.made W _ 1 t fr
/-- the block of the bytes of an event that has some -/
def lastB (e : EvD) (s : EvS) : Option Nat := if e.bytes = [] then none else blockOf s.bo
/-- events that are gathered: a row of the call's own; the last one's bytes lie apart from all else -/
inductive OutAt (w : World) (S : Nat → Prop) (tE tb : Nat) : Option Addr → Nat → List EvD → Prop
  | bare : OutAt w S tE tb none 0 []
  | laid (q : List (EvD × EvS)) (e : EvD) (s : EvS) (g cap : Nat) (own : OwnV w 0 tE 12 (some ⟨g, 0, none⟩) cap (q.length + 1) (rowsV (q ++ [(e, s)]))) (mem : S g)
      (ahead : ∀ p ∈ q, InE w (fun k => (S k ∧ k ≠ g) ∧ lastB e s ≠ some k) p.1 p.2)
      (fields : IsVS w (fun k => (S k ∧ k ≠ g) ∧ lastB e s ≠ some k) s.fo s.fcap e.fields.length (pairV e.fields))
      (pbytes : IsBS w (fun k => (S k ∧ k ≠ g) ∧ lastB e s ≠ some k) s.po s.pcap e.pbytes)
      (bytes : GrowB w (fun k => S k ∧ k ≠ g) tb s.bo s.bcap e.bytes) : OutAt w S tE tb (some ⟨g, 0, none⟩) cap (q.map (·.1) ++ [e])
section
variable {w w' : World} {S S' : Nat → Prop} {tE tb : Nat} {ao : Option Addr} {cap : Nat} {es : List EvD}
theorem OutAt.turns (h : OutAt w S tE tb ao cap es) (ht : Turns S' w w') (hs : ∀ k, S k → ¬ S' k) : OutAt w' S tE tb ao cap es := by
  cases h with
  | bare => exact .bare
  | laid q e s g cap own mem ahead fields pbytes bytes =>
    exact .laid q e s g cap (own.turns ht (fun a e => by injection e with e; subst e; exact hs _ mem)) mem (fun p hp => (ahead p hp).turns ht (fun k e => hs k e.1.1)) (fields.turns ht (fun k e => hs k e.1.1)) (pbytes.turns ht (fun k e => hs k e.1.1)) (bytes.turns ht (fun k e => hs k e.1))
theorem OutAt.mono (h : OutAt w S tE tb ao cap es) (hs : ∀ k, k < w.heap.size → S k → S' k) : OutAt w S' tE tb ao cap es := by
  cases h with
  | bare => exact .bare
  | laid q e s g cap own mem ahead fields pbytes bytes =>
    have hs2 : ∀ k, k < w.heap.size → ((S k ∧ k ≠ g) ∧ lastB e s ≠ Option.some k) → ((S' k ∧ k ≠ g) ∧ lastB e s ≠ Option.some k) := fun k hk e => ⟨⟨hs k hk e.1.1, e.1.2⟩, e.2⟩
    exact .laid q e s g cap own (hs g (own.block _ rfl).2 mem) (fun p hp => (ahead p hp).mono hs2) (fields.mono hs2) (pbytes.mono hs2) (bytes.mono (fun k hk e => ⟨hs k hk e.1, e.2⟩))
theorem OutAt.stay (h : OutAt w S tE tb ao cap es) (hb : Below w.heap.size w w') : OutAt w' S tE tb ao cap es := h.turns (Turns.of_below (S := fun _ => False) hb) (fun _ _ e => e)
theorem OutAt.own (h : OutAt w S tE tb ao cap es) : ∃ ps : List (EvD × EvS), ps.map (·.1) = es ∧ OwnV w 0 tE 12 ao cap es.length (rowsV ps) ∧ (∀ a, ao = some a → S a.block) ∧ ∀ p ∈ ps, InE w (fun k => S k ∧ blockOf ao ≠ some k) p.1 p.2 := by
  cases h with
  | bare => exact ⟨[], rfl, OwnV.nil _ _ _ _, fun a e => (by cases e), fun p hp => (by cases hp)⟩
  | laid q e s g cap own mem ahead fields pbytes bytes =>
    refine ⟨q ++ [(e, s)], by simp, by simpa using own, fun a e => (by injection e with e; subst e; exact mem), fun p hp => ?_⟩
    have hc : ∀ k, k < w.heap.size → ((S k ∧ k ≠ g) ∧ lastB e s ≠ Option.some k) → (S k ∧ blockOf (Option.some ⟨g, 0, Option.none⟩) ≠ Option.some k) := fun k _ e => ⟨e.1.1, fun e2 => by injection e2 with e2; exact e.1.2 e2.symm⟩
    rcases List.mem_append.1 hp with hp | hp
    · exact (ahead p hp).mono hc
    · simp at hp; subst hp
      exact ⟨fields.mono hc, bytes.isBS.mono (fun k _ e => ⟨e.1, fun e2 => by injection e2 with e2; exact e.2 e2.symm⟩), pbytes.mono hc⟩
/-- as it is read -/
theorem OutAt.isEs (h : OutAt w S tE tb ao cap es) : IsEs w ao cap es := by
  obtain ⟨ps, rfl, hO, _, hI⟩ := h.own
  have hv := hO.isV
  refine ⟨hv.1, hv.2.1, fun j hj => ?_⟩
  have hj' : j < ps.length := by simpa using hj
  have h0 : 0 < (rowsV ps).length := by rw [rowsV_length]; omega
  obtain ⟨b, o, rfl, hc⟩ := hv.lit h0
  refine ⟨b, o, ps[j].2, rfl, ?_⟩
  rw [List.getElem_map]
  have hin := hI _ (List.getElem_mem hj')
  refine ⟨fun i u hi => ?_, hin.fields.is, hin.bytes.is, hin.pbytes.is⟩
  have hl : i < 12 := (List.getElem?_eq_some_iff.1 hi).1
  rw [← rowsV_at _ j hj' i hl] at hi
  have := hc _ _ hi
  rw [Nat.add_assoc]; exact this
/-- its last event -/
theorem OutAt.last {q : List EvD} {x : EvD} (h : OutAt w S tE tb ao cap es) (he : es = q ++ [x]) : ∃ (qs : List (EvD × EvS)) (s : EvS) (g : Nat), qs.map (·.1) = q ∧ ao = some ⟨g, 0, none⟩ ∧
    OwnV w 0 tE 12 (some ⟨g, 0, none⟩) cap (qs.length + 1) (rowsV (qs ++ [(x, s)])) ∧ S g ∧ (∀ p ∈ qs, InE w (fun k => (S k ∧ k ≠ g) ∧ lastB x s ≠ some k) p.1 p.2) ∧
    IsVS w (fun k => (S k ∧ k ≠ g) ∧ lastB x s ≠ some k) s.fo s.fcap x.fields.length (pairV x.fields) ∧ IsBS w (fun k => (S k ∧ k ≠ g) ∧ lastB x s ≠ some k) s.po s.pcap x.pbytes ∧ GrowB w (fun k => S k ∧ k ≠ g) tb s.bo s.bcap x.bytes := by
  cases h with
  | bare => simp at he
  | laid qs e s g cap own mem ahead fields pbytes bytes =>
    obtain ⟨h1, h2⟩ := List.append_inj' he rfl
    injection h2 with h2 _
    subst h2
    exact ⟨qs, s, g, h1, rfl, own, mem, ahead, fields, pbytes, bytes⟩
/-- one event more: its row grew -/
theorem OutAt.more {N : Nat → Prop} {ps : List (EvD × EvS)} {ao' : Option Addr} {cap' n : Nat} {e : EvD} {s : EvS}
    (hA : ∀ a, ao = some a → S a.block) (hI : ∀ p ∈ ps, InE w (fun k => S k ∧ blockOf ao ≠ some k) p.1 p.2)
    (hf : IsVS w (fun k => N k ∧ lastB e s ≠ some k) s.fo s.fcap e.fields.length (pairV e.fields)) (hp : IsBS w (fun k => N k ∧ lastB e s ≠ some k) s.po s.pcap e.pbytes) (hb : GrowB w N tb s.bo s.bcap e.bytes)
    (hN : ∀ k, S k → ¬ N k) (hO : OwnV w' 0 tE 12 ao' cap' n (rowsV (ps ++ [(e, s)]))) (hn : n = ps.length + 1)
    (hG : w.grownBy w' (blockOf ao)) (hat : blockOf ao' = blockOf ao ∨ blockOf ao' = some w.heap.size) :
    OutAt w' (fun k => S k ∨ N k ∨ k = w.heap.size) tE tb ao' cap' (ps.map (·.1) ++ [e]) := by
  subst hn
  have hT : Turns (fun k => blockOf ao = some k) w w' := Turns.of_grown hG (fun k e => e)
  have hBS : ∀ k, blockOf ao = some k → S k := fun k e => by
    cases ao with
    | none => cases e
    | some a => injection e with e; subst e; exact hA a rfl
  obtain ⟨g, rfl⟩ : ∃ g, ao' = some ⟨g, 0, none⟩ := by
    rcases hO.2 with ⟨_, h⟩ | ⟨g, cap, cur, h, _⟩
    · omega
    · injection h with h _ _; exact ⟨g, h⟩
  have hg : blockOf ao = some g ∨ g = w.heap.size := by
    rcases hat with h | h
    · exact Or.inl h.symm
    · injection h with h; exact Or.inr h
  have hlast : ∀ k, lastB e s = some k → N k := fun k h => by
    unfold lastB at h
    split at h
    · cases h
    · rcases hb with ⟨_, _, h3⟩ | ⟨h1, _⟩
      · cases hbo : s.bo with
        | none => rw [hbo] at h; cases h
        | some a => rw [hbo] at h; injection h with h; subst h; exact h3 a hbo
      · contradiction
  have hng : ∀ k, k < w.heap.size → N k → k ≠ g := fun k hk hNk e => by
    subst e
    rcases hg with h | h
    · exact hN k (hBS k h) hNk
    · omega
  refine .laid ps e s g cap' hO ?_ (fun p hp => ?_) ?_ ?_ ?_
  · rcases hg with h | h
    · exact Or.inl (hBS g h)
    · exact Or.inr (Or.inr h)
  · refine ((hI p hp).mono (S' := fun k => ((S k ∨ N k ∨ k = w.heap.size) ∧ k ≠ g) ∧ lastB e s ≠ some k ∧ blockOf ao ≠ some k) (fun k hk h => ⟨⟨Or.inl h.1, fun e => ?_⟩, fun e2 => hN k h.1 (hlast k e2), h.2⟩) |>.turns hT (fun k h => h.2.2)).mono (fun k _ h => ⟨h.1, h.2.1⟩)
    subst e
    rcases hg with h2 | h2
    · exact h.2 h2
    · omega
  · exact (hf.mono (S' := fun k => ((S k ∨ N k ∨ k = w.heap.size) ∧ k ≠ g) ∧ lastB e s ≠ some k ∧ N k) (fun k hk h => ⟨⟨Or.inr (Or.inl h.1), hng k hk h.1⟩, h.2, h.1⟩) |>.turns hT (fun k h e2 => hN k (hBS k e2) h.2.2)).mono (fun k _ h => ⟨h.1, h.2.1⟩)
  · exact (hp.mono (S' := fun k => ((S k ∨ N k ∨ k = w.heap.size) ∧ k ≠ g) ∧ lastB e s ≠ some k ∧ N k) (fun k hk h => ⟨⟨Or.inr (Or.inl h.1), hng k hk h.1⟩, h.2, h.1⟩) |>.turns hT (fun k h e2 => hN k (hBS k e2) h.2.2)).mono (fun k _ h => ⟨h.1, h.2.1⟩)
  · exact (hb.mono (S' := fun k => ((S k ∨ N k ∨ k = w.heap.size) ∧ k ≠ g) ∧ N k) (fun k hk h => ⟨⟨Or.inr (Or.inl h), hng k hk h⟩, h⟩) |>.turns hT (fun k h e2 => hN k (hBS k e2) h.2)).mono (fun k _ h => h.1)
theorem rowsV_set (q : List (EvD × EvS)) (e : EvD) (s : EvS) (l : List UInt8) (bo : Option Addr) (bcap n : Nat) (hn : n = l.length) :
    (rowsV (q ++ [(e, s)])).set (q.length * 12 + 6) (.slice bo n bcap) = rowsV (q ++ [({ e with bytes := l }, { s with bo := bo, bcap := bcap })]) := by
  subst hn
  rw [rowsV_append, rowsV_append, List.set_append_right _ _ (by rw [rowsV_length]; omega), rowsV_length, Nat.add_sub_cancel_left]
  rfl
/-- bytes more of the last event: they grew, and are laid into it -/
theorem OutAt.merge {w1 : World} {q : List (EvD × EvS)} {e : EvD} {s : EvS} {g n : Nat} {l : List UInt8} {bo : Option Addr} {bcap : Nat}
    (own : OwnV w 0 tE 12 (some ⟨g, 0, none⟩) cap (q.length + 1) (rowsV (q ++ [(e, s)]))) (mem : S g)
    (ahead : ∀ p ∈ q, InE w (fun k => (S k ∧ k ≠ g) ∧ lastB e s ≠ some k) p.1 p.2)
    (fields : IsVS w (fun k => (S k ∧ k ≠ g) ∧ lastB e s ≠ some k) s.fo s.fcap e.fields.length (pairV e.fields))
    (pbytes : IsBS w (fun k => (S k ∧ k ≠ g) ∧ lastB e s ≠ some k) s.po s.pcap e.pbytes)
    (bytes : GrowB w (fun k => S k ∧ k ≠ g) tb s.bo s.bcap e.bytes)
    (hO : GrowB w1 (fun k => lastB e s = some k ∨ w.heap.size ≤ k) tb bo bcap l) (hn : n = l.length) (hT : Turns (fun k => lastB e s = some k) w w1) :
    OutAt (w1.setCell ⟨g, q.length * 12 + 6, none⟩ (.slice bo n bcap)) (orNew S w) tE tb (some ⟨g, 0, none⟩) cap (q.map (·.1) ++ [{ e with bytes := l }]) ∧ Turns S w (w1.setCell ⟨g, q.length * 12 + 6, none⟩ (.slice bo n bcap)) := by
  have hlast : ∀ k, lastB e s = some k → S k ∧ k ≠ g := fun k h => by
    unfold lastB at h
    split at h
    · cases h
    · rcases bytes with ⟨_, _, h3⟩ | ⟨h1, _⟩
      · cases hbo : s.bo with
        | none => rw [hbo] at h; cases h
        | some a => rw [hbo] at h; injection h with h; subst h; exact h3 a hbo
      · contradiction
  have hgl : g < w.heap.size := (own.block _ rfl).2
  have hT2 : Turns S w (w1.setCell ⟨g, q.length * 12 + 6, none⟩ (.slice bo n bcap)) := (hT.mono (fun k e => (hlast k e).1)).trans (Turns.setCell S w1 _ _ mem) (fun _ e _ => e)
  have hS : Turns (fun k => k = g) w1 (w1.setCell ⟨g, q.length * 12 + 6, none⟩ (.slice bo n bcap)) := Turns.setCell (fun k => k = g) w1 _ _ rfl
  have own1 : OwnV w1 0 tE 12 (some ⟨g, 0, none⟩) cap (q.length + 1) (rowsV (q ++ [(e, s)])) := own.turns hT (fun a e h => by injection e with e; subst e; exact (hlast _ h).2 rfl)
  have own2 := (World.ownsRow.stored own1 (q.length * 12 + 6) (.slice bo n bcap)).1
  rw [rowsV_set q e s l bo bcap n hn] at own2
  refine ⟨?_, hT2⟩
  have hlb : ∀ k, lastB { e with bytes := l } { s with bo := bo, bcap := bcap } = some k → lastB e s = some k ∨ w.heap.size ≤ k := fun k h => by
    unfold lastB at h
    simp only at h
    split at h
    · cases h
    · rcases hO with ⟨_, _, h3⟩ | ⟨h1, _⟩
      · cases hbo : bo with
        | none => rw [hbo] at h; cases h
        | some a => rw [hbo] at h; injection h with h; subst h; exact h3 a hbo
      · contradiction
  have hmove : ∀ k, k < w.heap.size → ((S k ∧ k ≠ g) ∧ lastB e s ≠ some k) → ((orNew S w k ∧ k ≠ g) ∧ lastB { e with bytes := l } { s with bo := bo, bcap := bcap } ≠ some k) ∧ lastB e s ≠ some k := fun k hk h => ⟨⟨⟨Or.inl h.1.1, h.1.2⟩, fun e2 => by
    rcases hlb k e2 with e3 | e3
    · exact h.2 e3
    · omega⟩, h.2⟩
  refine .laid q _ { s with bo := bo, bcap := bcap } g cap own2 (Or.inl mem) (fun p hp => ?_) ?_ ?_ ?_
  · exact (((ahead p hp).mono hmove).turns hT (fun k h => h.2)).turns hS (fun k h => h.1.1.2) |>.mono (fun k _ h => h.1)
  · exact ((fields.mono hmove).turns hT (fun k h => h.2)).turns hS (fun k h => h.1.1.2) |>.mono (fun k _ h => h.1)
  · exact ((pbytes.mono hmove).turns hT (fun k h => h.2)).turns hS (fun k h => h.1.1.2) |>.mono (fun k _ h => h.1)
  · refine (hO.mono (S' := fun k => orNew S w k ∧ k ≠ g) (fun k _ h => ?_)).turns hS (fun k h => h.2)
    rcases h with h | h
    · exact ⟨Or.inl (hlast k h).1, (hlast k h).2⟩
    · exact ⟨Or.inr h, by omega⟩
end
end Go.Proofs.YtdclmpdjjkjfjaaGreatDoor

/- Entries in memory, in a row, of whatever program: as they are read, and as an object holds them. -/
namespace Go.Proofs.YtdclmpdjjkjfjaaGreatDoor
open Go.RowKit

/-- where an entry's text lie -/
structure EnS where
  bo : Option Addr
  bcap : Nat
def enC (u : Jn.E) (s : EnS) : List Value := [.int .i64 u.kind, .int .i64 u.id, .int .i64 u.n, .slice s.bo u.text.length s.bcap]
def enV (us : List (Jn.E × EnS)) : List Value := us.flatMap fun x => enC x.1 x.2
theorem enV_append (a b : List (Jn.E × EnS)) : enV (a ++ b) = enV a ++ enV b := by simp [enV]
theorem enV_one (u : Jn.E) (s : EnS) : enV [(u, s)] = enC u s := by simp [enV]
theorem enV_length (us : List (Jn.E × EnS)) : (enV us).length = us.length * 4 := by
  induction us with
  | nil => rfl
  | cons p t ih =>
    have e : (enC p.1 p.2).length = 4 := rfl
    simp only [enV, List.flatMap_cons, List.length_append, List.length_cons] at ih ⊢
    rw [ih, e]; omega
theorem enC_one (u : Jn.E) (s : EnS) : ∀ v ∈ enC u s, v.oneCell' = true := by
  intro v hv
  simp only [enC, List.mem_cons, List.not_mem_nil, or_false] at hv
  rcases hv with rfl | rfl | rfl | rfl <;> rfl
theorem enV_at : ∀ (us : List (Jn.E × EnS)) (i : Nat) (hi : i < us.length) (j : Nat), j < 4 → (enV us)[i * 4 + j]? = (enC us[i].1 us[i].2)[j]?
  | p :: t, 0, _, j, hj => by
    show (enC p.1 p.2 ++ enV t)[0 * 4 + j]? = _
    rw [List.getElem?_append_left (by rw [show (enC p.1 p.2).length = 4 from rfl]; omega), Nat.zero_mul, Nat.zero_add]
    rfl
  | p :: t, i + 1, hi, j, hj => by
    show (enC p.1 p.2 ++ enV t)[(i + 1) * 4 + j]? = _
    rw [List.getElem?_append_right (by rw [show (enC p.1 p.2).length = 4 from rfl]; omega), show (enC p.1 p.2).length = 4 from rfl, show (i + 1) * 4 + j - 4 = i * 4 + j by omega]
    exact enV_at t i (by simpa using hi) j hj
/-- entries in a row, as they are read -/
def IsEns (w : World) (ao : Option Addr) (cap : Nat) (l : List Jn.E) : Prop := ∃ us : List (Jn.E × EnS), us.map (·.1) = l ∧ IsV w ao cap l.length (enV us) ∧ ∀ x ∈ us, IsB w x.2.bo x.2.bcap x.1.text
theorem IsEns.stay {w w' : World} {ao : Option Addr} {cap : Nat} {l : List Jn.E} (h : IsEns w ao cap l) (hb : Below w.heap.size w w') : IsEns w' ao cap l := by
  obtain ⟨us, h1, h2, h3⟩ := h
  exact ⟨us, h1, h2.stay hb, fun x hx => (h3 x hx).stay hb⟩
theorem IsEns.nil (w : World) : IsEns w none 0 [] := ⟨[], rfl, IsV.nil w, fun q hq => by cases hq⟩
/-- an entry's cells -/
theorem IsEns.at_ {w : World} {ao : Option Addr} {cap : Nat} {l : List Jn.E} (h : IsEns w ao cap l) (k : Nat) (hk : k < l.length) : ∃ (b o : Nat) (s : EnS), ao = some ⟨b, o, none⟩ ∧ w.cell? ⟨b, o + k * 4, none⟩ = some (.int .i64 l[k].kind) ∧ w.cell? ⟨b, o + k * 4 + 1, none⟩ = some (.int .i64 l[k].id) ∧ w.cell? ⟨b, o + k * 4 + 2, none⟩ = some (.int .i64 l[k].n) ∧ w.cell? ⟨b, o + k * 4 + 3, none⟩ = some (.slice s.bo l[k].text.length s.bcap) ∧ IsB w s.bo s.bcap l[k].text := by
  obtain ⟨us, rfl, hv, hb⟩ := h
  have hk' : k < us.length := by simpa using hk
  obtain ⟨b, o, rfl, hc⟩ := hv.lit (by rw [enV_length]; omega)
  have hq := hb _ (List.getElem_mem hk')
  have e0 := enV_at us k hk' 0 (by decide)
  have e1 := enV_at us k hk' 1 (by decide)
  have e2 := enV_at us k hk' 2 (by decide)
  have e3 := enV_at us k hk' 3 (by decide)
  refine ⟨b, o, us[k].2, rfl, ?_, ?_, ?_, ?_, ?_⟩
  · rw [List.getElem_map]; exact hc _ _ (by rw [Nat.add_zero] at e0; exact e0)
  · rw [List.getElem_map, Nat.add_assoc]; exact hc _ _ e1
  · rw [List.getElem_map, Nat.add_assoc]; exact hc _ _ e2
  · rw [List.getElem_map, Nat.add_assoc]; exact hc _ _ e3
  · rw [List.getElem_map]; exact hq
/-- entries in a row of an object's own, their texts with them, all of it among the blocks S -/
def EnsAt (w : World) (S : Nat → Prop) (tU : Nat) (ao : Option Addr) (cap : Nat) (l : List Jn.E) : Prop :=
  ∃ us : List (Jn.E × EnS), us.map (·.1) = l ∧ OwnV w 0 tU 4 ao cap l.length (enV us) ∧ (∀ a, ao = some a → S a.block) ∧ ∀ x ∈ us, IsBS w (fun k => S k ∧ blockOf ao ≠ some k) x.2.bo x.2.bcap x.1.text
section
variable {w w' : World} {S S' : Nat → Prop} {tU : Nat} {ao : Option Addr} {cap : Nat} {l : List Jn.E}
theorem EnsAt.nil (w : World) (S : Nat → Prop) (tU : Nat) : EnsAt w S tU none 0 [] := ⟨[], rfl, OwnV.nil _ _ _ _, fun a e => (by cases e), fun p hp => (by cases hp)⟩
theorem EnsAt.isEns (h : EnsAt w S tU ao cap l) : IsEns w ao cap l := by
  obtain ⟨us, h1, h2, _, h4⟩ := h
  exact ⟨us, h1, h2.isV, fun x hx => (h4 x hx).is⟩
theorem EnsAt.turns (h : EnsAt w S tU ao cap l) (ht : Turns S' w w') (hs : ∀ k, S k → ¬ S' k) : EnsAt w' S tU ao cap l := by
  obtain ⟨us, h1, h2, h3, h4⟩ := h
  exact ⟨us, h1, h2.turns ht (fun a e => hs _ (h3 a e)), h3, fun x hx => (h4 x hx).turns ht (fun k e => hs k e.1)⟩
theorem EnsAt.mono (h : EnsAt w S tU ao cap l) (hs : ∀ k, k < w.heap.size → S k → S' k) : EnsAt w S' tU ao cap l := by
  obtain ⟨us, h1, h2, h3, h4⟩ := h
  exact ⟨us, h1, h2, fun a e => hs _ (h2.block a e).2 (h3 a e), fun x hx => (h4 x hx).mono (fun k hk e => ⟨hs k hk e.1, e.2⟩)⟩
theorem EnsAt.stay (h : EnsAt w S tU ao cap l) (hb : Below w.heap.size w w') : EnsAt w' S tU ao cap l := h.turns (Turns.of_below (S := fun _ => False) hb) (fun _ _ e => e)
/-- one entry more, its cells in a block just made -/
theorem EnsAt.push {W : World} (h : EnsAt W S tU ao cap l) (ob : Obj) : ∃ xs, OwnV (W.alloc ob) 0 tU 4 ao cap l.length xs ∧
    ∀ ao' cap' w' (u : Jn.E) (s : EnS) (N : Nat → Prop), IsBS W N s.bo s.bcap u.text → (∀ k, S k → ¬ N k) → OwnV w' 0 tU 4 ao' cap' (l.length + 1) (xs ++ enC u s) → (W.alloc ob).grownBy w' (blockOf ao) → (blockOf ao' = blockOf ao ∨ blockOf ao' = some (W.alloc ob).heap.size) → EnsAt w' (fun k => S k ∨ N k ∨ W.heap.size ≤ k) tU ao' cap' (l ++ [u]) ∧ Turns S W w' := by
  obtain ⟨us, h1, h2, h3, h4⟩ := h
  have hb : Below W.heap.size W (W.alloc ob) := (Below.refl _ _).alloc (Nat.le_refl _) _
  have hBS : ∀ k, blockOf ao = some k → S k := fun k e => by
    cases ao with
    | none => cases e
    | some a => injection e with e; subst e; exact h3 a rfl
  refine ⟨enV us, h2.stay hb, fun ao' cap' w' u s N hB hN hO' hG hat => ?_⟩
  have hT : Turns (fun k => blockOf ao = some k) W w' := (Turns.of_below hb).trans (Turns.of_grown hG (fun k e => e)) (fun _ e _ => e)
  have hne : ∀ k, k < W.heap.size → blockOf ao ≠ some k → blockOf ao' ≠ some k := fun k hk h e => by
    rcases hat with g | g
    · rw [g] at e; exact h e
    · rw [g, World.size_alloc] at e; injection e with e; omega
  refine ⟨⟨us ++ [(u, s)], by simp [h1], by rw [enV_append, enV_one, List.length_append]; exact hO', fun a e => ?_, fun x hx => ?_⟩, hT.mono (fun k e => hBS k e)⟩
  · subst e
    rcases hat with g | g
    · exact Or.inl (hBS _ (g.symm.trans rfl))
    · rw [World.size_alloc] at g; injection g with g; exact Or.inr (Or.inr (by omega))
  · rcases List.mem_append.1 hx with hx | hx
    · exact (((h4 x hx).mono (S' := fun k => (S k ∧ blockOf ao ≠ some k) ∧ k < W.heap.size) (fun k hk e => ⟨e, hk⟩)).turns hT (fun k e => e.1.2)).mono (fun k _ e => ⟨Or.inl e.1.1, hne k e.2 e.1.2⟩)
    · rw [List.mem_singleton.1 hx]
      have hno : ∀ k, N k → blockOf ao ≠ some k := fun k hk e => hN k (hBS k e) hk
      exact ((hB.mono (S' := fun k => N k ∧ k < W.heap.size) (fun k hk e => ⟨e, hk⟩)).turns hT (fun k e => hno k e.1)).mono (fun k _ e => ⟨Or.inr (Or.inl e.1), hne k e.2 (hno k e.1)⟩)
end
end Go.Proofs.YtdclmpdjjkjfjaaGreatDoor
